/-
  spec.HoldsFault, spec.l9Hold, spec.l9Max.
-/
import Derived.Test.YtagcefbnhpkdiabTri
import Derived.Test.YtagcefbnhpkdiabL4In
import Derived.Test.YtagcefbnhpkdiabBlk
namespace Go.Proofs.Ytagcefbnhpkdiab
set_option maxRecDepth 100000
set_option maxHeartbeats 4000000
open Go.RowKit
set_option linter.unusedVariables false
set_option linter.unusedSimpArgs false

def hdBad (l : T3) : Bool := !inB l.1 0 511 || !inB l.2.1 1 2147483647 || !inB l.2.2 0 1000
def hdAfter (a b : T3) : Bool := decide (b.1 ≤ a.1)
def holdsF (ls : List T3) : Int := if 512 < ls.length then 1 else if nbr hdAfter ls then 1 else if ls.any hdBad then 2 else 0
theorem holdsF_len {ls : List T3} (h : holdsF ls = 0) : ls.length ≤ 512 := by
  unfold holdsF at h
  by_cases hl : 512 < ls.length
  · rw [if_pos hl] at h; cases h
  · omega

theorem specHoldsFault_any (x : FR) (w : World) (hv : RdF 3 w x) :
    Calls Try.prog 30 #[x.v] w fun e w' => e = .returned (.int .i64 (holdsF (tri x.bs))) ∧ Same w w' := by
  obtain ⟨xe, xa, n, xc, bs⟩ := x
  have hm : n ≤ maxLen := hv.1
  unfold maxLen at hm
  have hl := tri_length n bs hv.2.1
  dsimp only [FR.v]
  have HV := hid hv
  clear hv
  obtain ⟨R, hR⟩ : ∃ R, holdsF (tri bs) = R := ⟨_, rfl⟩
  rw [hR]
  unfold holdsF at hR
  by_cases hb : 512 < n
  · rw [if_pos (by omega)] at hR
    subst hR
    go_enter Try.func30, Try.ntmps30
    go_wp2
    go_ret
    exact ⟨rfl, Kept.refl _ _⟩
  rw [if_neg (by omega)] at hR
  have HR := hid hR
  have HL := hid hl
  clear hR hl
  go_enter Try.func30, Try.ntmps30
  go_wp2_with fail
  go_loopw [3] (fun i wr => ∃ j : Nat, 1 ≤ j ∧ (j ≤ n ∨ j = 1) ∧ i = .int .i64 j ∧ Hid (∀ (i : Nat) (h : i + 1 < (tri bs).length), i + 1 < j → hdAfter (tri bs)[i] (tri bs)[i + 1] = false) ∧ Hid (Same w wr)) (fun i _ => n - (intOf i).toNat)
  case atStart => exact ⟨1, by omega, .inr rfl, rfl, fun i h hj => by omega, Kept.refl _ _⟩
  case round =>
    obtain ⟨j, hj1, hj, rfl, HAr, HKr⟩ := hrel
    by_cases hlt : j < n
    · obtain ⟨b, off, ha, hc⟩ := HV.out.some (show 0 < n by omega)
      dsimp only at ha hc
      subst ha
      obtain ⟨m, rfl⟩ : ∃ m, j = m + 1 := ⟨j - 1, by omega⟩
      have hla : m < (tri bs).length := by rw [HL.out]; omega
      obtain ⟨⟨x, y, z⟩, hxa⟩ : ∃ q, (tri bs)[m] = q := ⟨_, rfl⟩
      have HXa := hid hxa
      obtain ⟨da0, da1, da2⟩ := (HV.out.same HKr.out).tri m hla _ _ _ hxa
      clear hxa
      have em : ((m + 1 : Nat) : Int) - 1 = (m : Int) := by omega
      have mm : (m : Int) < (n : Int) := by omega
      have hlb : m + 1 < (tri bs).length := by rw [HL.out]; omega
      obtain ⟨⟨x2, y2, z2⟩, hxb⟩ : ∃ q, (tri bs)[m + 1] = q := ⟨_, rfl⟩
      have HXb := hid hxb
      obtain ⟨db0, db1, db2⟩ := (HV.out.same HKr.out).tri (m + 1) hlb _ _ _ hxb
      clear hxb
      by_cases h1 : x2 ≤ x
      · go_wp2
        go_quiet (fail)
        go_wp2
        go_ret
        exact ⟨by have h := HR.out; rw [if_pos (nbr_yes m hlb (by rw [HXa.out, HXb.out]; simp [hdAfter, h1]))] at h; subst h; rfl, HKr.out.drewN _⟩
      · go_wp2
        go_quiet (fail)
        go_wp2
        go_roundw
        case rel => exact ⟨m + 1 + 1, by omega, by omega, by go_num, fun i hi hj => by
          by_cases hik : i + 1 < m + 1
          · exact HAr.out i hi hik
          · obtain rfl : i = m := by omega
            rw [HXa.out, HXb.out]; simp [hdAfter]; omega, HKr.out.drewN _⟩
        case measure => simp [intOf]; omega
    · have h := HR.out
      rw [if_neg (by rw [nbr_no (fun i hi => HAr.out i hi (by have := HL.out; omega))]; exact Bool.false_ne_true)] at h
      have HR2 := hid h
      clear h HR HAr
      have HKs := HKr
      clear HKr
      go_wp2_with fail
      go_loopw [4] (fun i wr => ∃ k : Nat, k ≤ n ∧ i = .int .i64 k ∧ Hid (∀ (j : Nat) (h : j < (tri bs).length), j < k → hdBad (tri bs)[j] = false) ∧ Hid (Same w wr)) (fun i _ => n - (intOf i).toNat)
      case atStart => exact ⟨0, Nat.zero_le _, rfl, fun j h hj => by omega, HKs⟩
      case round =>
        obtain ⟨k, hk, rfl, HA, HK⟩ := hrel
        by_cases hlt : k < n
        · obtain ⟨b, off, ha, hc⟩ := HV.out.some (show 0 < n by omega)
          dsimp only at ha hc
          subst ha
          have hla : k < (tri bs).length := by rw [HL.out]; omega
          obtain ⟨⟨x, y, z⟩, hxa⟩ : ∃ q, (tri bs)[k] = q := ⟨_, rfl⟩
          have HXa := hid hxa
          obtain ⟨da0, da1, da2⟩ := (HV.out.same HK.out).tri (k) hla _ _ _ hxa
          clear hxa
          have HKa := (show Hid (Same w (wr.alloc (.cells #[.int .i64 x, .int .i64 y, .int .i64 z] 53))) from HK.out.alloc _)
          have ba := Blk.newL wr [.int .i64 x, .int .i64 y, .int .i64 z] 53
          have k1 := fun wx => l4In_any x 0 511 wx
          have k2 := fun wx => l4In_any y 1 2147483647 wx
          have k3 := fun wx => l4In_any z 0 1000 wx
          cases f1 : inB x 0 511 with
          | false =>
            rw [f1] at k1
            go_wp2_with fail
            refine (k1 _).mono ?_
            rintro e w1 ⟨rfl, hk1⟩
            have HK1 := hid (HKa.out.trans hk1)
            go_wp2
            go_ret
            exact ⟨by have h := HR2.out; rw [if_pos (any3_yes k hla (by rw [HXa.out]; simp [hdBad, f1]))] at h; subst h; rfl, HK1.out⟩
          | true =>
            rw [f1] at k1
            go_wp2_with fail
            refine (k1 _).mono ?_
            rintro e w1 ⟨rfl, hk1⟩
            have HK1 := hid (HKa.out.trans hk1)
            have b1 := ba.same hk1
            obtain ⟨c10, c11, c12⟩ := b1.all3
            clear hk1
            cases f2 : inB y 1 2147483647 with
            | false =>
              rw [f2] at k2
              go_wp2_with fail
              refine (k2 _).mono ?_
              rintro e w2 ⟨rfl, hk2⟩
              have HK2 := hid (HK1.out.trans hk2)
              go_wp2
              go_ret
              exact ⟨by have h := HR2.out; rw [if_pos (any3_yes k hla (by rw [HXa.out]; simp [hdBad, f1, f2]))] at h; subst h; rfl, HK2.out⟩
            | true =>
              rw [f2] at k2
              go_wp2_with fail
              refine (k2 _).mono ?_
              rintro e w2 ⟨rfl, hk2⟩
              have HK2 := hid (HK1.out.trans hk2)
              have b2 := b1.same hk2
              obtain ⟨c20, c21, c22⟩ := b2.all3
              clear hk2
              cases f3 : inB z 0 1000 with
              | false =>
                rw [f3] at k3
                go_wp2_with fail
                refine (k3 _).mono ?_
                rintro e w3 ⟨rfl, hk3⟩
                have HK3 := hid (HK2.out.trans hk3)
                go_wp2
                go_ret
                exact ⟨by have h := HR2.out; rw [if_pos (any3_yes k hla (by rw [HXa.out]; simp [hdBad, f1, f2, f3]))] at h; subst h; rfl, HK3.out⟩
              | true =>
                rw [f3] at k3
                go_wp2_with fail
                refine (k3 _).mono ?_
                rintro e w3 ⟨rfl, hk3⟩
                have HK3 := hid (HK2.out.trans hk3)
                go_wp2
                go_roundw
                case rel => exact ⟨k + 1, by omega, by go_num, fun j h hj => by
                  by_cases hjk : j < k
                  · exact HA.out j h hjk
                  · obtain rfl : j = k := by omega
                    rw [HXa.out]; simp [hdBad, f1, f2, f3], HK3⟩
                case measure => simp [intOf]; omega
        · obtain rfl : k = n := by omega
          have h := HR2.out
          rw [if_neg (by rw [any3_no (fun j hj => HA.out j hj (by rw [← HL.out]; exact hj))]; exact Bool.false_ne_true)] at h
          go_wp2
          go_ret
          exact ⟨by subst h; rfl, HK.out⟩

/-- what is held for an id -/
def holdOf (id : Int) : List T3 → Int
  | [] => -1
  | h :: hs => if h.1 = id then h.2.2 else holdOf id hs
theorem holdOf_at {id : Int} {hs : List T3} {k : Nat} (hk : k < hs.length) : holdOf id (hs.drop k) = if hs[k].1 = id then hs[k].2.2 else holdOf id (hs.drop (k + 1)) := by
  rw [List.drop_eq_getElem_cons hk]
  rfl
theorem specHold_any (x : FR) (id : Int) (w : World) (hv : RdF 3 w x) :
    Calls Try.prog 38 #[x.v, .int .i64 id] w fun e w' => e = .returned (.int .i64 (holdOf id (tri x.bs))) ∧ Same w w' := by
  obtain ⟨xe, xa, n, xc, bs⟩ := x
  have hm : n ≤ maxLen := hv.1
  unfold maxLen at hm
  have hl := tri_length n bs hv.2.1
  dsimp only [FR.v]
  have HV := hid hv
  clear hv
  obtain ⟨R, hR⟩ : ∃ R, holdOf id (tri bs) = R := ⟨_, rfl⟩
  rw [hR]
  have HR := hid hR
  have HL := hid hl
  clear hR hl
  go_enter Try.func38, Try.ntmps38
  go_wp2_with fail
  go_loopw [5] (fun i wr => ∃ k : Nat, k ≤ n ∧ i = .int .i64 k ∧ Hid (holdOf id ((tri bs).drop k) = R) ∧ Hid (Same w wr)) (fun i _ => n - (intOf i).toNat)
  case atStart => exact ⟨0, Nat.zero_le _, rfl, HR, Kept.refl _ _⟩
  case round =>
    obtain ⟨k, hk, rfl, HA, HK⟩ := hrel
    by_cases hlt : k < n
    · obtain ⟨b, off, ha, hc⟩ := HV.out.some (show 0 < n by omega)
      dsimp only at ha hc
      subst ha
      have hla : k < (tri bs).length := by rw [HL.out]; omega
      obtain ⟨⟨x, y, z⟩, hxa⟩ : ∃ q, (tri bs)[k] = q := ⟨_, rfl⟩
      have HXa := hid hxa
      obtain ⟨da0, da1, da2⟩ := (HV.out.same HK.out).tri (k) hla _ _ _ hxa
      clear hxa
      have HA2 := (show Hid ((if x = id then z else holdOf id ((tri bs).drop (k + 1))) = R) from by have h := HA.out; rw [holdOf_at hla, HXa.out] at h; exact h)
      by_cases h1 : x = id
      · subst h1
        go_wp2
        go_ret
        exact ⟨by have h := HA2.out; simp only [if_true] at h; subst h; rfl, HK.out⟩
      · have hne : (x == id) = false := by simp [h1]
        have H1 := hid h1
        go_wp2
        go_roundw
        case rel => exact ⟨k + 1, by omega, by go_num, by unfold Hid; have h := HA2.out; rw [if_neg H1.out] at h; exact h, HK⟩
        case measure => simp [intOf]; omega
    · obtain rfl : k = n := by omega
      have h := HA.out
      rw [← HL.out, List.drop_length] at h
      go_wp2
      go_ret
      exact ⟨by rw [← h]; rfl, HK.out⟩
def maxI (a b : Int) : Int := if b < a then a else b
theorem specMax_any (a b : Int) (w : World) : Calls Try.prog 37 #[.int .i64 a, .int .i64 b] w fun e w' => e = .returned (.int .i64 (maxI a b)) ∧ Same w w' := by
  unfold maxI
  by_cases h : b < a
  · rw [if_pos h]
    go_enter Try.func37, Try.ntmps37
    go_wp2
    go_ret
    exact ⟨rfl, Kept.refl _ _⟩
  · rw [if_neg h]
    go_enter Try.func37, Try.ntmps37
    go_wp2
    go_ret
    exact ⟨rfl, Kept.refl _ _⟩
end Go.Proofs.Ytagcefbnhpkdiab
