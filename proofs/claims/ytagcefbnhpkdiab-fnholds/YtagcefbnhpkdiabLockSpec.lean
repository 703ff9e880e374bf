/-
  spec.LocksFault (by tools/gen/lockspec.py).
-/
import Derived.Test.YtagcefbnhpkdiabTri
import Derived.Test.YtagcefbnhpkdiabL4In
import Derived.Test.YtagcefbnhpkdiabBlk
namespace Go.Proofs.Ytagcefbnhpkdiab
set_option maxRecDepth 100000
set_option maxHeartbeats 4000000
open Go.RowKit
set_option linter.unusedVariables false
set_option linter.unusedSimpArgs false

def lkBad (l : T3) : Bool := !inB l.1 0 511 || !inB l.2.1 1 2147483647 || !inB l.2.2 1 2
def lkAfter (a b : T3) : Bool := decide (b.1 < a.1) || decide (a.1 = b.1) && decide (b.2.1 ≤ a.2.1)
def lkClash (a b : T3) : Bool := decide (a.1 = b.1) && (decide (a.2.2 = 2) || decide (b.2.2 = 2))
def locksF (ls : List T3) : Int := if 4096 < ls.length then 1 else if ls.any lkBad then 2 else if nbr lkAfter ls then 3 else if nbr lkClash ls then 4 else 0

theorem specLocksFault_any (x : FR) (w : World) (hv : RdF 3 w x) :
    Calls Try.prog 46 #[x.v] w fun e w' => e = .returned (.int .i64 (locksF (tri x.bs))) ∧ Same w w' := by
  obtain ⟨xe, xa, n, xc, bs⟩ := x
  have hm : n ≤ maxLen := hv.1
  unfold maxLen at hm
  have hl := tri_length n bs hv.2.1
  dsimp only [FR.v]
  have HV := hid hv
  clear hv
  obtain ⟨R, hR⟩ : ∃ R, locksF (tri bs) = R := ⟨_, rfl⟩
  rw [hR]
  unfold locksF at hR
  by_cases hb : 4096 < n
  · rw [if_pos (by omega)] at hR
    subst hR
    go_enter Try.func46, Try.ntmps46
    go_wp2
    go_ret
    exact ⟨rfl, Kept.refl _ _⟩
  rw [if_neg (by omega)] at hR
  have HR := hid hR
  have HL := hid hl
  clear hR hl
  go_enter Try.func46, Try.ntmps46
  go_wp2_with fail
  go_loopw [3] (fun i wr => ∃ k : Nat, k ≤ n ∧ i = .int .i64 k ∧ Hid (∀ (j : Nat) (h : j < (tri bs).length), j < k → lkBad (tri bs)[j] = false) ∧ Hid (Same w wr)) (fun i _ => n - (intOf i).toNat)
  case atStart => exact ⟨0, Nat.zero_le _, rfl, fun j h hj => by omega, Kept.refl _ _⟩
  case round =>
    obtain ⟨k, hk, rfl, HA, HK⟩ := hrel
    by_cases hlt : k < n
    · obtain ⟨b, off, ha, hc⟩ := HV.out.some (show 0 < n by omega)
      dsimp only at ha hc
      subst ha
      have hla : k < (tri bs).length := by rw [HL.out]; omega
      obtain ⟨⟨x, y, z⟩, hxa⟩ : ∃ q, (tri bs)[k] = q := ⟨_, rfl⟩
      have HXa := hid hxa
      obtain ⟨da0, da1, da2⟩ := (HV.out.same HK.out).tri (k) hla _ _ _ hxa
      clear hxa
      have HKa := (show Hid (Same w (wr.alloc (.cells #[.int .i64 x, .int .i64 y, .int .i64 z] 73))) from HK.out.alloc _)
      have ba := Blk.newL wr [.int .i64 x, .int .i64 y, .int .i64 z] 73
      have k1 := fun wx => l4In_any x 0 511 wx
      have k2 := fun wx => l4In_any y 1 2147483647 wx
      have k3 := fun wx => l4In_any z 1 2 wx
      cases f1 : inB x 0 511 with
      | false =>
        rw [f1] at k1
        go_wp2_with fail
        refine (k1 _).mono ?_
        rintro e w1 ⟨rfl, hk1⟩
        have HK1 := hid (HKa.out.trans hk1)
        go_wp2
        go_ret
        exact ⟨by have h := HR.out; rw [if_pos (any3_yes k hla (by rw [HXa.out]; simp [lkBad, f1]))] at h; subst h; rfl, HK1.out⟩
      | true =>
        rw [f1] at k1
        go_wp2_with fail
        refine (k1 _).mono ?_
        rintro e w1 ⟨rfl, hk1⟩
        have HK1 := hid (HKa.out.trans hk1)
        have b1 := ba.same hk1
        obtain ⟨c10, c11, c12⟩ := b1.all3
        clear hk1
        cases f2 : inB y 1 2147483647 with
        | false =>
          rw [f2] at k2
          go_wp2_with fail
          refine (k2 _).mono ?_
          rintro e w2 ⟨rfl, hk2⟩
          have HK2 := hid (HK1.out.trans hk2)
          go_wp2
          go_ret
          exact ⟨by have h := HR.out; rw [if_pos (any3_yes k hla (by rw [HXa.out]; simp [lkBad, f1, f2]))] at h; subst h; rfl, HK2.out⟩
        | true =>
          rw [f2] at k2
          go_wp2_with fail
          refine (k2 _).mono ?_
          rintro e w2 ⟨rfl, hk2⟩
          have HK2 := hid (HK1.out.trans hk2)
          have b2 := b1.same hk2
          obtain ⟨c20, c21, c22⟩ := b2.all3
          clear hk2
          cases f3 : inB z 1 2 with
          | false =>
            rw [f3] at k3
            go_wp2_with fail
            refine (k3 _).mono ?_
            rintro e w3 ⟨rfl, hk3⟩
            have HK3 := hid (HK2.out.trans hk3)
            go_wp2
            go_ret
            exact ⟨by have h := HR.out; rw [if_pos (any3_yes k hla (by rw [HXa.out]; simp [lkBad, f1, f2, f3]))] at h; subst h; rfl, HK3.out⟩
          | true =>
            rw [f3] at k3
            go_wp2_with fail
            refine (k3 _).mono ?_
            rintro e w3 ⟨rfl, hk3⟩
            have HK3 := hid (HK2.out.trans hk3)
            go_wp2
            go_roundw
            case rel => exact ⟨k + 1, by omega, by go_num, fun j h hj => by
              by_cases hjk : j < k
              · exact HA.out j h hjk
              · obtain rfl : j = k := by omega
                rw [HXa.out]; simp [lkBad, f1, f2, f3], HK3⟩
            case measure => simp [intOf]; omega
    · obtain rfl : k = n := by omega
      have h := HR.out
      rw [if_neg (by rw [any3_no (fun j hj => HA.out j hj (by rw [← HL.out]; exact hj))]; exact Bool.false_ne_true)] at h
      have HR3 := hid h
      clear h HR HA
      have HK3 := HK
      clear HK
      go_wp2_with fail
      go_loopw [5] (fun i wr => ∃ j : Nat, 1 ≤ j ∧ (j ≤ k ∨ j = 1) ∧ i = .int .i64 j ∧ Hid (∀ (i : Nat) (h : i + 1 < (tri bs).length), i + 1 < j → lkAfter (tri bs)[i] (tri bs)[i + 1] = false) ∧ Hid (Same w wr)) (fun i _ => k - (intOf i).toNat)
      case atStart => exact ⟨1, by omega, .inr rfl, rfl, fun i h hj => by omega, HK3⟩
      case round =>
        obtain ⟨j, hj1, hj, rfl, HAr, HKr⟩ := hrel
        by_cases hlt : j < k
        · obtain ⟨b, off, ha, hc⟩ := HV.out.some (show 0 < k by omega)
          dsimp only at ha hc
          subst ha
          obtain ⟨m, rfl⟩ : ∃ m, j = m + 1 := ⟨j - 1, by omega⟩
          have hla : m < (tri bs).length := by rw [HL.out]; omega
          obtain ⟨⟨x, y, z⟩, hxa⟩ : ∃ q, (tri bs)[m] = q := ⟨_, rfl⟩
          have HXa := hid hxa
          obtain ⟨da0, da1, da2⟩ := (HV.out.same HKr.out).tri (m) hla _ _ _ hxa
          clear hxa
          have em : ((m + 1 : Nat) : Int) - 1 = (m : Int) := by omega
          have mm : (m : Int) < (k : Int) := by omega
          have ba := (Blk.newL wr [.int .i64 x, .int .i64 y, .int .i64 z] 73).all3
          obtain ⟨ba0, ba1, ba2⟩ := ba
          have HKa := (show Hid (Same w (wr.alloc (.cells #[.int .i64 x, .int .i64 y, .int .i64 z] 73))) from HKr.out.alloc _)
          have hlb : m + 1 < (tri bs).length := by rw [HL.out]; omega
          obtain ⟨⟨x2, y2, z2⟩, hxb⟩ : ∃ q, (tri bs)[m + 1] = q := ⟨_, rfl⟩
          have HXb := hid hxb
          obtain ⟨db0, db1, db2⟩ := (HV.out.same HKa.out).tri (m + 1) hlb _ _ _ hxb
          clear hxb
          by_cases h1 : x2 < x
          · go_wp2
            go_ret
            exact ⟨by have h := HR3.out; rw [if_pos (nbr_yes m hlb (by rw [HXa.out, HXb.out]; simp [lkAfter, h1]))] at h; subst h; rfl, by repeat (first | exact HKr.out | refine Kept.alloc ?_ _)⟩
          · by_cases h2 : x = x2
            · subst h2
              by_cases h3 : y2 ≤ y
              · go_wp2
                go_ret
                exact ⟨by have h := HR3.out; rw [if_pos (nbr_yes m hlb (by rw [HXa.out, HXb.out]; simp [lkAfter, h3]))] at h; subst h; rfl, by repeat (first | exact HKr.out | refine Kept.alloc ?_ _)⟩
              · go_wp2
                go_roundw
                case rel => exact ⟨m + 1 + 1, by omega, by omega, by go_num, fun i hi hj => by
                  by_cases hik : i + 1 < m + 1
                  · exact HAr.out i hi hik
                  · obtain rfl : i = m := by omega
                    rw [HXa.out, HXb.out]; simp [lkAfter, h3]; try omega, by repeat (first | exact HKr.out | refine Kept.alloc ?_ _)⟩
                case measure => simp [intOf]; omega
            · go_wp2
              go_roundw
              case rel => exact ⟨m + 1 + 1, by omega, by omega, by go_num, fun i hi hj => by
                by_cases hik : i + 1 < m + 1
                · exact HAr.out i hi hik
                · obtain rfl : i = m := by omega
                  rw [HXa.out, HXb.out]; simp [lkAfter, h2]; try omega, by repeat (first | exact HKr.out | refine Kept.alloc ?_ _)⟩
              case measure => simp [intOf]; omega
        · have h := HR3.out
          rw [if_neg (by rw [nbr_no (fun i hi => HAr.out i hi (by have := HL.out; omega))]; exact Bool.false_ne_true)] at h
          have HR4 := hid h
          clear h HR3 HAr
          obtain ⟨w4, hw4⟩ : ∃ x, x = wr := ⟨_, rfl⟩
          subst hw4
          go_wp2_with fail
          go_loopw [8] (fun i wr => ∃ j : Nat, 1 ≤ j ∧ (j ≤ k ∨ j = 1) ∧ i = .int .i64 j ∧ Hid (∀ (i : Nat) (h : i + 1 < (tri bs).length), i + 1 < j → lkClash (tri bs)[i] (tri bs)[i + 1] = false) ∧ Hid (Same w wr)) (fun i _ => k - (intOf i).toNat)
          case atStart => exact ⟨1, by omega, .inr rfl, rfl, fun i h hj => by omega, HKr⟩
          case round =>
            obtain ⟨j, hj1, hj, rfl, HAr, HKr⟩ := hrel
            by_cases hlt : j < k
            · obtain ⟨b, off, ha, hc⟩ := HV.out.some (show 0 < k by omega)
              dsimp only at ha hc
              subst ha
              obtain ⟨m, rfl⟩ : ∃ m, j = m + 1 := ⟨j - 1, by omega⟩
              have hla : m < (tri bs).length := by rw [HL.out]; omega
              obtain ⟨⟨x, y, z⟩, hxa⟩ : ∃ q, (tri bs)[m] = q := ⟨_, rfl⟩
              have HXa := hid hxa
              obtain ⟨da0, da1, da2⟩ := (HV.out.same HKr.out).tri (m) hla _ _ _ hxa
              clear hxa
              have em : ((m + 1 : Nat) : Int) - 1 = (m : Int) := by omega
              have mm : (m : Int) < (k : Int) := by omega
              have ba := (Blk.newL wr [.int .i64 x, .int .i64 y, .int .i64 z] 73).all3
              obtain ⟨ba0, ba1, ba2⟩ := ba
              have HKa := (show Hid (Same w (wr.alloc (.cells #[.int .i64 x, .int .i64 y, .int .i64 z] 73))) from HKr.out.alloc _)
              have hlb : m + 1 < (tri bs).length := by rw [HL.out]; omega
              obtain ⟨⟨x2, y2, z2⟩, hxb⟩ : ∃ q, (tri bs)[m + 1] = q := ⟨_, rfl⟩
              have HXb := hid hxb
              obtain ⟨db0, db1, db2⟩ := (HV.out.same HKa.out).tri (m + 1) hlb _ _ _ hxb
              clear hxb
              by_cases h2 : x = x2
              · subst h2
                by_cases h3 : z = 2
                · subst h3
                  go_wp2
                  go_ret
                  exact ⟨by have h := HR4.out; rw [if_pos (nbr_yes m hlb (by rw [HXa.out, HXb.out]; simp [lkClash]))] at h; subst h; rfl, by repeat (first | exact HKr.out | refine Kept.alloc ?_ _)⟩
                · by_cases h4 : z2 = 2
                  · subst h4
                    go_wp2
                    go_ret
                    exact ⟨by have h := HR4.out; rw [if_pos (nbr_yes m hlb (by rw [HXa.out, HXb.out]; simp [lkClash]))] at h; subst h; rfl, by repeat (first | exact HKr.out | refine Kept.alloc ?_ _)⟩
                  · have e3 : (z == 2) = false := by simp [h3]
                    have e4 : (z2 == 2) = false := by simp [h4]
                    go_wp2
                    go_roundw
                    case rel => exact ⟨m + 1 + 1, by omega, by omega, by go_num, fun i hi hj => by
                      by_cases hik : i + 1 < m + 1
                      · exact HAr.out i hi hik
                      · obtain rfl : i = m := by omega
                        rw [HXa.out, HXb.out]; simp [lkClash, h3, h4]; try omega, by repeat (first | exact HKr.out | refine Kept.alloc ?_ _)⟩
                    case measure => simp [intOf]; omega
              · go_wp2
                go_roundw
                case rel => exact ⟨m + 1 + 1, by omega, by omega, by go_num, fun i hi hj => by
                  by_cases hik : i + 1 < m + 1
                  · exact HAr.out i hi hik
                  · obtain rfl : i = m := by omega
                    rw [HXa.out, HXb.out]; simp [lkClash, h2]; try omega, by repeat (first | exact HKr.out | refine Kept.alloc ?_ _)⟩
                case measure => simp [intOf]; omega
            · have h := HR4.out
              rw [if_neg (by rw [nbr_no (fun i hi => HAr.out i hi (by have := HL.out; omega))]; exact Bool.false_ne_true)] at h
              subst h
              go_wp2
              go_ret
              exact ⟨rfl, HKr.out⟩
end Go.Proofs.Ytagcefbnhpkdiab
