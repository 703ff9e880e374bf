/-
  spec.LockMode, spec.LockOthers.
-/
import Derived.Test.YtagcefbnhpkdiabLockSpec
namespace Go.Proofs.Ytagcefbnhpkdiab
set_option maxRecDepth 100000
set_option maxHeartbeats 4000000
open Go.RowKit
set_option linter.unusedVariables false
set_option linter.unusedSimpArgs false

def modeFrom (txn id : Int) : List T3 → Int
  | [] => 0
  | l :: t => if l.1 = id ∧ l.2.1 = txn then l.2.2 else modeFrom txn id t
def modeP (ls : List T3) (txn id : Int) : Int := if locksF ls = 0 then modeFrom txn id ls else 0
def othersFrom (txn id : Int) : Int → List T3 → Int
  | m, [] => m
  | m, l :: t => othersFrom txn id (if l.1 = id ∧ l.2.1 ≠ txn ∧ m < l.2.2 then l.2.2 else m) t
def othersP (ls : List T3) (txn id : Int) : Int := if locksF ls = 0 then othersFrom txn id 0 ls else 0
theorem locksF_len {ls : List T3} (h : locksF ls = 0) : ls.length ≤ 4096 := by
  unfold locksF at h
  split at h
  · cases h
  · omega

theorem specLockOthers_any (x : FR) (txn id : Int) (w : World) (hv : RdF 3 w x) :
    Calls Try.prog 47 #[x.v, .int .i64 txn, .int .i64 id] w fun e w' => e = .returned (.int .i64 (othersP (tri x.bs) txn id)) ∧ Same w w' := by
  have k0 := specLocksFault_any x w hv
  obtain ⟨xe, xa, n, xc, bs⟩ := x
  have hm : n ≤ maxLen := hv.1
  unfold maxLen at hm
  have hl := tri_length n bs hv.2.1
  dsimp only [FR.v] at k0 ⊢
  have HV := hid hv
  clear hv
  obtain ⟨R, hR⟩ : ∃ R, othersP (tri bs) txn id = R := ⟨_, rfl⟩
  rw [hR]
  unfold othersP at hR
  obtain ⟨q, hq⟩ : ∃ q, locksF (tri bs) = q := ⟨_, rfl⟩
  rw [hq] at hR k0
  by_cases h0 : q = 0
  · subst h0
    have hn := locksF_len hq
    rw [if_pos rfl, show tri bs = (tri bs).drop 0 from rfl] at hR
    have HR := hid hR
    have HL := hid hl
    rw [hl] at hn
    clear hR hl hq
    go_enter Try.func47, Try.ntmps47
    go_wp2_with fail
    refine k0.mono ?_
    rintro e w1 ⟨rfl, hk1⟩
    have HK1 := hid hk1
    clear hk1
    go_wp2_with fail
    go_loopw [7, 8] (fun m i wr => ∃ (k : Nat) (mo : Int), k ≤ n ∧ m = .int .i64 mo ∧ i = .int .i64 k ∧ Hid (othersFrom txn id mo ((tri bs).drop k) = R) ∧ Hid (Same w wr)) (fun _ i _ => n - (intOf i).toNat)
    case atStart => exact ⟨0, 0, Nat.zero_le _, rfl, rfl, HR, HK1⟩
    case round =>
      obtain ⟨k, mo, hk, rfl, rfl, HA, HK⟩ := hrel
      by_cases hlt : k < n
      · obtain ⟨b, off, ha, hc⟩ := HV.out.some (show 0 < n by omega)
        dsimp only at ha hc
        subst ha
        have hla : k < (tri bs).length := by rw [HL.out]; omega
        obtain ⟨⟨x, y, z⟩, hxa⟩ : ∃ q, (tri bs)[k] = q := ⟨_, rfl⟩
        obtain ⟨da0, da1, da2⟩ := (HV.out.same HK.out).tri k hla _ _ _ hxa
        have h := HA.out
        rw [List.drop_eq_getElem_cons hla, hxa] at h
        simp only [othersFrom] at h
        clear hxa HA
        by_cases h1 : x = id
        · subst h1
          by_cases h2 : y = txn
          · subst h2
            rw [if_neg (fun h => h.2.1 rfl)] at h
            have HN := hid h
            clear h
            go_wp2
            go_roundw
            case rel => exact ⟨k + 1, mo, by omega, rfl, by go_num, HN, HK⟩
            case measure => simp [intOf]; omega
          · have e2 : (y != txn) = true := by simp [h2]
            by_cases h3 : mo < z
            · rw [if_pos ⟨rfl, h2, h3⟩] at h
              have HN := hid h
              clear h
              go_wp2
              go_roundw
              case rel => exact ⟨k + 1, z, by omega, rfl, by go_num, HN, HK⟩
              case measure => simp [intOf]; omega
            · rw [if_neg (fun h => h3 h.2.2)] at h
              have HN := hid h
              clear h
              go_wp2
              go_roundw
              case rel => exact ⟨k + 1, mo, by omega, rfl, by go_num, HN, HK⟩
              case measure => simp [intOf]; omega
        · rw [if_neg (fun h => h1 h.1)] at h
          have HN := hid h
          clear h
          go_wp2
          go_roundw
          case rel => exact ⟨k + 1, mo, by omega, rfl, by go_num, HN, HK⟩
          case measure => simp [intOf]; omega
      · obtain rfl : k = n := by omega
        have h := HA.out
        rw [show (tri bs).drop k = [] from List.drop_eq_nil_of_le (by rw [HL.out]; exact Nat.le_refl _)] at h
        simp only [othersFrom] at h
        subst h
        go_wp2
        go_ret
        exact ⟨rfl, HK.out⟩
  · rw [if_neg h0] at hR
    subst hR
    clear hl hq
    go_enter Try.func47, Try.ntmps47
    go_wp2_with fail
    refine k0.mono ?_
    rintro e w1 ⟨rfl, hk1⟩
    have HK1 := hid hk1
    clear hk1
    go_wp2
    go_ret
    exact ⟨rfl, HK1.out⟩
end Go.Proofs.Ytagcefbnhpkdiab
