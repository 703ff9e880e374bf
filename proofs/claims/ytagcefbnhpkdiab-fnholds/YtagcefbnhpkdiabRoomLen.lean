/-
  impl.areLengths, impl.roomIsKnown; slices.IndexFunc, slices.ContainsFunc at int64.
-/
import Derived.Test.YtagcefbnhpkdiabHoldN
import Derived.Test.YtagcefbnhpkdiabRoomS
import Derived.Test.YtagcefbnhpkdiabVariad
namespace Go.Proofs.Ytagcefbnhpkdiab
set_option maxRecDepth 100000
set_option maxHeartbeats 4000000
open Go.RowKit
set_option linter.unusedVariables false
set_option linter.unusedSimpArgs false

theorem notLength_any (x : Int) (w : World) : Calls Try.prog 78 #[.int .i64 x] w fun e w' => e = .returned (.bool (!inB x (-1) 1000)) ∧ w' = w := by
  have k0 := isLength_any x
  go_enter Try.func78, Try.ntmps78
  go_wp2_with fail
  refine (k0 _).mono ?_
  rintro e w1 ⟨rfl, rfl⟩
  go_wp2
  go_ret
  exact ⟨rfl, rfl⟩
theorem enters_al : Enters8 78 := fun args wx => by simp [callFunc, go_sem, Try.func78, Try.f78]
def idxI (f : Int → Bool) : Nat → List Int → Int
  | _, [] => -1
  | k, p :: ps => if f p = true then (k : Int) else idxI f (k + 1) ps
theorem idxI_at {f : Int → Bool} {zs : List Int} {k : Nat} (hk : k < zs.length) :
    idxI f k (zs.drop k) = if f (zs.getD k 0) = true then (k : Int) else idxI f (k + 1) (zs.drop (k + 1)) := by
  rw [List.drop_eq_getElem_cons hk, show zs.getD k 0 = zs[k] from by simp [List.getD, hk]]
  rfl
theorem idxI_any (f : Int → Bool) (ps : List Int) (k : Nat) : decide (0 ≤ idxI f k ps) = ps.any f := by
  induction ps generalizing k with
  | nil => rfl
  | cons p ps ih =>
    rw [List.any_cons]
    by_cases h : f p = true
    · have e : idxI f k (p :: ps) = k := if_pos h
      rw [e, h]; simp
    · have e : idxI f k (p :: ps) = idxI f (k + 1) ps := if_neg h
      rw [e, ih (k + 1), show f p = false from by simpa using h]; simp
theorem indexI_any (v : Value) (zs : List Int) (w : World) (hv : Rd .i64 w v zs) :
    Calls Try.prog 84 #[v, .func (.func 78) #[] #[]] w fun e w' => e = .returned (.int .i64 (idxI (fun z => !inB z (-1) 1000) 0 zs)) ∧ w' = w := by
  obtain ⟨a, c, rfl⟩ := hv.form
  have hmax : zs.length ≤ maxLen := hv.1
  unfold maxLen at hmax
  obtain ⟨R, hR⟩ : ∃ R, idxI (fun z => !inB z (-1) 1000) 0 zs = R := ⟨_, rfl⟩
  rw [hR]
  obtain ⟨n, hn⟩ : ∃ n, zs.length = n := ⟨_, rfl⟩
  have HN := hid hn
  rw [hn] at hmax ⊢
  have HV := (show Hid (Rd .i64 w (.slice a n c) zs) from by rw [← hn]; exact hv)
  have HR := hid hR
  clear hv hn hR
  have hent' : ∀ (args : Array Value) (wx : World), (callFunc 78 args).run Try.prog wx = .ok (.enter 78 args) wx := enters_al
  go_enter Try.func84, Try.ntmps84
  go_wp2_with fail
  go_loopw [8] (fun i wr => ∃ k : Nat, k ≤ n ∧ i = .int .i64 k ∧ Hid (idxI (fun z => !inB z (-1) 1000) k (zs.drop k) = R) ∧ wr = w) (fun i _ => n - (intOf i).toNat)
  case atStart => exact ⟨0, Nat.zero_le _, rfl, HR, rfl⟩
  case round =>
    obtain ⟨k, hk, rfl, HA, rfl⟩ := hrel
    by_cases hlt : k < n
    · have hlz : k < zs.length := by rw [HN.out]; exact hlt
      obtain ⟨b, off, rfl, hc⟩ := HV.out.at hlz
      have h := HA.out
      rw [idxI_at hlz] at h
      generalize zs.getD k 0 = z at h hc
      have kf := notLength_any z wr
      clear HA
      cases f1 : (!inB z (-1) 1000) with
      | true =>
        rw [f1] at h kf
        rw [if_pos rfl] at h
        have HE := hid h
        clear h f1
        go_wp2_with fail
        refine kf.mono ?_
        rintro e w1 ⟨rfl, rfl⟩
        go_wp2
        go_ret
        exact ⟨by rw [← HE.out]; rfl, rfl⟩
      | false =>
        rw [f1] at h kf
        rw [if_neg Bool.false_ne_true] at h
        have HE := hid h
        clear h f1
        go_wp2_with fail
        refine kf.mono ?_
        rintro e w1 ⟨rfl, rfl⟩
        go_wp2
        go_roundw
        case rel => exact ⟨k + 1, by omega, by go_num, HE, trivial⟩
        case measure => simp [intOf]; omega
    · obtain rfl : k = n := by omega
      have h := HA.out
      rw [← HN.out, List.drop_length] at h
      go_wp2
      go_ret
      exact ⟨by rw [← h]; rfl, rfl⟩
theorem containsI_any (v : Value) (zs : List Int) (w : World) (hv : Rd .i64 w v zs) :
    Calls Try.prog 77 #[v, .func (.func 78) #[] #[]] w fun e w' => e = .returned (.bool (zs.any (fun z => !inB z (-1) 1000))) ∧ w' = w := by
  have k0 := indexI_any v zs w hv
  have hx := idxI_any (fun z => !inB z (-1) 1000) zs 0
  obtain ⟨a, c, rfl⟩ := hv.form
  generalize idxI (fun z => !inB z (-1) 1000) 0 zs = r at k0 hx
  rw [← hx]
  clear hx hv
  go_enter Try.func77, Try.ntmps77
  go_wp2_with fail
  refine k0.mono ?_
  rintro e w1 ⟨rfl, rfl⟩
  go_wp2
  go_ret
  exact ⟨rfl, rfl⟩
theorem areLengths_any (v : Value) (zs : List Int) (w : World) (hv : Rd .i64 w v zs) :
    Calls Try.prog 64 #[v] w fun e w' => e = .returned (.bool (lenOK zs)) ∧ w' = w := by
  have k0 := containsI_any v zs w hv
  obtain ⟨a, c, rfl⟩ := hv.form
  have hmax : zs.length ≤ maxLen := hv.1
  unfold maxLen at hmax
  have he : lenOK zs = (!(decide (zs.length < 32) || decide (512 < zs.length) || decide (¬ zs.length % 32 = 0)) && !zs.any (fun z => !inB z (-1) 1000)) := by
    unfold lenOK
    have ha : zs.all (fun z => inB z (-1) 1000) = !zs.any (fun z => !inB z (-1) 1000) := by simp [List.any_eq_not_all_not]
    rw [ha]
    generalize (!zs.any (fun z => !inB z (-1) 1000)) = q
    rw [Bool.eq_iff_iff]
    unfold inB
    simp
    constructor
    · rintro ⟨h1, ⟨h2, h3⟩, h4⟩
      exact ⟨⟨⟨by omega, by omega⟩, h1⟩, h4⟩
    · rintro ⟨⟨⟨h1, h2⟩, h3⟩, h4⟩
      exact ⟨h3, ⟨by omega, by omega⟩, h4⟩
  rw [he]
  generalize zs.any (fun z => !inB z (-1) 1000) = q at k0 ⊢
  generalize zs.length = n at k0 hmax ⊢
  clear he hv
  by_cases h1 : n < 32
  · go_enter Try.func64, Try.ntmps64
    go_wp2
    go_ret
    exact ⟨by simp [h1], rfl⟩
  by_cases h2 : 512 < n
  · go_enter Try.func64, Try.ntmps64
    go_wp2
    go_ret
    exact ⟨by simp [h2], rfl⟩
  by_cases h3 : n % 32 = 0
  · have h3' : (n : Int) % 32 = 0 := by omega
    go_enter Try.func64, Try.ntmps64
    go_wp2_with fail
    refine k0.mono ?_
    rintro e w1 ⟨rfl, rfl⟩
    go_wp2
    go_ret
    exact ⟨by simp [h1, h2, h3], rfl⟩
  · have h3' : ((n : Int) % 32 != 0) = true := by simp; omega
    go_enter Try.func64, Try.ntmps64
    go_wp2
    go_ret
    exact ⟨by simp [h3], rfl⟩
theorem roomKnown_any (v : Value) (zs : List Int) (x : FR) (w : World) (hv : Rd .i64 w v zs) (hx : RdF 3 w x) :
    Calls Try.prog 39 #[v, x.v] w fun e w' => e = .returned (.bool (lenOK zs && decide (holdsF (tri x.bs) = 0))) ∧ Same w w' := by
  have k0 := areLengths_any v zs w hv
  have k1 := implHoldsFault_any x w hx
  obtain ⟨a, c, rfl⟩ := hv.form
  obtain ⟨xe, xa, n, xc, bs⟩ := x
  dsimp only [FR.v] at k1 ⊢
  generalize holdsF (tri bs) = q at k1 ⊢
  cases f : lenOK zs with
  | false =>
    rw [f] at k0
    clear hv hx k1 f
    go_enter Try.func39, Try.ntmps39
    go_wp2_with fail
    refine k0.mono ?_
    rintro e w1 ⟨rfl, rfl⟩
    go_wp2
    go_ret
    exact ⟨rfl, Kept.refl _ _⟩
  | true =>
    rw [f] at k0
    clear hv hx f
    have hb : (q == 0) = decide (q = 0) := by by_cases h : q = 0 <;> simp [h]
    go_enter Try.func39, Try.ntmps39
    go_wp2_with fail
    refine k0.mono ?_
    rintro e w1 ⟨rfl, rfl⟩
    go_wp2_with fail
    refine k1.mono ?_
    rintro e w2 ⟨rfl, hk2⟩
    go_wp2
    go_ret
    exact ⟨by first | rfl | simp, hk2⟩
end Go.Proofs.Ytagcefbnhpkdiab
