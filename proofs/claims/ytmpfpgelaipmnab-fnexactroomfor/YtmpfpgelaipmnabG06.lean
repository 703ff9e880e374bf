import Derived.Test.YtmpfpgelaipmnabG01
import Derived.Test.YtmpfpgelaipmnabG02
import Derived.Test.YtmpfpgelaipmnabG00
import Derived.Test.YtmpfpgelaipmnabG03
import Derived.Deep.RegionWith
import Derived.Deep.DeepMust
namespace Go.Proofs.Ytmpfpgelaipmnab
set_option maxRecDepth 100000
set_option maxHeartbeats 8000000
set_option linter.unusedVariables false
set_option linter.unusedSimpArgs false
open Go.RowKit
def othersFrom (txn id : Int) : Int → List T3 → Int
 | m, [] => m
 | m, l :: t => othersFrom txn id (if l.1 = id ∧ l.2.1 ≠ txn ∧ m < l.2.2 then l.2.2 else m) t
def othersP (ls : List T3) (txn id : Int) : Int := if locksF ls = 0 then othersFrom txn id 0 ls else 0
theorem locksF_len {ls : List T3} (h : locksF ls = 0) : ls.length ≤ 4096 := by
 unfold locksF at h
 split at h
 ·cases h
 ·omega
theorem specLockOthers_any (x : FR) (txn id : Int) (w : World) (hv : RdF 3 w x) :
  Calls Try.prog 47 #[x.v, .int .i64 txn, .int .i64 id] w fun e w' => e = .returned (.int .i64 (othersP (tri x.bs) txn id)) ∧ Same w w' := by
 have k0 := specLocksFault_any x w hv
 obtain ⟨xe, xa, n, xc, bs⟩ := x
 have hm : n ≤ maxLen := hv.1
 unfold maxLen at hm
 have hl := tri_length n bs hv.2.1
 dsimp only [FR.v] at k0 ⊢
 have HV := hid hv
 clear hv
 obtain ⟨R, hR⟩ : ∃ R, othersP (tri bs) txn id = R := ⟨_, rfl⟩
 rw [hR]
 unfold othersP at hR
 obtain ⟨q, hq⟩ : ∃ q, locksF (tri bs) = q := ⟨_, rfl⟩
 rw [hq] at hR k0
 by_cases h0 : q = 0
 ·subst h0
  have hn := locksF_len hq
  rw [if_pos rfl, show tri bs = (tri bs).drop 0 from rfl] at hR
  have HR := hid hR
  have HL := hid hl
  rw [hl] at hn
  clear hR hl hq
  go_enter Try.func47, Try.ntmps47
  go_wp2_with fail
  refine k0.mono ?_
  rintro e w1 ⟨rfl, hk1⟩
  have HK1 := hid hk1
  clear hk1
  go_wp2_with fail
  go_loopw [7, 8] (fun m i wr => ∃ (k : Nat) (mo : Int), k ≤ n ∧ m = .int .i64 mo ∧ i = .int .i64 k ∧ Hid (othersFrom txn id mo ((tri bs).drop k) = R) ∧ Hid (Same w wr)) (fun _ i _ => n - (intOf i).toNat)
  case atStart => exact ⟨0, 0, Nat.zero_le _, rfl, rfl, HR, HK1⟩
  case round =>
   obtain ⟨k, mo, hk, rfl, rfl, HA, HK⟩ := hrel
   by_cases hlt : k < n
   ·obtain ⟨b, off, ha, hc⟩ := HV.out.some (show 0 < n by omega)
    dsimp only at ha hc
    subst ha
    have hla : k < (tri bs).length := by rw [HL.out]; omega
    obtain ⟨⟨x, y, z⟩, hxa⟩ : ∃ q, (tri bs)[k] = q := ⟨_, rfl⟩
    obtain ⟨da0, da1, da2⟩ := (HV.out.same HK.out).tri k hla _ _ _ hxa
    have h := HA.out
    rw [List.drop_eq_getElem_cons hla, hxa] at h
    simp only [othersFrom] at h
    clear hxa HA
    by_cases h1 : x = id
    ·subst h1
     by_cases h2 : y = txn
     ·subst h2
      rw [if_neg (fun h => h.2.1 rfl)] at h
      have HN := hid h
      clear h
      go_wp2
      go_roundw
      case rel => exact ⟨k + 1, mo, by omega, rfl, by go_num, HN, HK⟩
      case measure => simp [intOf]; omega
     ·have e2 : (y != txn) = true := by simp [h2]
      by_cases h3 : mo < z
      ·rw [if_pos ⟨rfl, h2, h3⟩] at h
       have HN := hid h
       clear h
       go_wp2
       go_roundw
       case rel => exact ⟨k + 1, z, by omega, rfl, by go_num, HN, HK⟩
       case measure => simp [intOf]; omega
      ·rw [if_neg (fun h => h3 h.2.2)] at h
       have HN := hid h
       clear h
       go_wp2
       go_roundw
       case rel => exact ⟨k + 1, mo, by omega, rfl, by go_num, HN, HK⟩
       case measure => simp [intOf]; omega
    ·rw [if_neg (fun h => h1 h.1)] at h
     have HN := hid h
     clear h
     go_wp2
     go_roundw
     case rel => exact ⟨k + 1, mo, by omega, rfl, by go_num, HN, HK⟩
     case measure => simp [intOf]; omega
   ·obtain rfl : k = n := by omega
    have h := HA.out
    rw [show (tri bs).drop k = [] from List.drop_eq_nil_of_le (by rw [HL.out]; exact Nat.le_refl _)] at h
    simp only [othersFrom] at h
    subst h
    go_wp2
    go_ret
    exact ⟨rfl, HK.out⟩
 ·rw [if_neg h0] at hR
  subst hR
  clear hl hq
  go_enter Try.func47, Try.ntmps47
  go_wp2_with fail
  refine k0.mono ?_
  rintro e w1 ⟨rfl, hk1⟩
  have HK1 := hid hk1
  clear hk1
  go_wp2
  go_ret
  exact ⟨rfl, HK1.out⟩
def lenOK (zs : List Int) : Bool := decide (zs.length % 32 = 0) && (inB ((zs.length : Int) / 32) 1 16 && zs.all (fun z => inB z (-1) 1000))
def roomB (zs : List Int) (hs : List T3) (page : Int) : Bool := lenOK zs && (decide (holdsF hs = 0) && inB page 0 (((zs.length : Int) / 32) - 1))
def needA (zs : List Int) (hs : List T3) (id : Nat) : Int := maxI (maxI (zs.getD id 0) (holdOf (id : Int) hs)) 0
def sumA (zs : List Int) (hs : List T3) (at_ : Nat) : Nat → Int
 | 0 => 0
 | k + 1 => sumA zs hs at_ k + needA zs hs (at_ + k)
def roomL (zs : List Int) (hs : List T3) (page : Int) : Int := if roomB zs hs page = true then 3948 - sumA zs hs (page.toNat * 32) 32 else -1
def roomFor (zs : List Int) (hs : List T3) (id len : Int) : Bool :=
 if id < 0 ∨ roomB zs hs (id / 32) = false ∨ inB len 0 1000 = false then false else
 (decide (len - needA zs hs id.toNat ≤ 0) && decide (0 ≤ roomL zs hs (id / 32))) || (decide (0 < len - needA zs hs id.toNat) && decide (len - needA zs hs id.toNat ≤ roomL zs hs (id / 32)))
def freshOK (zs : List Int) (hs ls : List T3) (txn len : Int) (k : Nat) : Bool := decide (zs.getD k 0 = -1) && (decide (holdOf (k : Int) hs = -1) && (decide (othersP ls txn (k : Int) = 0) && roomFor zs hs (k : Int) len))
def freshF (f : Nat → Bool) : Nat → Nat → Int
 | 0, _ => -1
 | m + 1, k => if f k = true then (k : Int) else freshF f m (k + 1)
def freshI (zs : List Int) (hs ls : List T3) (txn len : Int) : Int := if lenOK zs = false ∨ holdsF hs ≠ 0 ∨ locksF ls ≠ 0 then -1 else freshF (freshOK zs hs ls txn len) zs.length 0
theorem lenOK_yes {zs : List Int} (h : lenOK zs = true) : zs.length % 32 = 0 ∧ 1 ≤ zs.length / 32 ∧ zs.length / 32 ≤ 16 ∧ ∀ z ∈ zs, -1 ≤ z ∧ z ≤ 1000 := by
 unfold lenOK at h
 simp only [Bool.and_eq_true, decide_eq_true_eq, List.all_eq_true] at h
 obtain ⟨h1, h2, h3⟩ := h
 have h4 : 1 ≤ ((zs.length : Int) / 32) ∧ ((zs.length : Int) / 32) ≤ 16 := by simpa [inB] using h2
 exact ⟨h1, by omega, by omega, fun z hz => by simpa [inB] using h3 z hz⟩
theorem holdOf_bound {hs : List T3} (h : hs.any hdBad = false) (id : Int) : -1 ≤ holdOf id hs ∧ holdOf id hs ≤ 1000 := by
 induction hs with
 | nil => exact ⟨by unfold holdOf; omega, by unfold holdOf; omega⟩
 | cons p hs ih =>
  simp only [List.any_cons, Bool.or_eq_false_iff] at h
  unfold holdOf
  split
  ·have h1 := h.1
   simp only [hdBad, Bool.or_eq_false_iff, Bool.not_eq_false'] at h1
   have h2 : 0 ≤ p.2.2 ∧ p.2.2 ≤ 1000 := by simpa [inB] using h1.2
   omega
  ·exact ih h.2
theorem holdsF_any {hs : List T3} (h : holdsF hs = 0) : hs.any hdBad = false := by
 unfold holdsF at h
 split at h
 ·cases h
 ·split at h
  ·cases h
  ·split at h
   ·cases h
   ·rename_i h3; simpa using h3
theorem needA_bound {zs : List Int} {hs : List T3} (hz : lenOK zs = true) (hh : holdsF hs = 0) (id : Nat) : 0 ≤ needA zs hs id ∧ needA zs hs id ≤ 1000 := by
 have h1 := holdOf_bound (holdsF_any hh) (id : Int)
 have h2 : -1 ≤ zs.getD id 0 ∧ zs.getD id 0 ≤ 1000 := by
  by_cases hi : id < zs.length
  ·rw [show zs.getD id 0 = zs[id] from by simp [List.getD, List.getElem?_eq_getElem hi]]
   exact (lenOK_yes hz).2.2.2 _ (List.getElem_mem hi)
  ·rw [show zs.getD id 0 = 0 from by simp [List.getD, List.getElem?_eq_none (Nat.le_of_not_lt hi)]]
   omega
 unfold needA maxI
 split <;> split <;> omega
theorem sumA_bound {zs : List Int} {hs : List T3} (hz : lenOK zs = true) (hh : holdsF hs = 0) (a : Nat) : ∀ k : Nat, 0 ≤ sumA zs hs a k ∧ sumA zs hs a k ≤ 1000 * (k : Int)
 | 0 => ⟨by unfold sumA; omega, by unfold sumA; omega⟩
 | k + 1 => by
  have h1 := sumA_bound hz hh a k
  have h2 := needA_bound hz hh (a + k)
  unfold sumA
  omega
theorem specLengths_any (v : Value) (zs : List Int) (w : World) (hv : Rd .i64 w v zs) :
  Calls Try.prog 45 #[v] w fun e w' => e = .returned (.bool (lenOK zs)) ∧ Same w w' := by
 obtain ⟨a, c, rfl⟩ := hv.form
 have hmax : zs.length ≤ maxLen := hv.1
 unfold maxLen at hmax
 obtain ⟨R, hR⟩ : ∃ R, lenOK zs = R := ⟨_, rfl⟩
 rw [hR]
 unfold lenOK at hR
 obtain ⟨n, hn⟩ : ∃ n, zs.length = n := ⟨_, rfl⟩
 have HN := hid hn
 rw [hn] at hR hmax ⊢
 have HV := (show Hid (Rd .i64 w (.slice a n c) zs) from by rw [← hn]; exact hv)
 clear hv hn
 have k1 := fun wx => l4In_any ((n : Int) / 32) 1 16 wx
 by_cases h1 : n % 32 = 0
 case neg =>
  have h1' : ¬ (n : Int) % 32 = 0 := by omega
  rw [show decide (n % 32 = 0) = false from by simp [h1]] at hR
  subst hR
  go_enter Try.func45, Try.ntmps45
  go_wp2
  go_ret
  exact ⟨rfl, Kept.refl _ _⟩
 have h1' : (n : Int) % 32 = 0 := by omega
 rw [show decide (n % 32 = 0) = true from by simp [h1], Bool.true_and] at hR
 cases f1 : inB ((n : Int) / 32) 1 16 with
 | false =>
  rw [f1] at k1 hR
  subst hR
  go_enter Try.func45, Try.ntmps45
  go_wp2_with fail
  refine (k1 _).mono ?_
  rintro e w1 ⟨rfl, hk1⟩
  go_wp2
  go_ret
  exact ⟨rfl, hk1⟩
 | true =>
  rw [f1] at k1 hR
  rw [Bool.true_and] at hR
  have HR := hid hR
  clear hR
  go_enter Try.func45, Try.ntmps45
  go_wp2_with fail
  refine (k1 _).mono ?_
  rintro e w1 ⟨rfl, hk1⟩
  have HK1 := (show Hid (Same w w1) from hk1)
  clear hk1
  go_wp2_with fail
  go_loopw [4] (fun i wr => ∃ k : Nat, k ≤ n ∧ i = .int .i64 k ∧ Hid ((zs.drop k).all (fun z => inB z (-1) 1000) = R) ∧ Hid (Same w wr)) (fun i _ => n - (intOf i).toNat)
  case atStart => exact ⟨0, Nat.zero_le _, rfl, HR, HK1⟩
  case round =>
   obtain ⟨k, hk, rfl, HA, HK⟩ := hrel
   by_cases hlt : k < n
   ·have hlz : k < zs.length := by rw [HN.out]; exact hlt
    obtain ⟨b, off, rfl, hc⟩ : ∃ b off, a = some ⟨b, off, none⟩ ∧ ∀ i, i < zs.length → w.cell? ⟨b, off + i, none⟩ = some (.int .i64 (zs.getD i 0)) := by
     rcases HV.out.2 with ⟨hnil, _⟩ | ⟨b, off, c', h, _, hc⟩
     ·rw [hnil] at hlz; simp at hlz
     ·cases h; exact ⟨b, off, rfl, hc⟩
    obtain ⟨z, hz⟩ : ∃ z, zs.getD k 0 = z := ⟨_, rfl⟩
    have d0 : wr.cell? ⟨b, off + k, none⟩ = some (.int .i64 z) := HK.out.cellOf (by rw [← hz]; exact hc k hlz) id
    have h := HA.out
    rw [List.drop_eq_getElem_cons hlz, List.all_cons, show zs[k] = z from by rw [← hz]; simp [List.getD, List.getElem?_eq_getElem hlz]] at h
    clear hc hz HA
    have k2 := fun wx => l4In_any z (-1) 1000 wx
    cases f2 : inB z (-1) 1000 with
    | false =>
     rw [f2] at k2 h
     subst h
     go_wp2_with fail
     refine (k2 _).mono ?_
     rintro e w2 ⟨rfl, hk2⟩
     have HK2 := hid (HK.out.trans hk2)
     go_wp2
     go_ret
     exact ⟨rfl, HK2.out⟩
    | true =>
     rw [f2] at k2 h
     rw [Bool.true_and] at h
     have HA2 := hid h
     clear h
     go_wp2_with fail
     refine (k2 _).mono ?_
     rintro e w2 ⟨rfl, hk2⟩
     have HK2 := hid (HK.out.trans hk2)
     clear hk2
     go_wp2
     go_roundw
     case rel => exact ⟨k + 1, by omega, by go_num, HA2, HK2⟩
     case measure => simp [intOf]; omega
   ·obtain rfl : k = n := by omega
    have h := HA.out
    rw [← HN.out, List.drop_length] at h
    go_wp2
    go_ret
    exact ⟨by rw [← h]; rfl, HK.out⟩
theorem specRoomB_any (v : Value) (zs : List Int) (x : FR) (page : Int) (w : World) (hv : Rd .i64 w v zs) (hx : RdF 3 w x) :
  Calls Try.prog 36 #[v, x.v, .int .i64 page] w fun e w' => e = .returned (.bool (roomB zs (tri x.bs) page)) ∧ Same w w' := by
 have k0 := specLengths_any v zs w hv
 have k1 := fun wx (hk : Same w wx) => specHoldsFault_any x wx (hx.same hk)
 obtain ⟨a, c, rfl⟩ := hv.form
 have hmax : zs.length ≤ maxLen := hv.1
 unfold maxLen at hmax
 obtain ⟨xe, xa, xn, xc, bs⟩ := x
 dsimp only [FR.v] at k1 ⊢
 have k2 := fun wx => l4In_any page 0 (((zs.length : Int) / 32) - 1) wx
 have hw : IntKind.i64.wrap (((zs.length : Int) / 32) - 1) = ((zs.length : Int) / 32) - 1 := by rw [IntKind.wrap_i64]; omega
 unfold roomB
 clear hv hx
 cases f0 : lenOK zs with
 | false =>
  rw [f0] at k0
  go_enter Try.func36, Try.ntmps36
  go_wp2_with fail
  refine k0.mono ?_
  rintro e w1 ⟨rfl, hk1⟩
  go_wp2
  go_ret
  exact ⟨rfl, hk1⟩
 | true =>
  rw [f0] at k0
  obtain ⟨q, hq⟩ : ∃ q, holdsF (tri bs) = q := ⟨_, rfl⟩
  rw [hq] at k1 ⊢
  by_cases h0 : q = 0
  ·subst h0
   go_enter Try.func36, Try.ntmps36
   go_wp2_with (first
    | (go_at_call 45; (with_reducible refine k0.mono ?_); rintro e w1 ⟨rfl, hk1⟩; have HK1 := (show Hid (Same w w1) from hk1); clear hk1 k0)
    | (go_at_call 30; (with_reducible refine (k1 _ HK1.out).mono ?_); rintro e w2 ⟨rfl, hk2⟩; have HK2 := hid (HK1.out.trans hk2); clear hk2 k1))
   refine (k2 _).mono ?_
   rintro e w3 ⟨rfl, hk3⟩
   have HK3 := hid (HK2.out.trans hk3)
   go_wp2
   go_ret
   exact ⟨by simp, HK3.out⟩
  ·have e0 : decide (q = 0) = false := by simp [h0]
   rw [e0]
   go_enter Try.func36, Try.ntmps36
   go_wp2_with (first
    | (go_at_call 45; (with_reducible refine k0.mono ?_); rintro e w1 ⟨rfl, hk1⟩; have HK1 := (show Hid (Same w w1) from hk1); clear hk1 k0)
    | (go_at_call 30; (with_reducible refine (k1 _ HK1.out).mono ?_); rintro e w2 ⟨rfl, hk2⟩; have HK2 := hid (HK1.out.trans hk2); clear hk2 k1))
   go_ret
   exact ⟨by rfl, HK2.out⟩
def grI (f : Int) : List Int → Int
 | [] => f
 | n :: ns => grI (if f < n then n else f) ns
def suW (f : Int) : List Int → Int
 | [] => f
 | n :: ns => suW (IntKind.i64.wrap (f + n)) ns
theorem grI_at {f : Int} {zs : List Int} {k : Nat} (h : k < zs.length) : grI f (zs.drop k) = grI (if f < zs.getD k 0 then zs.getD k 0 else f) (zs.drop (k + 1)) := by
 rw [List.drop_eq_getElem_cons h, show zs.getD k 0 = zs[k] from by simp [List.getD, h]]
 rfl
theorem suW_at {f : Int} {zs : List Int} {k : Nat} (h : k < zs.length) : suW f (zs.drop k) = suW (IntKind.i64.wrap (f + zs.getD k 0)) (zs.drop (k + 1)) := by
 rw [List.drop_eq_getElem_cons h, show zs.getD k 0 = zs[k] from by simp [List.getD, h]]
 rfl
theorem Rd.at {w : World} {a : Option Addr} {n c : Nat} {zs : List Int} (h : Rd .i64 w (.slice a n c) zs) {k : Nat} (hk : k < zs.length) : ∃ b off, a = some ⟨b, off, none⟩ ∧ w.cell? ⟨b, off + k, none⟩ = some (.int .i64 (zs.getD k 0)) := by
 rcases h.2 with ⟨hnil, _⟩ | ⟨b, off, c', h, _, hc⟩
 ·rw [hnil] at hk; simp at hk
 ·cases h; exact ⟨b, off, rfl, hc k hk⟩
theorem greatest_any (f : Int) (v : Value) (zs : List Int) (w : World) (hv : Rd .i64 w v zs) :
  Calls Try.prog 57 #[.int .i64 f, v] w fun e w' => e = .returned (.int .i64 (grI f zs)) ∧ Same w w' := by
 obtain ⟨a, c, rfl⟩ := hv.form
 have hmax : zs.length ≤ maxLen := hv.1
 unfold maxLen at hmax
 obtain ⟨R, hR⟩ : ∃ R, grI f zs = R := ⟨_, rfl⟩
 rw [hR]
 obtain ⟨n, hn⟩ : ∃ n, zs.length = n := ⟨_, rfl⟩
 have HN := hid hn
 rw [hn] at hmax ⊢
 have HV := (show Hid (Rd .i64 w (.slice a n c) zs) from by rw [← hn]; exact hv)
 have HR := hid hR
 clear hv hn hR
 go_enter Try.func57, Try.ntmps57
 go_wp2_with fail
 go_loopw [9, 0] (fun i g wr => ∃ (k : Nat) (x : Int), k ≤ n ∧ i = .int .i64 k ∧ g = .int .i64 x ∧ Hid (grI x (zs.drop k) = R) ∧ Hid (Same w wr)) (fun i _ _ => n - (intOf i).toNat)
 case atStart => exact ⟨0, f, Nat.zero_le _, rfl, rfl, HR, Kept.refl _ _⟩
 case round =>
  obtain ⟨k, x, hk, rfl, rfl, HA, HK⟩ := hrel
  by_cases hlt : k < n
  ·have hlz : k < zs.length := by rw [HN.out]; exact hlt
   obtain ⟨b, off, rfl, hc⟩ := (HV.out.same HK.out).at hlz
   have h := HA.out
   rw [grI_at hlz] at h
   generalize zs.getD k 0 = z at h hc
   clear HA
   by_cases h1 : x < z
   ·rw [if_pos h1] at h
    have HA2 := hid h
    clear h
    go_wp2
    go_roundw
    case rel => exact ⟨k + 1, z, by omega, by go_num, rfl, HA2, HK⟩
    case measure => simp [intOf]; omega
   ·rw [if_neg h1] at h
    have HA2 := hid h
    clear h
    go_wp2
    go_roundw
    case rel => exact ⟨k + 1, x, by omega, by go_num, rfl, HA2, HK⟩
    case measure => simp [intOf]; omega
  ·obtain rfl : k = n := by omega
   have h := HA.out
   rw [← HN.out, List.drop_length] at h
   go_wp2
   go_ret
   exact ⟨by rw [← h]; rfl, HK.out⟩
theorem sum_any (v : Value) (zs : List Int) (w : World) (hv : Rd .i64 w v zs) :
  Calls Try.prog 65 #[v] w fun e w' => e = .returned (.int .i64 (suW 0 zs)) ∧ Same w w' := by
 obtain ⟨a, c, rfl⟩ := hv.form
 have hmax : zs.length ≤ maxLen := hv.1
 unfold maxLen at hmax
 obtain ⟨R, hR⟩ : ∃ R, suW 0 zs = R := ⟨_, rfl⟩
 rw [hR]
 obtain ⟨n, hn⟩ : ∃ n, zs.length = n := ⟨_, rfl⟩
 have HN := hid hn
 rw [hn] at hmax ⊢
 have HV := (show Hid (Rd .i64 w (.slice a n c) zs) from by rw [← hn]; exact hv)
 have HR := hid hR
 clear hv hn hR
 go_enter Try.func65, Try.ntmps65
 go_wp2_with fail
 go_loopw [8, 3] (fun i g wr => ∃ (k : Nat) (x : Int), k ≤ n ∧ i = .int .i64 k ∧ g = .int .i64 x ∧ Hid (suW x (zs.drop k) = R) ∧ Hid (Same w wr)) (fun i _ _ => n - (intOf i).toNat)
 case atStart => exact ⟨0, 0, Nat.zero_le _, rfl, rfl, HR, Kept.refl _ _⟩
 case round =>
  obtain ⟨k, x, hk, rfl, rfl, HA, HK⟩ := hrel
  by_cases hlt : k < n
  ·have hlz : k < zs.length := by rw [HN.out]; exact hlt
   obtain ⟨b, off, rfl, hc⟩ := (HV.out.same HK.out).at hlz
   have h := HA.out
   rw [suW_at hlz] at h
   generalize zs.getD k 0 = z at h hc
   clear HA
   have HA2 := hid h
   clear h
   obtain ⟨y, hy⟩ : ∃ y, IntKind.i64.wrap (x + z) = y := ⟨_, rfl⟩
   rw [hy] at HA2
   go_wp2
   go_roundw
   case rel => exact ⟨k + 1, y, by omega, by go_num, rfl, HA2, HK⟩
   case measure => simp [intOf]; omega
  ·obtain rfl : k = n := by omega
   have h := HA.out
   rw [← HN.out, List.drop_length] at h
   go_wp2
   go_ret
   exact ⟨by rw [← h]; rfl, HK.out⟩
def suI : List Int → Int
 | [] => 0
 | n :: ns => n + suI ns
theorem suW_eq : ∀ (zs : List Int) (f : Int) (B : Nat), (∀ z ∈ zs, -72057594037927936 ≤ z ∧ z ≤ 72057594037927936) → (-72057594037927936 * B ≤ f ∧ f ≤ 72057594037927936 * B) → zs.length + B ≤ 64 → suW f zs = f + suI zs
 | [], f, B, _, _, _ => by simp [suW, suI]
 | z :: zs, f, B, hz, hf, hl => by
  have h1 := hz z (List.mem_cons_self ..)
  simp only [List.length_cons] at hl
  have hw : IntKind.i64.wrap (f + z) = f + z := by rw [IntKind.wrap_i64]; omega
  unfold suW suI
  rw [hw, suW_eq zs (f + z) (B + 1) (fun y hy => hz y (List.mem_cons_of_mem _ hy)) (by omega) (by omega)]
  omega
theorem suW_small {zs : List Int} (hz : ∀ z ∈ zs, -72057594037927936 ≤ z ∧ z ≤ 72057594037927936) (hl : zs.length ≤ 64) : suW 0 zs = suI zs := by
 rw [suW_eq zs 0 0 hz (by omega) (by omega)]
 omega
theorem rd_new (w : World) (t : TypeId) (zs : List Int) (hn : zs.length ≤ maxLen) : Rd .i64 (w.alloc (.cells (zs.map (.int .i64)).toArray t)) (.slice (some ⟨w.heap.size, 0, none⟩) zs.length zs.length) zs := by
 refine ⟨hn, .inr ⟨w.heap.size, 0, zs.length, rfl, Nat.le_refl _, fun i hi => ?_⟩⟩
 rw [Nat.zero_add, World.cell?_alloc_at (w := w) _ _ w.heap.size i rfl]
 simp [hi, List.getD]
theorem notLength_any (x : Int) (w : World) : Calls Try.prog 78 #[.int .i64 x] w fun e w' => e = .returned (.bool (!inB x (-1) 1000)) ∧ w' = w := by
 have k0 := isLength_any x
 go_enter Try.func78, Try.ntmps78
 go_wp2_with fail
 refine (k0 _).mono ?_
 rintro e w1 ⟨rfl, rfl⟩
 go_wp2
 go_ret
 exact ⟨rfl, rfl⟩
theorem enters_al : Enters8 78 := fun args wx => by simp [callFunc, go_sem, Try.func78, Try.f78]
def idxI (f : Int → Bool) : Nat → List Int → Int
 | _, [] => -1
 | k, p :: ps => if f p = true then (k : Int) else idxI f (k + 1) ps
theorem idxI_at {f : Int → Bool} {zs : List Int} {k : Nat} (hk : k < zs.length) :
  idxI f k (zs.drop k) = if f (zs.getD k 0) = true then (k : Int) else idxI f (k + 1) (zs.drop (k + 1)) := by
 rw [List.drop_eq_getElem_cons hk, show zs.getD k 0 = zs[k] from by simp [List.getD, hk]]
 rfl
theorem idxI_any (f : Int → Bool) (ps : List Int) (k : Nat) : decide (0 ≤ idxI f k ps) = ps.any f := by
 induction ps generalizing k with
 | nil => rfl
 | cons p ps ih =>
  rw [List.any_cons]
  by_cases h : f p = true
  ·have e : idxI f k (p :: ps) = k := if_pos h
   rw [e, h]; simp
  ·have e : idxI f k (p :: ps) = idxI f (k + 1) ps := if_neg h
   rw [e, ih (k + 1), show f p = false from by simpa using h]; simp
theorem indexI_any (v : Value) (zs : List Int) (w : World) (hv : Rd .i64 w v zs) :
  Calls Try.prog 84 #[v, .func (.func 78) #[] #[]] w fun e w' => e = .returned (.int .i64 (idxI (fun z => !inB z (-1) 1000) 0 zs)) ∧ w' = w := by
 obtain ⟨a, c, rfl⟩ := hv.form
 have hmax : zs.length ≤ maxLen := hv.1
 unfold maxLen at hmax
 obtain ⟨R, hR⟩ : ∃ R, idxI (fun z => !inB z (-1) 1000) 0 zs = R := ⟨_, rfl⟩
 rw [hR]
 obtain ⟨n, hn⟩ : ∃ n, zs.length = n := ⟨_, rfl⟩
 have HN := hid hn
 rw [hn] at hmax ⊢
 have HV := (show Hid (Rd .i64 w (.slice a n c) zs) from by rw [← hn]; exact hv)
 have HR := hid hR
 clear hv hn hR
 have hent' : ∀ (args : Array Value) (wx : World), (callFunc 78 args).run Try.prog wx = .ok (.enter 78 args) wx := enters_al
 go_enter Try.func84, Try.ntmps84
 go_wp2_with fail
 go_loopw [8] (fun i wr => ∃ k : Nat, k ≤ n ∧ i = .int .i64 k ∧ Hid (idxI (fun z => !inB z (-1) 1000) k (zs.drop k) = R) ∧ wr = w) (fun i _ => n - (intOf i).toNat)
 case atStart => exact ⟨0, Nat.zero_le _, rfl, HR, rfl⟩
 case round =>
  obtain ⟨k, hk, rfl, HA, rfl⟩ := hrel
  by_cases hlt : k < n
  ·have hlz : k < zs.length := by rw [HN.out]; exact hlt
   obtain ⟨b, off, rfl, hc⟩ := HV.out.at hlz
   have h := HA.out
   rw [idxI_at hlz] at h
   generalize zs.getD k 0 = z at h hc
   have kf := notLength_any z wr
   clear HA
   cases f1 : (!inB z (-1) 1000) with
   | true =>
    rw [f1] at h kf
    rw [if_pos rfl] at h
    have HE := hid h
    clear h f1
    go_wp2_with fail
    refine kf.mono ?_
    rintro e w1 ⟨rfl, rfl⟩
    go_wp2
    go_ret
    exact ⟨by rw [← HE.out]; rfl, rfl⟩
   | false =>
    rw [f1] at h kf
    rw [if_neg Bool.false_ne_true] at h
    have HE := hid h
    clear h f1
    go_wp2_with fail
    refine kf.mono ?_
    rintro e w1 ⟨rfl, rfl⟩
    go_wp2
    go_roundw
    case rel => exact ⟨k + 1, by omega, by go_num, HE, trivial⟩
    case measure => simp [intOf]; omega
  ·obtain rfl : k = n := by omega
   have h := HA.out
   rw [← HN.out, List.drop_length] at h
   go_wp2
   go_ret
   exact ⟨by rw [← h]; rfl, rfl⟩
theorem containsI_any (v : Value) (zs : List Int) (w : World) (hv : Rd .i64 w v zs) :
  Calls Try.prog 77 #[v, .func (.func 78) #[] #[]] w fun e w' => e = .returned (.bool (zs.any (fun z => !inB z (-1) 1000))) ∧ w' = w := by
 have k0 := indexI_any v zs w hv
 have hx := idxI_any (fun z => !inB z (-1) 1000) zs 0
 obtain ⟨a, c, rfl⟩ := hv.form
 generalize idxI (fun z => !inB z (-1) 1000) 0 zs = r at k0 hx
 rw [← hx]
 clear hx hv
 go_enter Try.func77, Try.ntmps77
 go_wp2_with fail
 refine k0.mono ?_
 rintro e w1 ⟨rfl, rfl⟩
 go_wp2
 go_ret
 exact ⟨rfl, rfl⟩
theorem areLengths_any (v : Value) (zs : List Int) (w : World) (hv : Rd .i64 w v zs) :
  Calls Try.prog 64 #[v] w fun e w' => e = .returned (.bool (lenOK zs)) ∧ w' = w := by
 have k0 := containsI_any v zs w hv
 obtain ⟨a, c, rfl⟩ := hv.form
 have hmax : zs.length ≤ maxLen := hv.1
 unfold maxLen at hmax
 have he : lenOK zs = (!(decide (zs.length < 32) || decide (512 < zs.length) || decide (¬ zs.length % 32 = 0)) && !zs.any (fun z => !inB z (-1) 1000)) := by
  unfold lenOK
  have ha : zs.all (fun z => inB z (-1) 1000) = !zs.any (fun z => !inB z (-1) 1000) := by simp [List.any_eq_not_all_not]
  rw [ha]
  generalize (!zs.any (fun z => !inB z (-1) 1000)) = q
  rw [Bool.eq_iff_iff]
  unfold inB
  simp
  constructor
  ·rintro ⟨h1, ⟨h2, h3⟩, h4⟩
   exact ⟨⟨⟨by omega, by omega⟩, h1⟩, h4⟩
  ·rintro ⟨⟨⟨h1, h2⟩, h3⟩, h4⟩
   exact ⟨h3, ⟨by omega, by omega⟩, h4⟩
 rw [he]
 generalize zs.any (fun z => !inB z (-1) 1000) = q at k0 ⊢
 generalize zs.length = n at k0 hmax ⊢
 clear he hv
 by_cases h1 : n < 32
 ·go_enter Try.func64, Try.ntmps64
  go_wp2
  go_ret
  exact ⟨by simp [h1], rfl⟩
 by_cases h2 : 512 < n
 ·go_enter Try.func64, Try.ntmps64
  go_wp2
  go_ret
  exact ⟨by simp [h2], rfl⟩
 by_cases h3 : n % 32 = 0
 ·have h3' : (n : Int) % 32 = 0 := by omega
  go_enter Try.func64, Try.ntmps64
  go_wp2_with fail
  refine k0.mono ?_
  rintro e w1 ⟨rfl, rfl⟩
  go_wp2
  go_ret
  exact ⟨by simp [h1, h2, h3], rfl⟩
 ·have h3' : ((n : Int) % 32 != 0) = true := by simp; omega
  go_enter Try.func64, Try.ntmps64
  go_wp2
  go_ret
  exact ⟨by simp [h3], rfl⟩
theorem roomKnown_any (v : Value) (zs : List Int) (x : FR) (w : World) (hv : Rd .i64 w v zs) (hx : RdF 3 w x) :
  Calls Try.prog 39 #[v, x.v] w fun e w' => e = .returned (.bool (lenOK zs && decide (holdsF (tri x.bs) = 0))) ∧ Same w w' := by
 have k0 := areLengths_any v zs w hv
 have k1 := implHoldsFault_any x w hx
 obtain ⟨a, c, rfl⟩ := hv.form
 obtain ⟨xe, xa, n, xc, bs⟩ := x
 dsimp only [FR.v] at k1 ⊢
 generalize holdsF (tri bs) = q at k1 ⊢
 cases f : lenOK zs with
 | false =>
  rw [f] at k0
  clear hv hx k1 f
  go_enter Try.func39, Try.ntmps39
  go_wp2_with fail
  refine k0.mono ?_
  rintro e w1 ⟨rfl, rfl⟩
  go_wp2
  go_ret
  exact ⟨rfl, Kept.refl _ _⟩
 | true =>
  rw [f] at k0
  clear hv hx f
  have hb : (q == 0) = decide (q = 0) := by by_cases h : q = 0 <;> simp [h]
  go_enter Try.func39, Try.ntmps39
  go_wp2_with fail
  refine k0.mono ?_
  rintro e w1 ⟨rfl, rfl⟩
  go_wp2_with fail
  refine k1.mono ?_
  rintro e w2 ⟨rfl, hk2⟩
  go_wp2
  go_ret
  exact ⟨by first | rfl | simp, hk2⟩
theorem Try.infoI64 : (Try.prog.info? 2).map (fun i => (i.zero, i.size, i.bytes)) = some (some (.int .i64 0), 1, 8) := by kernel_rfl
theorem eqInt64S_own {ea eb : TypeId} (base : Nat) (va vb : Value) (bs : List Int) (w : World) (hn : bs.length ≤ 1125899906842624)
  (ha : Own base ea .i64 w va bs) (hb : Own base eb .i64 w vb bs) :
  Calls Try.prog 18 #[va, vb] w fun e w' => e = .returned (.bool true) ∧ ∃ n, w' = w.drewN n := by
 by_cases h0 : bs.length = 0
 ·obtain rfl : bs = [] := List.length_eq_zero_iff.1 h0
  obtain ⟨aa, ca, rfl⟩ : ∃ aa ca, va = .slice aa 0 ca := by rcases ha.form with ⟨rfl, _⟩ | ⟨g, cap, rfl, _⟩ <;> exact ⟨_, _, rfl⟩
  obtain ⟨ab, cb, rfl⟩ : ∃ aa ca, vb = .slice aa 0 ca := by rcases hb.form with ⟨rfl, _⟩ | ⟨g, cap, rfl, _⟩ <;> exact ⟨_, _, rfl⟩
  clear ha hb hn h0
  go_enter Try.func18, Try.ntmps18
  go_wp2
  refine wp_loop_rounds 1 ?_
  rw [rounds_succ]
  go_wp2
  go_ret
  exact ⟨rfl, 0, rfl⟩
 ·obtain ⟨ga, ca, rfl, _, _, _, _⟩ : ∃ g cap, va = .slice (some ⟨g, 0, none⟩) bs.length cap ∧ base ≤ g ∧ g < w.heap.size ∧ bs.length ≤ cap ∧ cap ≤ maxLen := by
   rcases ha.form with ⟨_, rfl⟩ | h
   ·simp at h0
   ·exact h
  obtain ⟨gb, cb, rfl, _, _, _, _⟩ : ∃ g cap, vb = .slice (some ⟨g, 0, none⟩) bs.length cap ∧ base ≤ g ∧ g < w.heap.size ∧ bs.length ≤ cap ∧ cap ≤ maxLen := by
   rcases hb.form with ⟨_, rfl⟩ | h
   ·simp at h0
   ·exact h
  have hca : ∀ j, j < bs.length → w.cell? ⟨ga, j, none⟩ = some (.int .i64 (bs.getD j 0)) := fun j hj => ha.cell rfl j hj
  have hcb : ∀ j, j < bs.length → w.cell? ⟨gb, j, none⟩ = some (.int .i64 (bs.getD j 0)) := fun j hj => hb.cell rfl j hj
  clear ha hb
  generalize hl : bs.length = len at *
  go_enter Try.func18, Try.ntmps18
  go_wp2
  go_loopw [5] (fun i wr => ∃ k n : Nat, k ≤ len ∧ i = .int .i64 k ∧ wr = w.drewN n) (fun i _ => len - (intOf i).toNat)
  case atStart => exact ⟨0, 0, Nat.zero_le _, rfl, rfl⟩
  case round =>
   obtain ⟨k, n, hk, rfl, rfl⟩ := hrel
   by_cases hlt : k < len
   ·have h1 := hca k hlt
    have h2 := hcb k hlt
    clear hca hcb
    go_wp2
    go_quiet (fail)
    go_wp2
    go_roundw
    case rel => exact ⟨k + 1, _, by omega, by go_num, rfl⟩
    case measure => simp [intOf]; omega
   ·go_wp2
    go_ret
    exact ⟨rfl, _, rfl⟩
theorem toInt64S_any (v : Value) (bs : List Int) (w : World) (hn : bs.length ≤ 1099511627776) (hv : Rd .i64 w v bs) :
  Calls Try.prog 16 #[v] w fun e w' => ∃ g, e = .returned (.slice (some ⟨g, 0, none⟩) bs.length bs.length) ∧ w.heap.size ≤ g ∧ Own 0 2 .i64 w' (.slice (some ⟨g, 0, none⟩) bs.length bs.length) bs ∧ Same w w' := by
 obtain ⟨i0, hi, hz0, hz1, hz2⟩ := info_parts Try.infoI64
 rcases hv.2 with ⟨rfl, a, c, rfl, _⟩ | ⟨b, off, c, rfl, _, hc⟩
 ·clear hv hn
  go_enter Try.func16, Try.ntmps16
  go_wp2_with (at_make; refine wpList_make_full _ rfl (.tmp 6) (.tmp 6) 30 rfl 0 2 i0 (.int .i64 0) 1 Try.underlying30 hi hz0 hz1 .i64 .i64 _ _ 0 rfl rfl (by simp) (by simp) (by simp) (by simp) (Nat.zero_le _) ?_; intro w1 hown1 hgrow1; have HO : Hid (Own 0 2 .i64 w1 (.slice (some ⟨w.heap.size, 0, none⟩) 0 0) []) := own_made (n := 0) (by simpa using hown1); have HK : Hid (Same w w1) := Kept.of_grown hgrow1 (fun k e => by cases e); clear hown1 hgrow1)
  refine wp_loop_rounds 1 ?_
  rw [rounds_succ]
  go_wp2
  go_ret
  exact ⟨w.heap.size, rfl, Nat.le_refl _, HO.out, HK.out⟩
 ·have HC : Hid (∀ i, i < bs.length → w.cell? ⟨b, off + i, none⟩ = some (.int .i64 (bs.getD i 0))) := hc
  clear hc hv
  generalize hl : bs.length = len at hn ⊢
  have HL : Hid (bs.length = len) := hl
  clear hl
  go_enter Try.func16, Try.ntmps16
  go_wp2_with (at_make; refine wpList_make_full _ rfl (.tmp 6) (.tmp 6) 30 rfl 0 2 i0 (.int .i64 0) 1 Try.underlying30 hi hz0 hz1 .i64 .i64 _ _ len rfl rfl (by simp) (by simp) (by rw [hz2]; omega) (by unfold maxLen; omega) (Nat.zero_le _) ?_; intro w1 hown1 hgrow1; have HO : Hid (Own 0 2 .i64 w1 (.slice (some ⟨w.heap.size, 0, none⟩) len len) (List.replicate len 0)) := own_made (by simpa using hown1); have HK : Hid (Same w w1) := Kept.of_grown hgrow1 (fun k e => by cases e); clear hown1 hgrow1)
  go_loopw [4] (fun i wr => ∃ (k : Nat), k ≤ len ∧ i = .int .i64 k ∧ Hid (Own 0 2 .i64 wr (.slice (some ⟨w.heap.size, 0, none⟩) len len) (fillUp bs k)) ∧ Hid (Same w wr)) (fun i _ => len - (intOf i).toNat)
  case atStart => exact ⟨0, Nat.zero_le _, rfl, by rw [fillUp_zero, HL.out]; exact HO, HK⟩
  case round =>
   obtain ⟨k, hk, rfl, HOr, HKr⟩ := hrel
   by_cases hlt : k < len
   ·have hlp : k < bs.length := by rw [HL.out]; exact hlt
    have q1 := HKr.out.cellOf (HC.out k hlp) id
    have q2 := HOr.out.frozen (by rw [fillUp_length _ _ (by have := HL.out; omega)]; exact HL.out.symm) k
    have q3 := HOr.out.cell (by rw [fillUp_length _ _ (by have := HL.out; omega)]; exact HL.out.symm) k hlt
    go_wp2
    go_roundw
    case rel =>
     have h := HOr.out.stored (by rw [fillUp_length _ _ (by have := HL.out; omega)]; exact HL.out.symm) k (bs.getD k 0)
     rw [fillUp_step _ _ hlp] at h
     refine ⟨k + 1, by omega, by go_num, ?_, ?_⟩
     ·simpa [hlp, List.getD, Hid] using h
     ·exact HKr.out.setCell (.inl (Nat.le_refl _)) _
    case measure => simp [intOf]; omega
   ·go_wp2
    go_ret
    obtain rfl : k = len := by omega
    have h := HOr.out
    have h2 := HL.out
    rw [← h2, fillUp_all, h2] at h
    exact ⟨w.heap.size, rfl, Nat.le_refl _, h, HKr.out⟩
theorem holdOf_none {id : Int} : ∀ {l : List T3}, (∀ p ∈ l, p.1 ≠ id) → holdOf id l = -1
 | [], _ => rfl
 | p :: t, h => by
  unfold holdOf
  rw [if_neg (h p (List.mem_cons_self ..))]
  exact holdOf_none (fun q hq => h q (List.mem_cons_of_mem _ hq))
theorem holdOf_snoc_ne {id : Int} {p : T3} (hp : p.1 ≠ id) : ∀ l : List T3, holdOf id (l ++ [p]) = holdOf id l
 | [] => by simp [holdOf, hp]
 | q :: t => by
  simp only [List.cons_append, holdOf]
  rw [holdOf_snoc_ne hp t]
theorem holdOf_snoc_eq {id : Int} {p : T3} (hp : p.1 = id) : ∀ {l : List T3}, (∀ q ∈ l, q.1 ≠ id) → holdOf id (l ++ [p]) = p.2.2
 | [], _ => by simp [holdOf, hp]
 | q :: t, h => by
  simp only [List.cons_append, holdOf]
  rw [if_neg (h q (List.mem_cons_self ..)), holdOf_snoc_eq hp (fun r hr => h r (List.mem_cons_of_mem _ hr))]
theorem ris_before {hs : List T3} (hr : RisH hs) (k : Nat) (hk : k < hs.length) : ∀ q ∈ hs.take k, q.1 ≠ hs[k].1 := by
 intro q hq
 obtain ⟨i, hi, rfl⟩ := List.getElem_of_mem hq
 rw [List.length_take] at hi
 have := (List.pairwise_iff_getElem.1 hr) i k (by omega) hk (by omega)
 rw [List.getElem_take]
 omega
def needK (zs : List Int) (hs : List T3) (k i : Nat) : Int := maxI (maxI (zs.getD i 0) (holdOf (i : Int) (hs.take k))) 0
theorem needK_zero (zs : List Int) (hs : List T3) (i : Nat) (h : -1 ≤ zs.getD i 0) : needK zs hs 0 i = grI 0 [zs.getD i 0] := by
 unfold needK
 rw [List.take_zero]
 simp only [holdOf, grI, maxI]
 repeat' split
 all_goals omega
theorem needK_other {zs : List Int} {hs : List T3} {k i : Nat} (hk : k < hs.length) (hi : hs[k].1 ≠ (i : Int)) : needK zs hs (k + 1) i = needK zs hs k i := by
 unfold needK
 rw [List.take_succ_eq_append_getElem hk, holdOf_snoc_ne hi]
theorem needK_same {zs : List Int} {hs : List T3} {k i : Nat} (hr : RisH hs) (hk : k < hs.length) (hi : hs[k].1 = (i : Int)) (hz : -1 ≤ zs.getD i 0) (hm : 0 ≤ hs[k].2.2) : needK zs hs (k + 1) i = grI (needK zs hs k i) [hs[k].2.2] := by
 unfold needK
 have hb := ris_before hr k hk
 rw [hi] at hb
 rw [List.take_succ_eq_append_getElem hk, holdOf_snoc_eq hi hb, holdOf_none hb]
 simp only [grI, maxI]
 repeat' split
 all_goals omega
theorem needK_all (zs : List Int) (hs : List T3) (i : Nat) : needK zs hs hs.length i = needA zs hs i := by
 unfold needK needA
 rw [List.take_length]
theorem openNeeds_any (v : Value) (zs : List Int) (x : FR) (w : World) (hv : Rd .i64 w v zs) (hx : RdF 3 w x) (hz : lenOK zs = true) (hh : holdsF (tri x.bs) = 0) :
  Calls Try.prog 40 #[v, x.v] w fun e w' => ∃ ns : List Int, e = .returned (.slice (some ⟨w.heap.size, 0, none⟩) zs.length zs.length) ∧ Own 0 2 .i64 w' (.slice (some ⟨w.heap.size, 0, none⟩) zs.length zs.length) ns ∧ (ns.length = zs.length ∧ ∀ i, i < zs.length → ns.getD i 0 = needA zs (tri x.bs) i) ∧ Same w w' := by
 obtain ⟨i0, hi, hz0, hz1, hz2⟩ := info_parts Try.infoI64
 obtain ⟨hl1, hl2, hl3, hzb⟩ := lenOK_yes hz
 obtain ⟨a, c, rfl⟩ := hv.form
 have hris := holdsF_ris hh
 have hbad := holdsF_any hh
 have hhl := holdsF_len hh
 obtain ⟨xe, xa, m, xc, bs⟩ := x
 have hm := tri_length m bs hx.2.1
 dsimp only [FR.v] at hris hbad hhl hh ⊢
 rw [hm] at hhl
 obtain ⟨n, hn⟩ : ∃ n, zs.length = n := ⟨_, rfl⟩
 have HN := hid hn
 rw [hn] at hl1 hl2 hl3 ⊢
 have HV := (show Hid (Rd .i64 w (.slice a n c) zs) from by rw [← hn]; exact hv)
 have HX := hid hx
 have HZ : Hid (∀ i, -1 ≤ zs.getD i 0) := fun i => by
  by_cases hi : i < zs.length
  ·rw [show zs.getD i 0 = zs[i] from by simp [List.getD, hi]]
   exact (hzb _ (List.getElem_mem hi)).1
  ·rw [show zs.getD i 0 = 0 from by simp [List.getD, hi]]
   omega
 have HRI := hid hris
 have HBD := hid hbad
 have HM := hid hm
 have hn0 : 0 < n := by omega
 clear hv hx hz hh hzb hris hbad hm hn
 go_enter Try.func40, Try.ntmps40
 go_wp2_with (at_make; refine wpList_make_full _ rfl (.tmp 11) (.tmp 11) 64 rfl 0 2 i0 (.int .i64 0) 1 Try.underlying64 hi hz0 hz1 .i64 .i64 _ _ n rfl rfl (by simp) (by simp) (by rw [hz2]; omega) (by unfold maxLen; omega) (Nat.zero_le _) ?_; intro w1 hown1 hgrow1; have HO1 : Hid (Own 0 2 .i64 w1 (.slice (some ⟨w.heap.size, 0, none⟩) n n) (List.replicate n 0)) := own_made (by simpa using hown1); have HK1 : Hid (Same w w1) := Kept.of_grown hgrow1 (fun k e => by cases e); clear hown1 hgrow1)
 obtain ⟨g, hg⟩ : ∃ g, w.heap.size = g := ⟨_, rfl⟩
 have HG := hid hg
 rw [hg] at HO1
 simp only [hg]
 clear hg
 go_loopw [15] (fun i wr => ∃ (k : Nat) (ns : List Int), k ≤ n ∧ i = .int .i64 k ∧ Hid (Own 0 2 .i64 wr (.slice (some ⟨g, 0, none⟩) n n) ns) ∧ Hid (ns.length = n ∧ ∀ i, i < k → ns.getD i 0 = needK zs (tri bs) 0 i) ∧ Hid (Same w wr)) (fun i _ => n - (intOf i).toNat)
 case atStart => exact ⟨0, List.replicate n 0, Nat.zero_le _, rfl, HO1, ⟨by simp, fun i hi => by omega⟩, HK1⟩
 case round =>
  obtain ⟨k, ns, hk, rfl, HO, HA, HK⟩ := hrel
  by_cases hlt : k < n
  ·have hlz : k < zs.length := by rw [HN.out]; exact hlt
   obtain ⟨b, off, rfl, hc⟩ := (HV.out.same HK.out).at hlz
   obtain ⟨z, hz⟩ : ∃ z, zs.getD k 0 = z := ⟨_, rfl⟩
   rw [hz] at hc
   have HZK := hid hz
   have kg := greatest_any 0 (.slice (some ⟨wr.heap.size, 0, none⟩) 1 1) [z] (wr.alloc (.cells #[.int .i64 z] 2)) (rd_new wr 2 [z] (by unfold maxLen; simp))
   have HKa := (show Hid (Same wr (wr.alloc (.cells #[.int .i64 z] 2))) from (Kept.refl _ _).alloc _)
   clear hz
   go_wp2_with fail
   refine kg.mono ?_
   rintro e w2 ⟨rfl, hk2⟩
   have HK2 := hid (HKa.out.trans hk2)
   have HO2 := (show Hid (Own 0 2 .i64 w2 (.slice (some ⟨g, 0, none⟩) n n) ns) from HK2.out.owns HO.out (fun _ _ h => h))
   have d0 := HO2.out.cell HA.out.1.symm k hlt
   have f0 := HO2.out.frozen HA.out.1.symm k
   have HKw := hid (HK.out.trans HK2.out)
   clear kg hk2 hc
   obtain ⟨y, hy⟩ : ∃ y, grI 0 [z] = y := ⟨_, rfl⟩
   simp only [hy]
   have HA3 : Hid ((ns.set k y).length = n ∧ ∀ i, i < k + 1 → (ns.set k y).getD i 0 = needK zs (tri bs) 0 i) := ⟨by rw [List.length_set]; exact HA.out.1, fun i hi => by
    by_cases e : i = k
    ·subst e
     rw [needK_zero _ _ _ (HZ.out i), HZK.out, hy]
     have := HA.out.1
     simp [List.getD, show i < ns.length from by omega]
    ·rw [← HA.out.2 i (by omega)]
     simp [List.getD, List.getElem?_set_ne (Ne.symm e)]⟩
   clear hy
   go_wp2
   have HO3 := (show Hid (Own 0 2 .i64 (w2.setCell ⟨g, k, none⟩ (.int .i64 y)) (.slice (some ⟨g, 0, none⟩) n n) (ns.set k y)) from HO2.out.stored HA.out.1.symm k y)
   have HK3 := (show Hid (Same w (w2.setCell ⟨g, k, none⟩ (.int .i64 y))) from HKw.out.setCell (.inl (Nat.le_of_eq HG.out)) _)
   go_roundw
   case rel => exact ⟨k + 1, ns.set k y, by omega, by go_num, HO3, HA3, HK3⟩
   case measure => simp [intOf]; omega
  ·obtain rfl : k = n := by omega
   clear hlt
   obtain ⟨w4, hw4⟩ : ∃ w4, wr = w4 := ⟨_, rfl⟩
   rw [hw4] at HO HK ⊢
   clear hw4
   go_wp2_with fail
   go_loopw [29] (fun i wr => ∃ (q : Nat) (ns : List Int), q ≤ m ∧ i = .int .i64 q ∧ Hid (Own 0 2 .i64 wr (.slice (some ⟨g, 0, none⟩) k k) ns) ∧ Hid (ns.length = k ∧ ∀ i, i < k → ns.getD i 0 = needK zs (tri bs) q i) ∧ Hid (Same w wr)) (fun i _ => m - (intOf i).toNat)
   case atStart => exact ⟨0, ns, Nat.zero_le _, rfl, HO, HA, HK⟩
   case round =>
    clear HO HA HK
    obtain ⟨q, ns, hq, rfl, HO, HA, HK⟩ := hrel
    by_cases hlt : q < m
    ·obtain ⟨b, off, ha, hcx⟩ := HX.out.some (show 0 < m by omega)
     dsimp only at ha hcx
     subst ha
     have hla : q < (tri bs).length := by rw [HM.out]; omega
     obtain ⟨⟨x, y, z⟩, hxa⟩ : ∃ u, (tri bs)[q] = u := ⟨_, rfl⟩
     obtain ⟨da0, da1, da2⟩ := (HX.out.same HK.out).tri q hla _ _ _ hxa
     have hbd := any3_at HBD.out q hla
     rw [hxa] at hbd
     unfold hdBad at hbd
     simp only [Bool.or_eq_false_iff, Bool.not_eq_false'] at hbd
     have hxb : 0 ≤ x ∧ x ≤ 511 := by simpa [inB] using hbd.1.1
     have hzb : 0 ≤ z ∧ z ≤ 1000 := by simpa [inB] using hbd.2
     obtain ⟨i, hxi⟩ : ∃ i : Nat, x = (i : Int) := ⟨x.toNat, by omega⟩
     subst hxi
     have HXA := hid hxa
     have HB := (show Hid (Blk (wr.alloc (.cells #[.int .i64 (i : Int), .int .i64 y, .int .i64 z] 53)) wr.heap.size 53 [.int .i64 (i : Int), .int .i64 y, .int .i64 z]) from Blk.newL wr _ _)
     have HKa := (show Hid (Same wr (wr.alloc (.cells #[.int .i64 (i : Int), .int .i64 y, .int .i64 z] 53))) from (Kept.refl _ _).alloc _)
     have HOa := (show Hid (Own 0 2 .i64 (wr.alloc (.cells #[.int .i64 (i : Int), .int .i64 y, .int .i64 z] 53)) (.slice (some ⟨g, 0, none⟩) k k) ns) from HKa.out.owns HO.out (fun _ _ h => h))
     have HKb := hid (HK.out.trans HKa.out)
     obtain ⟨c0, c1, c2⟩ := HB.out.all3
     have hgw := (show g < wr.heap.size from by have := World.ownsRow.lt HO.out g rfl; exact this.2)
     clear hxa hbd
     by_cases hik : i < k
     ·obtain ⟨y0, hy0⟩ : ∃ y0, ns.getD i 0 = y0 := ⟨_, rfl⟩
      have e0 := HOa.out.cell HA.out.1.symm i hik
      rw [hy0] at e0
      obtain ⟨y1, hy1⟩ : ∃ y1, grI y0 [z] = y1 := ⟨_, rfl⟩
      have HA3 : Hid ((ns.set i y1).length = k ∧ ∀ j, j < k → (ns.set i y1).getD j 0 = needK zs (tri bs) (q + 1) j) := ⟨by rw [List.length_set]; exact HA.out.1, fun j hj => by
       by_cases e : j = i
       ·subst e
        rw [needK_same HRI.out hla (by rw [HXA.out]) (HZ.out j) (by rw [HXA.out]; exact hzb.1), HXA.out, ← HA.out.2 j hj, hy0, hy1]
        have := HA.out.1
        simp [List.getD, show j < ns.length from by omega]
       ·rw [needK_other hla (by rw [HXA.out]; dsimp only; omega), ← HA.out.2 j hj]
        simp [List.getD, List.getElem?_set_ne (Ne.symm e)]⟩
      have kg := fun (wx : World) h => greatest_any y0 (.slice (some ⟨wx.heap.size, 0, none⟩) 1 1) [z] (wx.alloc (.cells #[.int .i64 z] 2)) h
      have HRD : Hid (∀ wx : World, Rd .i64 (wx.alloc (.cells #[.int .i64 z] 2)) (.slice (some ⟨wx.heap.size, 0, none⟩) 1 1) [z]) := fun wx => rd_new wx 2 [z] (by unfold maxLen; simp)
      simp only [hy1] at kg
      have HHA := HA
      have hik' : (i : Int) < (k : Int) := by omega
      clear hy0 hy1 HA
      go_wp2_with fail
      generalize wr.alloc (.cells #[.int .i64 (i : Int), .int .i64 y, .int .i64 z] 53) = wa at HB HKa HOa HKb c0 c1 c2 e0 ⊢
      generalize wr.heap.size = hb at HB hgw c0 c1 c2 ⊢
      clear da0 da1 da2 c1
      let Y1 : World → Prop := fun wx : World => wx.cell? ⟨hb, 0, none⟩ = some (.int .i64 (i : Int)) ∧ wx.cell? ⟨hb, 2, none⟩ = some (.int .i64 z) ∧ wx.cell? ⟨g, i, none⟩ = some (.int .i64 y0)
      have hS : Y1 wa.drew := ⟨c0, c2, e0⟩
      refine wp_region_V Y1 13 14 rfl (by kernel_rfl) ?_
      refine tk 0 38 hS ?_
      refine tk 1 39 hS ?_
      refine tk 2 40 hS ?_
      refine tk 3 41 hS ?_
      refine tk 4 42 hS ?_
      refine tk 5 43 hS ?_
      refine tk 6 44 hS ?_
      refine tk 7 45 hS ?_
      refine tk 8 46 hS ?_
      refine tk 9 47 hS ?_
      refine wpAnyV_one (i := 10) (by kernel_rfl) rfl (fun K hK => ?_)
      go_simp
      have k7 : Calls Try.prog 57 #[.int .i64 y0, .slice (some ⟨wa.heap.size, 0, none⟩) 1 1] (wa.alloc (.cells #[.int .i64 z] 2)).drew fun e w' => e = .returned (.int .i64 y1) ∧ Same (wa.alloc (.cells #[.int .i64 z] 2)).drew w' := kg wa.drew (HRD.out _)
      have HKc : Hid (Same wa (wa.alloc (.cells #[.int .i64 z] 2)).drew) := ((Kept.refl _ _).alloc _).drew
      generalize (wa.alloc (.cells #[.int .i64 z] 2)).drew = w6 at k7 HKc ⊢
      have hS : Y1 w6 := ⟨HKc.out.cellOf c0 id, HKc.out.cellOf c2 id, HKc.out.cellOf e0 id⟩
      refine hK.out _ _ (fun _ => hS) ?_
      clear hK K kg HRD
      try simp only [Act.put, sA, s0, sS]
      refine wpAnyV_one (i := 11) (by kernel_rfl) rfl (fun K hK => ?_)
      go_simp
      refine k7.mono ?_
      rintro e w7 ⟨rfl, hk7⟩
      have HKd := hid (HKc.out.trans hk7)
      have HK7 := hid (HKb.out.trans HKd.out)
      have HO7 := (show Hid (Own 0 2 .i64 w7 (.slice (some ⟨g, 0, none⟩) k k) ns) from HKd.out.owns HOa.out (fun _ _ h => h))
      have hS : Y1 w7 := ⟨HKd.out.cellOf c0 id, HKd.out.cellOf c2 id, HKd.out.cellOf e0 id⟩
      have f7 : w7.frozen? ⟨g, i, none⟩ = false := HO7.out.frozen HHA.out.1.symm i
      have d7 : w7.cell? ⟨g, i, none⟩ = some (.int .i64 y0) := hS.2.2
      refine hK.out _ _ (fun _ => hS) ?_
      clear hK K k7 hk7 HKc c0 c2 e0
      try simp only [Act.put, sA, s0, sS]
      refine tk 12 50 hS ?_
      refine wpAnyV_one (i := 13) (by kernel_rfl) rfl (fun K hK => ?_)
      go_simp
      refine hK.out _ _ (fun h => absurd rfl h) ?_
      clear hK K
      refine wpAnyV_done (by kernel_rfl) ?_
      try simp only [Act.put, sA, s0, sS]
      have HO8 := (show Hid (Own 0 2 .i64 (w7.setCell ⟨g, i, none⟩ (.int .i64 y1)) (.slice (some ⟨g, 0, none⟩) k k) (ns.set i y1)) from HO7.out.stored HHA.out.1.symm i y1)
      have HK8 := (show Hid (Same w (w7.setCell ⟨g, i, none⟩ (.int .i64 y1))) from HK7.out.setCell (.inl (Nat.le_of_eq HG.out)) _)
      clear f7 d7 hS
      go_wp2
      go_roundw
      case rel => exact ⟨q + 1, ns.set i y1, by omega, by go_num, HO8, HA3, HK8⟩
      case measure => simp [intOf]; omega
     ·have HA3 : Hid (ns.length = k ∧ ∀ j, j < k → ns.getD j 0 = needK zs (tri bs) (q + 1) j) := ⟨HA.out.1, fun j hj => by
       rw [needK_other hla (by rw [HXA.out]; dsimp only; omega)]
       exact HA.out.2 j hj⟩
      have hik' : ¬ (i : Int) < (k : Int) := by omega
      clear HA
      go_wp2
      go_roundw
      case rel => exact ⟨q + 1, ns, by omega, by go_num, HOa, HA3, HKb⟩
      case measure => simp [intOf]; omega
    ·obtain rfl : q = m := by omega
     have HE : Hid (ns.length = k ∧ ∀ j, j < k → ns.getD j 0 = needA zs (tri bs) j) := ⟨HA.out.1, fun j hj => by rw [HA.out.2 j hj, ← HM.out, needK_all]⟩
     go_wp2
     go_ret
     rw [HG.out]
     exact ⟨ns, rfl, HO.out, HE.out, HK.out⟩
end Go.Proofs.Ytmpfpgelaipmnab
