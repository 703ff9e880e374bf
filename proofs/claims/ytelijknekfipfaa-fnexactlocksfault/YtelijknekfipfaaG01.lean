import Derived.Test.YtelijknekfipfaaG00
import Derived.Deep.DeepCutAuto
import Derived.Deep.RegionHeld3
import Derived.WalkKit
import Derived.OrdersHeld
namespace Go.Proofs.Ytelijknekfipfaa
set_option maxRecDepth 100000
set_option maxHeartbeats 4000000
set_option linter.unusedVariables false
set_option linter.unusedSimpArgs false
open Go.RowKit Go
def lkBad (l : T3) : Bool := !inB l.1 0 511 || !inB l.2.1 1 2147483647 || !inB l.2.2 1 2
def lkAfter (a b : T3) : Bool := decide (b.1 < a.1) || decide (a.1 = b.1) && decide (b.2.1 ≤ a.2.1)
def lkClash (a b : T3) : Bool := decide (a.1 = b.1) && (decide (a.2.2 = 2) || decide (b.2.2 = 2))
def locksF (ls : List T3) : Int := if 4096 < ls.length then 1 else if ls.any lkBad then 2 else if nbr lkAfter ls then 3 else if nbr lkClash ls then 4 else 0
theorem specLocksFault_any (x : FR) (w : World) (hv : RdF 3 w x) :
  Calls Try.prog 14 #[x.v] w fun e w' => e = .returned (.int .i64 (locksF (tri x.bs))) ∧ Same w w' := by
 obtain ⟨xe, xa, n, xc, bs⟩ := x
 have hm : n ≤ maxLen := hv.1
 unfold maxLen at hm
 have hl := tri_length n bs hv.2.1
 dsimp only [FR.v]
 have HV := hid hv
 clear hv
 obtain ⟨R, hR⟩ : ∃ R, locksF (tri bs) = R := ⟨_, rfl⟩
 rw [hR]
 unfold locksF at hR
 by_cases hb : 4096 < n
 ·rw [if_pos (by omega)] at hR
  subst hR
  go_enter Try.func14, Try.ntmps14
  go_wp2
  go_ret
  exact ⟨rfl, Kept.refl _ _⟩
 rw [if_neg (by omega)] at hR
 have HR := hid hR
 have HL := hid hl
 clear hR hl
 go_enter Try.func14, Try.ntmps14
 go_wp2_with fail
 go_loopw [3] (fun i wr => ∃ k : Nat, k ≤ n ∧ i = .int .i64 k ∧ Hid (∀ (j : Nat) (h : j < (tri bs).length), j < k → lkBad (tri bs)[j] = false) ∧ Hid (Same w wr)) (fun i _ => n - (intOf i).toNat)
 case atStart => exact ⟨0, Nat.zero_le _, rfl, fun j h hj => by omega, Kept.refl _ _⟩
 case round =>
  obtain ⟨k, hk, rfl, HA, HK⟩ := hrel
  by_cases hlt : k < n
  ·obtain ⟨b, off, ha, hc⟩ := HV.out.some (show 0 < n by omega)
   dsimp only at ha hc
   subst ha
   have hla : k < (tri bs).length := by rw [HL.out]; omega
   obtain ⟨⟨x, y, z⟩, hxa⟩ : ∃ q, (tri bs)[k] = q := ⟨_, rfl⟩
   have HXa := hid hxa
   obtain ⟨da0, da1, da2⟩ := (HV.out.same HK.out).tri (k) hla _ _ _ hxa
   clear hxa
   have HKa := (show Hid (Same w (wr.alloc (.cells #[.int .i64 x, .int .i64 y, .int .i64 z] 51))) from HK.out.alloc _)
   have ba := Blk.newL wr [.int .i64 x, .int .i64 y, .int .i64 z] 51
   have k1 := fun wx => l4In_any x 0 511 wx
   have k2 := fun wx => l4In_any y 1 2147483647 wx
   have k3 := fun wx => l4In_any z 1 2 wx
   cases f1 : inB x 0 511 with
   | false =>
    rw [f1] at k1
    go_wp2_with fail
    refine (k1 _).mono ?_
    rintro e w1 ⟨rfl, hk1⟩
    have HK1 := hid (HKa.out.trans hk1)
    go_wp2
    go_ret
    exact ⟨by have h := HR.out; rw [if_pos (any3_yes k hla (by rw [HXa.out]; simp [lkBad, f1]))] at h; subst h; rfl, HK1.out⟩
   | true =>
    rw [f1] at k1
    go_wp2_with fail
    refine (k1 _).mono ?_
    rintro e w1 ⟨rfl, hk1⟩
    have HK1 := hid (HKa.out.trans hk1)
    have b1 := ba.same hk1
    obtain ⟨c10, c11, c12⟩ := b1.all3
    clear hk1
    cases f2 : inB y 1 2147483647 with
    | false =>
     rw [f2] at k2
     go_wp2_with fail
     refine (k2 _).mono ?_
     rintro e w2 ⟨rfl, hk2⟩
     have HK2 := hid (HK1.out.trans hk2)
     go_wp2
     go_ret
     exact ⟨by have h := HR.out; rw [if_pos (any3_yes k hla (by rw [HXa.out]; simp [lkBad, f1, f2]))] at h; subst h; rfl, HK2.out⟩
    | true =>
     rw [f2] at k2
     go_wp2_with fail
     refine (k2 _).mono ?_
     rintro e w2 ⟨rfl, hk2⟩
     have HK2 := hid (HK1.out.trans hk2)
     have b2 := b1.same hk2
     obtain ⟨c20, c21, c22⟩ := b2.all3
     clear hk2
     cases f3 : inB z 1 2 with
     | false =>
      rw [f3] at k3
      go_wp2_with fail
      refine (k3 _).mono ?_
      rintro e w3 ⟨rfl, hk3⟩
      have HK3 := hid (HK2.out.trans hk3)
      go_wp2
      go_ret
      exact ⟨by have h := HR.out; rw [if_pos (any3_yes k hla (by rw [HXa.out]; simp [lkBad, f1, f2, f3]))] at h; subst h; rfl, HK3.out⟩
     | true =>
      rw [f3] at k3
      go_wp2_with fail
      refine (k3 _).mono ?_
      rintro e w3 ⟨rfl, hk3⟩
      have HK3 := hid (HK2.out.trans hk3)
      go_wp2
      go_roundw
      case rel => exact ⟨k + 1, by omega, by go_num, fun j h hj => by
       by_cases hjk : j < k
       ·exact HA.out j h hjk
       ·obtain rfl : j = k := by omega
        rw [HXa.out]; simp [lkBad, f1, f2, f3], HK3⟩
      case measure => simp [intOf]; omega
  ·obtain rfl : k = n := by omega
   have h := HR.out
   rw [if_neg (by rw [any3_no (fun j hj => HA.out j hj (by rw [← HL.out]; exact hj))]; exact Bool.false_ne_true)] at h
   have HR3 := hid h
   clear h HR HA
   have HK3 := HK
   clear HK
   go_wp2_with fail
   go_loopw [5] (fun i wr => ∃ j : Nat, 1 ≤ j ∧ (j ≤ k ∨ j = 1) ∧ i = .int .i64 j ∧ Hid (∀ (i : Nat) (h : i + 1 < (tri bs).length), i + 1 < j → lkAfter (tri bs)[i] (tri bs)[i + 1] = false) ∧ Hid (Same w wr)) (fun i _ => k - (intOf i).toNat)
   case atStart => exact ⟨1, by omega, .inr rfl, rfl, fun i h hj => by omega, HK3⟩
   case round =>
    obtain ⟨j, hj1, hj, rfl, HAr, HKr⟩ := hrel
    by_cases hlt : j < k
    ·obtain ⟨b, off, ha, hc⟩ := HV.out.some (show 0 < k by omega)
     dsimp only at ha hc
     subst ha
     obtain ⟨m, rfl⟩ : ∃ m, j = m + 1 := ⟨j - 1, by omega⟩
     have hla : m < (tri bs).length := by rw [HL.out]; omega
     obtain ⟨⟨x, y, z⟩, hxa⟩ : ∃ q, (tri bs)[m] = q := ⟨_, rfl⟩
     have HXa := hid hxa
     obtain ⟨da0, da1, da2⟩ := (HV.out.same HKr.out).tri (m) hla _ _ _ hxa
     clear hxa
     have em : ((m + 1 : Nat) : Int) - 1 = (m : Int) := by omega
     have mm : (m : Int) < (k : Int) := by omega
     have ba := (Blk.newL wr [.int .i64 x, .int .i64 y, .int .i64 z] 51).all3
     obtain ⟨ba0, ba1, ba2⟩ := ba
     have HKa := (show Hid (Same w (wr.alloc (.cells #[.int .i64 x, .int .i64 y, .int .i64 z] 51))) from HKr.out.alloc _)
     have hlb : m + 1 < (tri bs).length := by rw [HL.out]; omega
     obtain ⟨⟨x2, y2, z2⟩, hxb⟩ : ∃ q, (tri bs)[m + 1] = q := ⟨_, rfl⟩
     have HXb := hid hxb
     obtain ⟨db0, db1, db2⟩ := (HV.out.same HKa.out).tri (m + 1) hlb _ _ _ hxb
     clear hxb
     by_cases h1 : x2 < x
     ·go_wp2
      go_ret
      exact ⟨by have h := HR3.out; rw [if_pos (nbr_yes m hlb (by rw [HXa.out, HXb.out]; simp [lkAfter, h1]))] at h; subst h; rfl, by repeat (first | exact HKr.out | refine Kept.alloc ?_ _)⟩
     ·by_cases h2 : x = x2
      ·subst h2
       by_cases h3 : y2 ≤ y
       ·go_wp2
        go_ret
        exact ⟨by have h := HR3.out; rw [if_pos (nbr_yes m hlb (by rw [HXa.out, HXb.out]; simp [lkAfter, h3]))] at h; subst h; rfl, by repeat (first | exact HKr.out | refine Kept.alloc ?_ _)⟩
       ·go_wp2
        go_roundw
        case rel => exact ⟨m + 1 + 1, by omega, by omega, by go_num, fun i hi hj => by
         by_cases hik : i + 1 < m + 1
         ·exact HAr.out i hi hik
         ·obtain rfl : i = m := by omega
          rw [HXa.out, HXb.out]; simp [lkAfter, h3]; try omega, by repeat (first | exact HKr.out | refine Kept.alloc ?_ _)⟩
        case measure => simp [intOf]; omega
      ·go_wp2
       go_roundw
       case rel => exact ⟨m + 1 + 1, by omega, by omega, by go_num, fun i hi hj => by
        by_cases hik : i + 1 < m + 1
        ·exact HAr.out i hi hik
        ·obtain rfl : i = m := by omega
         rw [HXa.out, HXb.out]; simp [lkAfter, h2]; try omega, by repeat (first | exact HKr.out | refine Kept.alloc ?_ _)⟩
       case measure => simp [intOf]; omega
    ·have h := HR3.out
     rw [if_neg (by rw [nbr_no (fun i hi => HAr.out i hi (by have := HL.out; omega))]; exact Bool.false_ne_true)] at h
     have HR4 := hid h
     clear h HR3 HAr
     obtain ⟨w4, hw4⟩ : ∃ x, x = wr := ⟨_, rfl⟩
     subst hw4
     go_wp2_with fail
     go_loopw [8] (fun i wr => ∃ j : Nat, 1 ≤ j ∧ (j ≤ k ∨ j = 1) ∧ i = .int .i64 j ∧ Hid (∀ (i : Nat) (h : i + 1 < (tri bs).length), i + 1 < j → lkClash (tri bs)[i] (tri bs)[i + 1] = false) ∧ Hid (Same w wr)) (fun i _ => k - (intOf i).toNat)
     case atStart => exact ⟨1, by omega, .inr rfl, rfl, fun i h hj => by omega, HKr⟩
     case round =>
      obtain ⟨j, hj1, hj, rfl, HAr, HKr⟩ := hrel
      by_cases hlt : j < k
      ·obtain ⟨b, off, ha, hc⟩ := HV.out.some (show 0 < k by omega)
       dsimp only at ha hc
       subst ha
       obtain ⟨m, rfl⟩ : ∃ m, j = m + 1 := ⟨j - 1, by omega⟩
       have hla : m < (tri bs).length := by rw [HL.out]; omega
       obtain ⟨⟨x, y, z⟩, hxa⟩ : ∃ q, (tri bs)[m] = q := ⟨_, rfl⟩
       have HXa := hid hxa
       obtain ⟨da0, da1, da2⟩ := (HV.out.same HKr.out).tri (m) hla _ _ _ hxa
       clear hxa
       have em : ((m + 1 : Nat) : Int) - 1 = (m : Int) := by omega
       have mm : (m : Int) < (k : Int) := by omega
       have ba := (Blk.newL wr [.int .i64 x, .int .i64 y, .int .i64 z] 51).all3
       obtain ⟨ba0, ba1, ba2⟩ := ba
       have HKa := (show Hid (Same w (wr.alloc (.cells #[.int .i64 x, .int .i64 y, .int .i64 z] 51))) from HKr.out.alloc _)
       have hlb : m + 1 < (tri bs).length := by rw [HL.out]; omega
       obtain ⟨⟨x2, y2, z2⟩, hxb⟩ : ∃ q, (tri bs)[m + 1] = q := ⟨_, rfl⟩
       have HXb := hid hxb
       obtain ⟨db0, db1, db2⟩ := (HV.out.same HKa.out).tri (m + 1) hlb _ _ _ hxb
       clear hxb
       by_cases h2 : x = x2
       ·subst h2
        by_cases h3 : z = 2
        ·subst h3
         go_wp2
         go_ret
         exact ⟨by have h := HR4.out; rw [if_pos (nbr_yes m hlb (by rw [HXa.out, HXb.out]; simp [lkClash]))] at h; subst h; rfl, by repeat (first | exact HKr.out | refine Kept.alloc ?_ _)⟩
        ·by_cases h4 : z2 = 2
         ·subst h4
          go_wp2
          go_ret
          exact ⟨by have h := HR4.out; rw [if_pos (nbr_yes m hlb (by rw [HXa.out, HXb.out]; simp [lkClash]))] at h; subst h; rfl, by repeat (first | exact HKr.out | refine Kept.alloc ?_ _)⟩
         ·have e3 : (z == 2) = false := by simp [h3]
          have e4 : (z2 == 2) = false := by simp [h4]
          go_wp2
          go_roundw
          case rel => exact ⟨m + 1 + 1, by omega, by omega, by go_num, fun i hi hj => by
           by_cases hik : i + 1 < m + 1
           ·exact HAr.out i hi hik
           ·obtain rfl : i = m := by omega
            rw [HXa.out, HXb.out]; simp [lkClash, h3, h4]; try omega, by repeat (first | exact HKr.out | refine Kept.alloc ?_ _)⟩
          case measure => simp [intOf]; omega
       ·go_wp2
        go_roundw
        case rel => exact ⟨m + 1 + 1, by omega, by omega, by go_num, fun i hi hj => by
         by_cases hik : i + 1 < m + 1
         ·exact HAr.out i hi hik
         ·obtain rfl : i = m := by omega
          rw [HXa.out, HXb.out]; simp [lkClash, h2]; try omega, by repeat (first | exact HKr.out | refine Kept.alloc ?_ _)⟩
        case measure => simp [intOf]; omega
      ·have h := HR4.out
       rw [if_neg (by rw [nbr_no (fun i hi => HAr.out i hi (by have := HL.out; omega))]; exact Bool.false_ne_true)] at h
       subst h
       go_wp2
       go_ret
       exact ⟨rfl, HKr.out⟩
theorem Try.infoLock : (Try.prog.info? 51).map (fun i => (i.zero, i.size, i.bytes)) = some (some (.agg #[.int .i64 0, .int .i64 0, .int .i64 0]), 3, 24) := by kernel_rfl
theorem eqLock_any (x0 x1 x2 : Int) (w : World) : Calls Try.prog 40 #[.agg #[.int .i64 x0, .int .i64 x1, .int .i64 x2], .agg #[.int .i64 x0, .int .i64 x1, .int .i64 x2]] w fun e w' => e = .returned (.bool true) ∧ Same w w' := by
 go_enter Try.func40, Try.ntmps40
 go_wp2
 go_ret
 exact ⟨rfl, ((Kept.refl _ _).alloc _).alloc _⟩
theorem toLock_any (x0 x1 x2 : Int) (w : World) : Calls Try.prog 39 #[.agg #[.int .i64 x0, .int .i64 x1, .int .i64 x2]] w fun e w' => e = .returned (.agg #[.int .i64 x0, .int .i64 x1, .int .i64 x2]) ∧ Same w w' := by
 go_enter Try.func39, Try.ntmps39
 go_wp2
 refine bodyPost_ret (v := .agg #[.int .i64 x0, .int .i64 x1, .int .i64 x2]) (by simp [results, Try.results39, go_sem]) rfl ⟨rfl, ?_⟩
 repeat (first | exact Kept.refl _ _ | refine Kept.alloc ?_ _ | refine Kept.setCell ?_ (.inl (by simp)) _)
theorem eqLockS_own (x y : FR) (w : World) (hn : (x.bs.length : Int) ≤ 1125899906842624) (hd : x.bs = y.bs) (ha : OwnL w (x.rows 3)) (hb : OwnL w (y.rows 3)) :
  Calls Try.prog 18 #[x.v, y.v] w fun e w' => e = .returned (.bool true) ∧ Same w w' := by
 have hla := FR.own_len ha
 have hlb := FR.own_len hb
 have hfa := FR.own_form ha
 have hfb := FR.own_form hb
 obtain ⟨xe, xa, xn, xc, bs⟩ := x
 obtain ⟨ye, ya, yn, yc, bs'⟩ := y
 dsimp only at hn hd hla hlb hfa hfb
 subst hd
 obtain rfl : xn = yn := by omega
 dsimp only [FR.v]
 clear ha hb
 rcases hfa with ⟨rfl, rfl, rfl⟩ | ⟨ga, rfl, hac, hcm, hoa⟩
 ·have hz : (0 : Nat) = 0 := rfl
  go_enter Try.func18, Try.ntmps18
  go_wp2
  refine wp_loop_rounds 1 ?_
  rw [rounds_succ]
  go_wp2
  go_ret
  exact ⟨rfl, Kept.refl _ _⟩
 rcases hfb with ⟨rfl, rfl, rfl⟩ | ⟨gb, rfl, hbc, hcm', hob⟩
 ·clear hoa
  go_enter Try.func18, Try.ntmps18
  go_wp2
  refine wp_loop_rounds 1 ?_
  rw [rounds_succ]
  go_wp2
  go_ret
  exact ⟨rfl, Kept.refl _ _⟩
 have HA := (show Hid (OwnF 3 xe w ga xn xc bs) from hoa)
 have HB := (show Hid (OwnF 3 ye w gb xn yc bs) from hob)
 have hxn : (xn : Int) ≤ 1125899906842624 := by omega
 clear hoa hob hla hlb hn
 go_enter Try.func18, Try.ntmps18
 go_wp2
 go_loopw [5] (fun i wr => ∃ (k : Nat), k ≤ xn ∧ i = .int .i64 k ∧ Hid (Same w wr)) (fun i _ => xn - (intOf i).toNat)
 case atStart => exact ⟨0, Nat.zero_le _, rfl, Kept.refl _ _⟩
 case round =>
  obtain ⟨k, hk, rfl, HK⟩ := hrel
  by_cases hlt : k < xn
  ·have hoa := HA.out.same HK.out
   have hob := HB.out.same HK.out
   have ha0 : wr.cell? ⟨ga, k * 3, none⟩ = some (.int .i64 (bs.getD (k * 3) 0)) := hoa.cell _ (by omega)
   have ha1 : wr.cell? ⟨ga, k * 3 + 1, none⟩ = some (.int .i64 (bs.getD (k * 3 + 1) 0)) := hoa.cell _ (by omega)
   have ha2 : wr.cell? ⟨ga, k * 3 + 2, none⟩ = some (.int .i64 (bs.getD (k * 3 + 2) 0)) := hoa.cell _ (by omega)
   have hb0 : wr.cell? ⟨gb, k * 3, none⟩ = some (.int .i64 (bs.getD (k * 3) 0)) := hob.cell _ (by omega)
   have hb1 : wr.cell? ⟨gb, k * 3 + 1, none⟩ = some (.int .i64 (bs.getD (k * 3 + 1) 0)) := hob.cell _ (by omega)
   have hb2 : wr.cell? ⟨gb, k * 3 + 2, none⟩ = some (.int .i64 (bs.getD (k * 3 + 2) 0)) := hob.cell _ (by omega)
   clear hoa hob
   generalize bs.getD (k * 3) 0 = x0 at *
   generalize bs.getD (k * 3 + 1) 0 = x1 at *
   generalize bs.getD (k * 3 + 2) 0 = x2 at *
   go_wp2_with fail
   go_region_with (go_at_call 40; refine (eqLock_any x0 x1 x2 _).mono ?_; rintro e w1 ⟨rfl, hk1⟩)
   all_goals
    have HK1 : Hid (Same w w1) := HK.out.drew.trans hk1
    clear hk1 ha0 hb0 ha1 hb1 ha2 hb2
    go_wp2
    go_roundw
    case rel => exact ⟨k + 1, by omega, by go_num, HK1⟩
    case measure => simp [intOf]; omega
  ·go_wp2
   go_ret
   exact ⟨rfl, HK.out⟩
theorem szLockS_any (a : Option Addr) (n c : Nat) (left : Int) (w : World) (h0 : 0 ≤ left) (h1 : left ≤ 1048576) (hn : n ≤ maxLen) :
  Calls Try.prog 16 #[.slice a n c, .int .i64 left] w fun e w' => ∃ r : Int, e = .returned (.int .i64 r) ∧ ((r = -1 ∧ left < n) ∨ (r = left - n ∧ 0 ≤ r)) ∧ w' = w := by
 unfold maxLen at hn
 by_cases h : left < n
 ·go_enter Try.func16, Try.ntmps16
  go_wp2
  go_ret
  exact ⟨_, rfl, .inl ⟨rfl, h⟩, rfl⟩
 ·go_enter Try.func16, Try.ntmps16
  go_wp2
  go_ret
  exact ⟨_, rfl, .inr ⟨rfl, by omega⟩, rfl⟩
theorem toLockS_any (x : FR) (w : World) (hn : (x.n : Int) ≤ 1073741824) (hv : RdF 3 w x) :
  Calls Try.prog 17 #[x.v] w fun e w' => ∃ y : FR, e = .returned y.v ∧ y.bs = x.bs ∧ y.n = x.n ∧ (∀ b, FootL (y.rows 3) b → w.heap.size ≤ b) ∧ OwnL w' (y.rows 3) ∧ Same w w' := by
 obtain ⟨i0, hi, hz0, hz1, hz2⟩ := info_parts Try.infoLock
 obtain ⟨hmax, hlen, hform⟩ := hv
 obtain ⟨xe, xa, len, xc, bs⟩ := x
 dsimp only [FR.v] at *
 by_cases h0 : len = 0
 ·subst h0
  obtain rfl : bs = [] := List.length_eq_zero_iff.1 (by omega)
  clear hform hmax hlen hn
  go_enter Try.func17, Try.ntmps17
  go_wp2_with (at_make; refine wpList_make_full _ rfl (.tmp 6) (.tmp 6) 23 rfl 0 51 i0 (.agg #[.int .i64 0, .int .i64 0, .int .i64 0]) 3 Try.underlying23 hi hz0 hz1 .i64 .i64 _ _ 0 rfl rfl (by simp) (by simp) (by simp) (by simp) (Nat.zero_le _) ?_; intro w1 hown1 hgrow1; have HO : Hid (OwnF 3 51 w1 w.heap.size 0 0 (List.replicate (0 * 3) 0)) := ownF_made (z := .agg #[.int .i64 0, .int .i64 0, .int .i64 0]) (by decide) (by simp [Value.cells, List.replicate]) (by simpa using hown1); have HK : Hid (Same w w1) := Kept.of_grown hgrow1 (fun k e => by cases e); clear hown1 hgrow1)
  refine wp_loop_rounds 1 ?_
  rw [rounds_succ]
  go_wp2
  go_ret
  exact ⟨⟨51, some ⟨w.heap.size, 0, none⟩, 0, 0, []⟩, rfl, rfl, rfl, fun b hb => by have h := (FootL_one _ _).1 hb; simp [FR.v, Value.ownBlock] at h; omega, HO.out.out, HK.out⟩
 ·obtain ⟨b, off, rfl, hle, hc⟩ := hform.resolve_left h0
  have HC := (show Hid (∀ i, i < len * 3 → w.cell? ⟨b, off + i, none⟩ = some (.int .i64 (bs.getD i 0))) from hc)
  have HLB := (show Hid (bs.length = len * 3) from hlen)
  clear hc hform hlen
  go_enter Try.func17, Try.ntmps17
  go_wp2_with (at_make; refine wpList_make_full _ rfl (.tmp 6) (.tmp 6) 23 rfl 0 51 i0 (.agg #[.int .i64 0, .int .i64 0, .int .i64 0]) 3 Try.underlying23 hi hz0 hz1 .i64 .i64 _ _ len rfl rfl (by simp) (by simp) (by rw [hz2]; omega) (by unfold maxLen; omega) (Nat.zero_le _) ?_; intro w1 hown1 hgrow1; have HO : Hid (OwnF 3 51 w1 w.heap.size len len (List.replicate (len * 3) 0)) := ownF_made (z := .agg #[.int .i64 0, .int .i64 0, .int .i64 0]) (by decide) (by simp [Value.cells, List.replicate]) (by simpa using hown1); have HK : Hid (Same w w1) := Kept.of_grown hgrow1 (fun k e => by cases e); clear hown1 hgrow1)
  go_loopw [4] (fun i wr => ∃ (k : Nat), k ≤ len ∧ i = .int .i64 k ∧ Hid (OwnF 3 51 wr w.heap.size len len (fillUp bs (k * 3))) ∧ Hid (Same w wr)) (fun i _ => len - (intOf i).toNat)
  case atStart => exact ⟨0, Nat.zero_le _, rfl, by rw [Nat.zero_mul, fillUp_zero, HLB.out]; exact HO, HK⟩
  case round =>
   obtain ⟨k, hk, rfl, HOr, HKr⟩ := hrel
   by_cases hlt : k < len
   ·have q0 : wr.cell? ⟨b, off + k * 3, none⟩ = some (.int .i64 (bs.getD (k * 3) 0)) := by have h := HKr.out.cellOf (HC.out (k * 3) (by omega)) id; simpa only [Nat.add_assoc] using h
    have q1 : wr.cell? ⟨b, off + k * 3 + 1, none⟩ = some (.int .i64 (bs.getD (k * 3 + 1) 0)) := by have h := HKr.out.cellOf (HC.out (k * 3 + 1) (by omega)) id; simpa only [Nat.add_assoc] using h
    have q2 : wr.cell? ⟨b, off + k * 3 + 2, none⟩ = some (.int .i64 (bs.getD (k * 3 + 2) 0)) := by have h := HKr.out.cellOf (HC.out (k * 3 + 2) (by omega)) id; simpa only [Nat.add_assoc] using h
    go_wp2_with fail
    refine (toLock_any (bs.getD (k * 3) 0) (bs.getD (k * 3 + 1) 0) (bs.getD (k * 3 + 2) 0) _).mono ?_
    rintro e w2 ⟨rfl, hk2⟩
    have HO2 := hid (HOr.out.same hk2)
    have HK2 := hid (HKr.out.trans hk2)
    clear hk2
    have r0 := HO2.out.cell (k * 3) (by omega)
    have f0 := HO2.out.frozen (k * 3)
    have r1 := HO2.out.cell (k * 3 + 1) (by omega)
    have f1 := HO2.out.frozen (k * 3 + 1)
    have r2 := HO2.out.cell (k * 3 + 2) (by omega)
    have f2 := HO2.out.frozen (k * 3 + 2)
    go_wp2
    go_roundw
    case rel =>
     have h0 := HO2.out
     have h1 := h0.stored (k * 3) (bs.getD (k * 3) 0)
     rw [fillUp_step _ _ (by have := HLB.out; omega)] at h1
     have h2 := h1.stored (k * 3 + 1) (bs.getD (k * 3 + 1) 0)
     rw [fillUp_step _ _ (by have := HLB.out; omega)] at h2
     have h3 := h2.stored (k * 3 + 2) (bs.getD (k * 3 + 2) 0)
     rw [fillUp_step _ _ (by have := HLB.out; omega)] at h3
     refine ⟨k + 1, by omega, by go_num, ?_, ?_⟩
     ·rw [show (k + 1) * 3 = k * 3 + 1 + 1 + 1 from by omega]; simpa [List.getD, Hid] using h3
     ·exact (((HK2.out.setCell (.inl (Nat.le_refl _)) _).setCell (.inl (Nat.le_refl _)) _).setCell (.inl (Nat.le_refl _)) _)
    case measure => simp [intOf]; omega
   ·go_wp2
    go_ret
    obtain rfl : k = len := by omega
    have h := HOr.out
    rw [← HLB.out, fillUp_all] at h
    exact ⟨⟨51, some ⟨w.heap.size, 0, none⟩, k, k, bs⟩, rfl, rfl, rfl, fun b hb => by have h := (FootL_one _ _).1 hb; simp [FR.v, Value.ownBlock] at h; omega, h.out, HKr.out⟩
theorem markLockS_own (x : FR) (k0 : Int) (w : World) (h0 : 0 ≤ k0) (h1 : k0 + (x.bs.length : Int) ≤ 1125899906842624) (ha : OwnL w (x.rows 3)) :
  Calls Try.prog 23 #[x.v, .int .i64 k0] w fun e w' => e = .returned (.int .i64 (k0 + (x.bs.length : Int))) ∧ OwnL w' ((x.marked k0).rows 3) ∧ Kept (FootL (x.rows 3)) w w' := by
 have hl := FR.own_len ha
 have hf := FR.own_form ha
 obtain ⟨xe, xa, xn, xc, bs⟩ := x
 dsimp only [FR.v] at *
 have HA := (show Hid (OwnL w (FR.rows 3 ⟨xe, xa, xn, xc, bs⟩)) from ha)
 clear ha
 rcases hf with ⟨rfl, rfl, rfl⟩ | ⟨g, rfl, hac, hcm, ho⟩
 ·obtain rfl : bs = [] := List.length_eq_zero_iff.1 (by omega)
  clear hl
  go_enter Try.func23, Try.ntmps23
  go_wp2
  refine wp_loop_rounds 1 ?_
  rw [rounds_succ]
  go_wp2
  go_ret
  exact ⟨by simp, HA.out, Kept.refl _ _⟩
 ·have HL := (show Hid (bs.length = xn * 3) from hl)
  have HO0 := (show Hid (OwnF 3 xe w g xn xc bs) from ho)
  rw [hl] at h1 ⊢
  have hxn : k0 + (xn : Int) * 3 ≤ 1125899906842624 := by simpa using h1
  unfold maxLen at hcm
  clear ho hl HA h1
  go_enter Try.func23, Try.ntmps23
  go_wp2
  go_loopw [1, 5] (fun v i wr => ∃ k : Nat, k ≤ xn ∧ i = .int .i64 k ∧ v = .int .i64 (k0 + (k : Int) * 3) ∧ Hid (OwnF 3 xe wr g xn xc (partI k0 bs (k * 3))) ∧ Hid (Kept (fun b => b = g) w wr)) (fun _ i _ => xn - (intOf i).toNat)
  case atStart => exact ⟨0, Nat.zero_le _, rfl, by simp, by rw [Nat.zero_mul, partI_zero]; exact HO0, Kept.refl _ _⟩
  case round =>
   obtain ⟨k, hk, rfl, rfl, HO, HK⟩ := hrel
   by_cases hlt : k < xn
   ·have c0 := HO.out.cell (k * 3) (by omega)
    have f0 := HO.out.frozen (k * 3)
    have c1 := HO.out.cell (k * 3 + 1) (by omega)
    have f1 := HO.out.frozen (k * 3 + 1)
    have c2 := HO.out.cell (k * 3 + 2) (by omega)
    have f2 := HO.out.frozen (k * 3 + 2)
    go_wp2
    go_roundw
    case rel =>
     have hl := HL.out
     have q0 := HO.out
     have q1 := q0.stored (k * 3) (k0 + ((k * 3 : Nat) : Int))
     rw [partI_step _ _ _ (by omega)] at q1
     have q2 := q1.stored (k * 3 + 1) (k0 + ((k * 3 + 1 : Nat) : Int))
     rw [partI_step _ _ _ (by omega)] at q2
     have q3 := q2.stored (k * 3 + 2) (k0 + ((k * 3 + 2 : Nat) : Int))
     rw [partI_step _ _ _ (by omega)] at q3
     refine ⟨k + 1, by omega, by go_num, by go_num, ?_, ?_⟩
     ·rw [show (k + 1) * 3 = k * 3 + 1 + 1 + 1 from by omega]; simpa [Hid, Int.add_assoc] using q3
     ·exact (((HK.out.setCell (.inr rfl) _).setCell (.inr rfl) _).setCell (.inr rfl) _)
    case measure => simp [intOf]; omega
   ·go_wp2
    go_ret
    obtain rfl : k = xn := by omega
    have h := HO.out
    rw [← HL.out, partI_all] at h
    refine ⟨ret_int (by push_cast; rfl), ?_, HK.out.mono (fun b _ hb => (FootL_one _ _).2 (by simp [FR.v, Value.ownBlock, hb]))⟩
    exact h.out
theorem heldLockS_own (x : FR) (k0 : Int) (w : World) (h0 : 0 ≤ k0) (h1 : k0 + (x.bs.length : Int) ≤ 1125899906842624) (ha : OwnL w ((x.marked k0).rows 3)) :
  Calls Try.prog 41 #[x.v, .int .i64 k0] w fun e w' => e = .returned (.int .i64 (k0 + (x.bs.length : Int))) ∧ Same w w' := by
 have hl := FR.own_len ha
 have hf := FR.own_form ha
 obtain ⟨xe, xa, xn, xc, bs⟩ := x
 dsimp only [FR.v, FR.marked] at *
 rw [marksI_length] at hl
 clear ha
 rcases hf with ⟨rfl, rfl, rfl⟩ | ⟨g, rfl, hac, hcm, ho⟩
 ·obtain rfl : bs = [] := List.length_eq_zero_iff.1 (by omega)
  clear hl
  go_enter Try.func41, Try.ntmps41
  go_wp2
  refine wp_loop_rounds 1 ?_
  rw [rounds_succ]
  go_wp2
  go_ret
  exact ⟨by simp, Kept.refl _ _⟩
 ·have hc : ∀ j, j < xn * 3 → w.cell? ⟨g, j, none⟩ = some (.int .i64 (k0 + j)) := fun j hj => by
   rw [ho.cell j hj, marksI_at _ _ _ (by omega)]
  rw [hl] at h1 ⊢
  have hxn : k0 + (xn : Int) * 3 ≤ 1125899906842624 := by simpa using h1
  unfold maxLen at hcm
  clear ho h1
  go_enter Try.func41, Try.ntmps41
  go_wp2
  go_loop [1, 5] (fun v i => ∃ k : Nat, k ≤ xn ∧ i = .int .i64 k ∧ v = .int .i64 (k0 + (k : Int) * 3)) (fun _ i => xn - (intOf i).toNat)
  case atStart => exact ⟨0, Nat.zero_le _, rfl, by simp⟩
  case round =>
   obtain ⟨k, hk, rfl, rfl⟩ := hrel
   by_cases hlt : k < xn
   ·have c0 : w.cell? ⟨g, k * 3, none⟩ = some (.int .i64 (k0 + (k : Int) * 3)) := by rw [hc (k * 3) (by omega)]; congr 2 <;> (push_cast; omega)
    have c1 : w.cell? ⟨g, k * 3 + 1, none⟩ = some (.int .i64 (k0 + (k : Int) * 3 + 1)) := by rw [hc (k * 3 + 1) (by omega)]; congr 2 <;> (push_cast; omega)
    have c2 : w.cell? ⟨g, k * 3 + 2, none⟩ = some (.int .i64 (k0 + (k : Int) * 3 + 2)) := by rw [hc (k * 3 + 2) (by omega)]; congr 2 <;> (push_cast; omega)
    clear hc
    go_wp2
    go_round
    case rel => exact ⟨k + 1, by omega, by go_num, by go_num⟩
    case measure => simp [intOf]; omega
   ·go_wp2
    go_ret
    obtain rfl : k = xn := by omega
    exact ⟨ret_int (by push_cast; rfl), Kept.refl _ _⟩
section
variable {P : Program} {ops : Array Oper} {Q : Exit → Act → World → Prop} {md : Region.Mode} {S : World → Prop} {s : Nat}
def wpAnyV (P : Program) (md : Region.Mode) (ops : Array Oper) (Q : Exit → Act → World → Prop) (S : World → Prop) (s : Nat) : Nat → Array Bool → Act → World → Prop
 | 0, listed, a, w => Region.ready md ops listed = [] ∧ Q .normal a w
 | fuel + 1, listed, a, w =>
  (Region.ready md ops listed = [] → Q .normal a w) ∧
  ∀ i ∈ Region.ready md ops listed, wpOp P ops Q i (fun a' w' => (i ≠ s → S w') ∧ wpAnyV P md ops Q S s fuel (listed.setIfInBounds i true) a' w') a w
theorem wpAny_of_V : ∀ (fuel : Nat) (listed : Array Bool) (a : Act) (w : World), wpAnyV P md ops Q S s fuel listed a w → wpAny P md ops Q fuel listed a w
 | 0, _, _, _, h => h
 | fuel + 1, _, _, _, h => ⟨h.1, fun i hi => wpOp_mono (fun a' w' h' => wpAny_of_V fuel _ a' w' h'.2) (h.2 i hi)⟩
def waits (md : Region.Mode) (ops : Array Oper) (s i : Nat) : Bool :=
 match ops[s]? with
 | some o => o.after.any fun e => Region.binds md e && e.on == i
 | none => true
theorem waits_spec {i : Nat} (h : waits md ops s i = true) {os : Oper} (ho : ops[s]? = some os) (hn : ∀ e ∈ os.after, Region.binds md e = true → e.on ≠ i) : False := by
 unfold waits at h
 rw [ho] at h
 obtain ⟨e, he, hb⟩ := Array.any_eq_true'.1 h
 simp only [Bool.and_eq_true, beq_iff_eq] at hb
 exact hn e he hb.1 hb.2
theorem ready_apart {listed : Array Bool} {i j : Nat} (hi : i ∈ Region.ready md ops listed) (hj : j ∈ Region.ready md ops listed) {oj : Oper} (hoj : ops[j]? = some oj) :
  ∀ e ∈ oj.after, Region.binds md e = true → e.on ≠ i := by
 rintro e he hb rfl
 obtain ⟨_, o, ho, hall⟩ := mem_ready.1 hj
 obtain rfl : o = oj := by rw [hoj] at ho; exact (Option.some.inj ho).symm
 have hyes := hall e he hb
 have hno := (mem_ready.1 hi).1
 by_cases hl : e.on < listed.size <;> simp_all
def Loose (md : Region.Mode) (ops : Array Oper) (i : Nat) (oi : Oper) (listed : Array Bool) : Prop :=
 ∀ j oj, ops[j]? = some oj → j ≠ i → listed.getD j true = false → (∀ e ∈ oj.after, Region.binds md e = true → e.on ≠ i) → oi.apart ops oj = true
theorem Loose.on {i j : Nat} {oi : Oper} {listed : Array Bool} (h : Loose md ops i oi listed) (hj : listed.getD j true = false) : Loose md ops i oi (listed.setIfInBounds j true) := fun k ok hk hki hun hno =>
 h k ok hk hki (if e : j = k then e ▸ hj else (getD_set_ne true e) ▸ hun) hno
theorem wpAnyV_first {i : Nat} {oi : Oper} {v : Value} (hi : ops[i]? = some oi) (hsel : ∀ (j : Nat) (o : Oper) cs b, ops[j]? = some o → o.op ≠ .select cs b) (hs : waits md ops s i = true)
  (hQ : ∀ c a w, Q (.panic c) (a.put oi.dst v) w → Q (.panic c) a w) (fuel : Nat) : ∀ (listed : Array Bool) (a : Act) (w : World), Loose md ops i oi listed → i ∈ Region.ready md ops listed → YieldsIf P ops S oi v a → S w →
   wpAnyV P md ops Q S s fuel (listed.setIfInBounds i true) (a.put oi.dst v) w → wpAnyV P md ops Q S s (fuel + 1) listed a w := by
 induction fuel with
 | zero =>
  intro listed a w _ hr hy hS H
  constructor
  ·intro h0; simp [h0] at hr
  ·intro j hj
   by_cases e : j = i
   ·exact e ▸ hy.wpOp hi hS ⟨fun _ => hS, H⟩
   ·have := ready_mono hj e
    simp [H.1] at this
 | succ fuel ih =>
  intro listed a w hl hr hy hS H
  constructor
  ·intro h0; simp [h0] at hr
  ·intro j hj
   by_cases e : j = i
   ·exact e ▸ hy.wpOp hi hS ⟨fun _ => hS, H⟩
   ·obtain ⟨hun, oj, hoj, _⟩ := mem_ready.1 hj
    have hap := ready_apart hr hj hoj
    have hjs : j ≠ s := fun es => waits_spec hs (es ▸ hoj) hap
    refine wpOp_mono ?_ (wpOp_putIf hoj (hl j oj hoj e hun hap) (fun cs b => hsel i oi cs b hi) (fun cs b => hsel j oj cs b hoj) hQ hy (H.2 j (ready_mono hj e)))
    rintro a' w' ⟨hy', hS', hw'⟩
    exact ⟨hS', ih _ a' w' (hl.on hun) (ready_mono hr (Ne.symm e)) hy' (hS' hjs) (by rw [Array.setIfInBounds_comm _ _ e]; exact hw')⟩
theorem wpAnyV_take {i : Nat} {oi : Oper} {v : Value} {fuel : Nat} {listed : Array Bool} {a : Act} {w : World} (d : Option Tmp) (hi : ops[i]? = some oi) (hd : oi.dst = d)
  (hsl : Region.noSelect ops = true) (hf : Region.free md ops listed i = true) (hr : (Region.ready md ops listed).contains i = true) (hs : waits md ops s i = true)
  (hQ : ∀ c a w, Q (.panic c) (a.put d v) w → Q (.panic c) a w) (hy : YieldsIf P ops S oi v a) (hS : S w)
  (h : wpAnyV P md ops Q S s fuel (listed.setIfInBounds i true) (a.put d v) w) : wpAnyV P md ops Q S s (fuel + 1) listed a w := by
 subst hd
 exact wpAnyV_first hi (Region.noSelect_spec hsl) hs hQ fuel listed a w (Region.free_spec hi hf) (by simpa using hr) hy hS h
theorem wpAnyV_tk (i d : Nat) {oi : Oper} {v : Value} {fuel : Nat} {listed : Array Bool} {a : Act} {w : World} (hy : ∀ w, S w → (execOp a.eval oi).run P w = .ok (.value v) w) (hS : S w)
  (h : wpAnyV P md ops Q S s fuel (listed.setIfInBounds i true) (a.put (some d) v) w) (hi : ops[i]? = some oi := by rfl) (hg : Region.wanted oi (yielded ops a.tmps) = true := by rfl) (hd : oi.dst = some d := by rfl)
  (hsl : Region.noSelect ops = true := by kernel_rfl) (hf : Region.free md ops listed i = true := by kernel_rfl) (hr : (Region.ready md ops listed).contains i = true := by kernel_rfl) (hs : waits md ops s i = true := by kernel_rfl)
  (hQ : ∀ c a w, Q (.panic c) (a.put (some d) v) w → Q (.panic c) a w := by exact fun _ _ _ h => h) : wpAnyV P md ops Q S s (fuel + 1) listed a w :=
 wpAnyV_take (some d) hi hd hsl hf hr hs hQ (Or.inl ⟨hg, hy⟩) hS h
theorem sA {α : Type} {l : List α} {i : Nat} {a : α} : l.toArray.setIfInBounds i a = (l.set i a).toArray := List.setIfInBounds_toArray ..
theorem s0 {α : Type} {x : α} {xs : List α} {a : α} : (x :: xs).set 0 a = a :: xs := List.set_cons_zero
theorem sS {α : Type} {x : α} {xs : List α} {i : Nat} {a : α} : (x :: xs).set (i + 1) a = x :: xs.set i a := List.set_cons_succ
theorem tk (i d : Nat) {oi : Oper} {v : Value} {fuel : Nat} {listed : Array Bool} {a a' : Act} {w : World} (hS : S w)
  (h : wpAnyV P md ops Q S s fuel (listed.setIfInBounds i true) a' w) (hi : ops[i]? = some oi := by rfl) (hg : Region.wanted oi (yielded ops a.tmps) = true := by rfl) (hd : oi.dst = some d := by rfl)
  (hy : ∀ w, S w → (execOp a.eval oi).run P w = .ok (.value v) w := by intro w hSw; (try dsimp (config := { zetaDelta := true }) only at hSw); go_simp; (try with_reducible rfl))
  (hsl : Region.noSelect ops = true := by kernel_rfl) (hf : Region.free md ops listed i = true := by kernel_rfl) (hr : (Region.ready md ops listed).contains i = true := by kernel_rfl) (hs : waits md ops s i = true := by kernel_rfl)
  (hQ : ∀ c a w, Q (.panic c) (a.put (some d) v) w → Q (.panic c) a w := by exact fun _ _ _ h => h)
  (ha : a.put (some d) v = a' := by first | (simp only [Act.put, sA, s0, sS]; done) | (simp only [Act.put, sA, s0, sS]; rfl) | rfl) : wpAnyV P md ops Q S s (fuel + 1) listed a w :=
 wpAnyV_take (some d) hi hd hsl hf hr hs hQ (Or.inl ⟨hg, hy⟩) hS (ha ▸ h)
theorem tkV (i d : Nat) (v : Value) {oi : Oper} {fuel : Nat} {listed : Array Bool} {a a' : Act} {w : World} (hS : S w)
  (h : wpAnyV P md ops Q S s fuel (listed.setIfInBounds i true) a' w) (hi : ops[i]? = some oi := by rfl) (hg : Region.wanted oi (yielded ops a.tmps) = true := by rfl) (hd : oi.dst = some d := by rfl)
  (hy : ∀ w, S w → (execOp a.eval oi).run P w = .ok (.value v) w := by intro w hSw; (try dsimp (config := { zetaDelta := true }) only at hSw); go_simp; (try omega))
  (hsl : Region.noSelect ops = true := by kernel_rfl) (hf : Region.free md ops listed i = true := by kernel_rfl) (hr : (Region.ready md ops listed).contains i = true := by kernel_rfl) (hs : waits md ops s i = true := by kernel_rfl)
  (hQ : ∀ c a w, Q (.panic c) (a.put (some d) v) w → Q (.panic c) a w := by exact fun _ _ _ h => h)
  (ha : a.put (some d) v = a' := by first | (simp only [Act.put, sA, s0, sS]; done) | (simp only [Act.put, sA, s0, sS]; rfl) | rfl) : wpAnyV P md ops Q S s (fuel + 1) listed a w :=
 wpAnyV_take (some d) hi hd hsl hf hr hs hQ (Or.inl ⟨hg, hy⟩) hS (ha ▸ h)
theorem wpAnyV_one {i : Nat} {o : Oper} {fuel : Nat} {listed : Array Bool} {a : Act} {w : World} (hr : Region.ready md ops listed = [i]) (ho : ops[i]? = some o)
  (h : ∀ K' : Act → World → Prop, Shut (∀ a w, (i ≠ s → S w) → wpAnyV P md ops Q S s fuel (listed.setIfInBounds i true) a w → K' a w) → if Region.wanted o (yielded ops a.tmps) = true then Oper.wp P o a w K' Q else K' (a.put o.dst undef) w) :
  wpAnyV P md ops Q S s (fuel + 1) listed a w := by
 constructor
 ·intro h0; simp [hr] at h0
 ·intro j hj
  rw [hr] at hj
  obtain rfl : j = i := by simpa using hj
  exact wpOp_step ho (fun K' hK => h K' (fun a w hS hW => hK a w ⟨hS, hW⟩))
theorem wpAnyV_done {fuel : Nat} {listed : Array Bool} {a : Act} {w : World} (hr : Region.ready md ops listed = []) (h : Q .normal a w) : wpAnyV P md ops Q S s fuel listed a w := by
 cases fuel with
 | zero => exact ⟨hr, h⟩
 | succ n => exact ⟨fun _ => h, by rw [hr]; simp⟩
theorem wp_region_V {id : Nat} {a : Act} {w : World} (S : World → Prop) (s n : Nat) (hn : ops.size = n) (hm : P.follows .mixedOrders = true) (h : wpAnyV P .any ops Q S s n (Array.replicate n false) a w.drew) : (Code.region id ops true).wp P Q a w := by
 subst hn
 exact wp_region_any hm (wpAny_of_V _ _ _ _ h)
end
theorem isTxn8_any (x : Int) (w : World) : Calls Try.prog 50 #[.int .i64 x] w fun e w' => e = .returned (.bool (inB x 1 2147483647)) ∧ w' = w := by
 unfold inB
 by_cases h : 1 ≤ x
 ·by_cases h2 : x ≤ 2147483647
  ·go_enter Try.func50, Try.ntmps50
   go_wp2
   go_ret
   exact ⟨by simp [h, h2], rfl⟩
  ·go_enter Try.func50, Try.ntmps50
   go_wp2
   go_ret
   exact ⟨by simp [h]; try omega, rfl⟩
 ·go_enter Try.func50, Try.ntmps50
  go_wp2
  go_ret
  exact ⟨by rw [show decide (1 ≤ x) = false from by simp; omega]; rfl, rfl⟩
theorem isId8_any (x : Int) (w : World) : Calls Try.prog 49 #[.int .i64 x] w fun e w' => e = .returned (.bool (inB x 0 511)) ∧ w' = w := by
 unfold inB
 by_cases h : 0 ≤ x
 ·by_cases h2 : x ≤ 511
  ·go_enter Try.func49, Try.ntmps49
   go_wp2
   go_ret
   exact ⟨by simp [h]; try omega, rfl⟩
  ·go_enter Try.func49, Try.ntmps49
   go_wp2
   go_ret
   exact ⟨by simp [h]; try omega, rfl⟩
 ·go_enter Try.func49, Try.ntmps49
  go_wp2
  go_ret
  exact ⟨by rw [show decide (0 ≤ x) = false from by simp; omega]; rfl, rfl⟩
theorem wrongLock_any (p : T3) (w : World) :
  Calls Try.prog 33 #[.agg #[.int .i64 p.1, .int .i64 p.2.1, .int .i64 p.2.2]] w fun e w' => e = .returned (.bool (lkBad p)) ∧ Same w w' := by
 obtain ⟨B, hB⟩ : ∃ B, lkBad p = B := ⟨_, rfl⟩
 rw [hB]
 unfold lkBad at hB
 obtain ⟨x, y, z⟩ := p
 dsimp only at hB ⊢
 have HB0 := (show Hid (Blk (w.alloc (.cells #[.int .i64 x, .int .i64 y, .int .i64 z] 51)) w.heap.size 51 [.int .i64 x, .int .i64 y, .int .i64 z]) from Blk.newL w _ _)
 have HK0 := hid (sameA w [.int .i64 x, .int .i64 y, .int .i64 z] 51)
 obtain ⟨c0, c1, c2⟩ := HB0.out.all3
 have k0 := isTxn8_any y
 have ki := isId8_any x
 cases e0 : inB x 0 511 with
 | false =>
  rw [e0] at ki hB
  subst hB
  go_enter Try.func33, Try.ntmps33
  go_wp2_with fail
  refine (ki _).mono ?_
  rintro e w1 ⟨rfl, rfl⟩
  go_wp2
  go_ret
  exact ⟨by simp, HK0.out⟩
 | true =>
 rw [e0] at ki hB
 cases f : inB y 1 2147483647 with
 | false =>
  rw [f] at k0 hB
  subst hB
  go_enter Try.func33, Try.ntmps33
  go_wp2_with fail
  refine (ki _).mono ?_
  rintro e w1 ⟨rfl, rfl⟩
  go_wp2_with fail
  refine (k0 _).mono ?_
  rintro e w1 ⟨rfl, rfl⟩
  go_wp2
  go_ret
  exact ⟨by simp, HK0.out⟩
 | true =>
  rw [f] at k0 hB
  by_cases h2 : z = 1
  ·subst h2
   subst hB
   go_enter Try.func33, Try.ntmps33
   go_wp2_with fail
   refine (ki _).mono ?_
   rintro e w1 ⟨rfl, rfl⟩
   go_wp2_with fail
   refine (k0 _).mono ?_
   rintro e w1 ⟨rfl, rfl⟩
   go_wp2
   go_ret
   exact ⟨by simp [inB], HK0.out⟩
  ·have q2 : (z != 1) = true := by simp [h2]
   by_cases h3 : z = 2
   ·subst h3
    subst hB
    go_enter Try.func33, Try.ntmps33
    go_wp2_with fail
    refine (ki _).mono ?_
    rintro e w1 ⟨rfl, rfl⟩
    go_wp2_with fail
    refine (k0 _).mono ?_
    rintro e w1 ⟨rfl, rfl⟩
    go_wp2
    go_ret
    exact ⟨by simp [inB], HK0.out⟩
   ·have q3 : (z != 2) = true := by simp [h3]
    subst hB
    go_enter Try.func33, Try.ntmps33
    go_wp2_with fail
    refine (ki _).mono ?_
    rintro e w1 ⟨rfl, rfl⟩
    go_wp2_with fail
    refine (k0 _).mono ?_
    rintro e w1 ⟨rfl, rfl⟩
    go_wp2
    go_ret
    exact ⟨by simp [inB]; omega, HK0.out⟩
def togB (a b : Int) : Bool := decide (a = 0) || decide (b = 0) || decide (a = 1) && decide (b = 1)
theorem together_any (a b : Int) (w : World) : Calls Try.prog 47 #[.int .i64 a, .int .i64 b] w fun e w' => e = .returned (.bool (togB a b)) ∧ w' = w := by
 unfold togB
 by_cases h0 : a = 0
 ·subst h0
  go_enter Try.func47, Try.ntmps47
  go_wp2
  go_ret
  exact ⟨by simp, rfl⟩
 by_cases h1 : b = 0
 ·subst h1
  go_enter Try.func47, Try.ntmps47
  go_wp2
  go_ret
  exact ⟨by simp, rfl⟩
 by_cases h2 : a = 1
 ·subst h2
  by_cases h3 : b = 1
  ·subst h3
   go_enter Try.func47, Try.ntmps47
   go_wp2
   go_ret
   exact ⟨by simp, rfl⟩
  ·go_enter Try.func47, Try.ntmps47
   go_wp2
   go_ret
   exact ⟨by simp [h1, h3], rfl⟩
 ·go_enter Try.func47, Try.ntmps47
  go_wp2
  go_ret
  exact ⟨by simp [h0, h1, h2], rfl⟩
theorem inConflict_any (p q : T3) (w : World) (hp : lkBad p = false) (hq : lkBad q = false) :
  Calls Try.prog 36 #[.agg #[.int .i64 p.1, .int .i64 p.2.1, .int .i64 p.2.2], .agg #[.int .i64 q.1, .int .i64 q.2.1, .int .i64 q.2.2]] w fun e w' => e = .returned (.bool (lkClash p q)) ∧ Same w w' := by
 have he : lkClash p q = (decide (p.1 = q.1) && !togB p.2.2 q.2.2) := by
  unfold lkBad inB at hp hq
  unfold lkClash togB
  rw [Bool.eq_iff_iff]
  simp at hp hq ⊢
  omega
 rw [he]
 clear hp hq he
 obtain ⟨x, y, z⟩ := p
 obtain ⟨x2, y2, z2⟩ := q
 dsimp only
 have HB0 := (show Hid (Blk (w.alloc (.cells #[.int .i64 x, .int .i64 y, .int .i64 z] 51)) w.heap.size 51 [.int .i64 x, .int .i64 y, .int .i64 z]) from Blk.newL w _ _)
 have HK0 := hid (sameA w [.int .i64 x, .int .i64 y, .int .i64 z] 51)
 obtain ⟨w1, hw1⟩ : ∃ w1, w.alloc (.cells #[.int .i64 x, .int .i64 y, .int .i64 z] 51) = w1 := ⟨_, rfl⟩
 rw [hw1] at HB0 HK0
 have HB1 := (show Hid (Blk (w1.alloc (.cells #[.int .i64 x2, .int .i64 y2, .int .i64 z2] 51)) w1.heap.size 51 [.int .i64 x2, .int .i64 y2, .int .i64 z2]) from Blk.newL w1 _ _)
 have HK1 := hid (sameA w1 [.int .i64 x2, .int .i64 y2, .int .i64 z2] 51)
 obtain ⟨c0, c1, c2⟩ := (HB0.out.same HK1.out).all3
 obtain ⟨d0, d1, d2⟩ := HB1.out.all3
 have HK2 := hid (HK0.out.trans HK1.out)
 have k0 := together_any z z2
 subst hw1
 by_cases h0 : x = x2
 ·subst h0
  go_enter Try.func36, Try.ntmps36
  go_wp2_with fail
  refine (k0 _).mono ?_
  rintro e w1 ⟨rfl, rfl⟩
  go_wp2
  go_ret
  exact ⟨by simp, HK2.out⟩
 ·go_enter Try.func36, Try.ntmps36
  go_wp2
  go_ret
  exact ⟨by simp [h0], HK2.out⟩
theorem isNaN8_any (x : Int) (w : World) : Calls Try.prog 57 #[.int .i64 x] w fun e w' => e = .returned (.bool false) ∧ w' = w := by
 go_enter Try.func57, Try.ntmps57
 go_wp2
 go_ret
 exact ⟨by simp, rfl⟩
def cmpI (x y : Int) : Int := if x < y then -1 else if y < x then 1 else 0
theorem compare8_any (x y : Int) (w : World) : Calls Try.prog 52 #[.int .i64 x, .int .i64 y] w fun e w' => e = .returned (.int .i64 (cmpI x y)) ∧ w' = w := by
 have k0 := isNaN8_any x
 have k1 := isNaN8_any y
 unfold cmpI
 by_cases h : x < y
 ·rw [if_pos h]
  go_enter Try.func52, Try.ntmps52
  go_wp2_with fail
  refine (k0 _).mono ?_
  rintro e w1 ⟨rfl, rfl⟩
  go_wp2_with fail
  refine (k1 _).mono ?_
  rintro e w1 ⟨rfl, rfl⟩
  go_wp2
  go_ret
  exact ⟨rfl, rfl⟩
 ·rw [if_neg h]
  by_cases h2 : y < x
  ·rw [if_pos h2]
   go_enter Try.func52, Try.ntmps52
   go_wp2_with fail
   refine (k0 _).mono ?_
   rintro e w1 ⟨rfl, rfl⟩
   go_wp2_with fail
   refine (k1 _).mono ?_
   rintro e w1 ⟨rfl, rfl⟩
   go_wp2
   go_ret
   exact ⟨rfl, rfl⟩
  ·rw [if_neg h2]
   go_enter Try.func52, Try.ntmps52
   go_wp2_with fail
   refine (k0 _).mono ?_
   rintro e w1 ⟨rfl, rfl⟩
   go_wp2_with fail
   refine (k1 _).mono ?_
   rintro e w1 ⟨rfl, rfl⟩
   go_wp2
   go_ret
   exact ⟨rfl, rfl⟩
theorem or8_any (x y : Int) (w : World) (b : Nat) (hb : w.heap[b]? = some (.cells #[.int .i64 x, .int .i64 y] 3)) :
  Calls Try.prog 51 #[.slice (some ⟨b, 0, none⟩) 2 2] w fun e w' => e = .returned (.int .i64 (if x = 0 then y else x)) ∧ w' = w := by
 have c0 : w.cell? ⟨b, 0, none⟩ = some (.int .i64 x) := by simp [World.cell?, hb]
 have c1 : w.cell? ⟨b, 0 + 1, none⟩ = some (.int .i64 y) := by simp [World.cell?, hb]
 clear hb
 by_cases h : x = 0
 ·subst h
  rw [if_pos rfl]
  by_cases h2 : y = 0
  ·subst h2
   go_enter Try.func51, Try.ntmps51
   go_wp2
   refine wp_loop_rounds 3 ?_
   rw [rounds_succ]
   go_wp2
   rw [rounds_succ]
   go_wp2
   rw [rounds_succ]
   go_wp2
   go_ret
   exact ⟨rfl, rfl⟩
  ·go_enter Try.func51, Try.ntmps51
   go_wp2
   refine wp_loop_rounds 2 ?_
   rw [rounds_succ]
   go_wp2
   rw [rounds_succ]
   go_wp2
   go_ret
   exact ⟨rfl, rfl⟩
 ·rw [if_neg h]
  go_enter Try.func51, Try.ntmps51
  go_wp2
  refine wp_loop_rounds 1 ?_
  rw [rounds_succ]
  go_wp2
  go_ret
  exact ⟨rfl, rfl⟩
end Go.Proofs.Ytelijknekfipfaa
