import Derived.Test.YtljfcdkhicffcaaGreatG04
import Derived.Deep.AppendLies
namespace Go.Proofs.YtljfcdkhicffcaaGreat
set_option maxRecDepth 100000
set_option maxHeartbeats 4000000
set_option linter.unusedVariables false
set_option linter.unusedSimpArgs false
open Go.RowKit
def VW (l : T3) : Bool := !inB l.1 0 511 || !inB l.2.1 1 2147483647 || !inB l.2.2 1 2
def Wo (a b : T3) : Bool := decide (b.1 < a.1) || decide (a.1 = b.1) && decide (b.2.1 ≤ a.2.1)
def Wp (a b : T3) : Bool := decide (a.1 = b.1) && (decide (a.2.2 = 2) || decide (b.2.2 = 2))
def Ve (ls : List T3) : Int := if 4096 < ls.length then 1 else if ls.any VW then 2 else if nbr Wo ls then 3 else if nbr Wp ls then 4 else 0
theorem Vh (x : FR) (w : World) (hv : RdF 3 w x) :
  Calls Tryz.prog 114 #[x.v] w fun e w' => e = .returned (V (Ve (tri x.bs))) ∧ Same w w' := by
 obtain ⟨xe, xa, n, xc, bs⟩ := x;have hm : n ≤ maxLen := hv.1;unfold maxLen at hm;have hl := VK n bs hv.2.1;dsimp only [FR.v];have HV := hid hv;clear hv;obtain ⟨R, hR⟩ : ∃ R, Ve (tri bs) = R := ⟨_, rfl⟩;rw [hR];unfold Ve at hR
 by_cases hb : 4096 < n
 ·rw [if_pos (by omega)] at hR
  subst hR
  go_enter Tryz.func114, Tryz.ntmps114
  go_wp2;go_ret;exact ⟨rfl, kZ0⟩
 rw [if_neg (by omega)] at hR;have HR := hid hR;have HL := hid hl;clear hR hl
 go_enter Tryz.func114, Tryz.ntmps114
 go_wp2_with fail
 go_loopw [3] (fun i wr => ∃ k : Nat, k ≤ n ∧ i = V k ∧ Hid (∀ (j : Nat) (h : j < (tri bs).length), j < k → VW (tri bs)[j] = false) ∧ Hid (Same w wr)) (fun i _ => n - (intOf i).toNat)
 case atStart => exact ⟨0, Nat.zero_le _, rfl, fun j h hj => by omega, kZ0⟩
 case round =>
  obtain ⟨k, hk, rfl, HA, HK⟩ := hrel
  by_cases aG : k < n
  ·obtain ⟨b, off, ha, hc⟩ := HV.out.some (show 0 < n by omega)
   dsimp only at ha hc;subst ha
   have eg : k < (tri bs).length := by rw [HL.out]; omega
   obtain ⟨⟨x, y, z⟩, eV⟩ : ∃ q, (tri bs)[k] = q := ⟨_, rfl⟩;have iW := hid eV;obtain ⟨Aw, zY, Ag⟩ := (HV.out.same HK.out).tri (k) eg _ _ _ eV;clear eV;have fJ := (show Hid (Same w (wr.alloc (.cells #[V x, V y, V z] 160))) from HK.out.alloc _);have ba := Blk.newL wr [V x, V y, V z] 160;have k1 := fun wx => TV x 0 511 wx;have k2 := fun wx => TV y 1 2147483647 wx;have k3 := fun wx => TV z 1 2 wx
   cases f1 : inB x 0 511 with
   | false =>
    rw [f1] at k1
    go_wp2_with fail
    refine (k1 _).mono ?_;rintro e w1 ⟨rfl, af⟩;have ao := hid (fJ.out.trans af);go_wp2;go_ret;exact ⟨by have h := HR.out; rw [if_pos (jal k eg (by rw [iW.out]; simp [VW, f1]))] at h; subst h; rfl, ao.out⟩
   | true =>
    rw [f1] at k1
    go_wp2_with fail
    refine (k1 _).mono ?_;rintro e w1 ⟨rfl, af⟩;have ao := hid (fJ.out.trans af);have b1 := ba.same af;obtain ⟨c10, c11, c12⟩ := b1.all3;clear af
    cases f2 : inB y 1 2147483647 with
    | false =>
     rw [f2] at k2
     go_wp2_with fail
     refine (k2 _).mono ?_;rintro e w2 ⟨rfl, ae⟩;have ap := hid (ao.out.trans ae);go_wp2;go_ret;exact ⟨by have h := HR.out; rw [if_pos (jal k eg (by rw [iW.out]; simp [VW, f1, f2]))] at h; subst h; rfl, ap.out⟩
    | true =>
     rw [f2] at k2
     go_wp2_with fail
     refine (k2 _).mono ?_;rintro e w2 ⟨rfl, ae⟩;have ap := hid (ao.out.trans ae);have b2 := b1.same ae;obtain ⟨c20, c21, c22⟩ := b2.all3;clear ae
     cases f3 : inB z 1 2 with
     | false =>
      rw [f3] at k3
      go_wp2_with fail
      refine (k3 _).mono ?_;rintro e w3 ⟨rfl, ar⟩;have ax := hid (ap.out.trans ar);go_wp2;go_ret;exact ⟨by have h := HR.out; rw [if_pos (jal k eg (by rw [iW.out]; simp [VW, f1, f2, f3]))] at h; subst h; rfl, ax.out⟩
     | true =>
      rw [f3] at k3
      go_wp2_with fail
      refine (k3 _).mono ?_;rintro e w3 ⟨rfl, ar⟩;have ax := hid (ap.out.trans ar);go_wp2;go_roundw
      case rel => exact ⟨k + 1, by omega, by go_num, fun j h hj => by
       by_cases hjk : j < k
       ·exact HA.out j h hjk
       ·obtain rfl : j = k := by omega
        rw [iW.out]; simp [VW, f1, f2, f3], ax⟩
      case measure => simp [intOf]; omega
  ·obtain rfl : k = n := by omega
   have h := HR.out;rw [if_neg (by rw [jeC (fun j hj => HA.out j hj (by rw [← HL.out]; exact hj))]; exact Bool.false_ne_true)] at h;have FH := hid h;clear h HR HA;have ax := HK;clear HK
   go_wp2_with fail
   go_loopw [5] (fun i wr => ∃ j : Nat, 1 ≤ j ∧ (j ≤ k ∨ j = 1) ∧ i = V j ∧ Hid (∀ (i : Nat) (h : i + 1 < (tri bs).length), i + 1 < j → Wo (tri bs)[i] (tri bs)[i + 1] = false) ∧ Hid (Same w wr)) (fun i _ => k - (intOf i).toNat)
   case atStart => exact ⟨1, by omega, .inr rfl, rfl, fun i h hj => by omega, ax⟩
   case round =>
    obtain ⟨j, QP, hj, rfl, ve, cu⟩ := hrel
    by_cases aG : j < k
    ·obtain ⟨b, off, ha, hc⟩ := HV.out.some (show 0 < k by omega)
     dsimp only at ha hc;subst ha;obtain ⟨m, rfl⟩ : ∃ m, j = m + 1 := ⟨j - 1, by omega⟩
     have eg : m < (tri bs).length := by rw [HL.out]; omega
     obtain ⟨⟨x, y, z⟩, eV⟩ : ∃ q, (tri bs)[m] = q := ⟨_, rfl⟩;have iW := hid eV;obtain ⟨Aw, zY, Ag⟩ := (HV.out.same cu.out).tri (m) eg _ _ _ eV;clear eV
     have em : ((m + 1 : Nat) : Int) - 1 = (m : Int) := by omega
     have mm : (m : Int) < (k : Int) := by omega
     have ba := (Blk.newL wr [V x, V y, V z] 160).all3;obtain ⟨OU, QZ, Q9⟩ := ba;have fJ := (show Hid (Same w (wr.alloc (.cells #[V x, V y, V z] 160))) from cu.out.alloc _)
     have me : m + 1 < (tri bs).length := by rw [HL.out]; omega
     obtain ⟨⟨x2, y2, z2⟩, xX⟩ : ∃ q, (tri bs)[m + 1] = q := ⟨_, rfl⟩;have rN := hid xX;obtain ⟨Pn, P5, Nx⟩ := (HV.out.same fJ.out).tri (m + 1) me _ _ _ xX;clear xX
     by_cases h1 : x2 < x
     ·go_wp2
      go_ret;exact ⟨by have h := FH.out; rw [if_pos (Y7 m me (by rw [iW.out, rN.out]; simp [Wo, h1]))] at h; subst h; rfl, by repeat (first | exact cu.out | refine Kept.alloc ?_ _)⟩
     ·by_cases h2 : x = x2
      ·subst h2
       by_cases h3 : y2 ≤ y
       ·go_wp2
        go_ret;exact ⟨by have h := FH.out; rw [if_pos (Y7 m me (by rw [iW.out, rN.out]; simp [Wo, h3]))] at h; subst h; rfl, by repeat (first | exact cu.out | refine Kept.alloc ?_ _)⟩
       ·go_wp2
        go_roundw
        case rel => exact ⟨m + 1 + 1, by omega, by omega, by go_num, fun i hi hj => by
         by_cases hik : i + 1 < m + 1
         ·exact ve.out i hi hik
         ·obtain rfl : i = m := by omega
          rw [iW.out, rN.out]; simp [Wo, h3]; try omega, by repeat (first | exact cu.out | refine Kept.alloc ?_ _)⟩
        case measure => simp [intOf]; omega
      ·go_wp2
       go_roundw
       case rel => exact ⟨m + 1 + 1, by omega, by omega, by go_num, fun i hi hj => by
        by_cases hik : i + 1 < m + 1
        ·exact ve.out i hi hik
        ·obtain rfl : i = m := by omega
         rw [iW.out, rN.out]; simp [Wo, h2]; try omega, by repeat (first | exact cu.out | refine Kept.alloc ?_ _)⟩
       case measure => simp [intOf]; omega
    ·have h := FH.out
     rw [if_neg (by rw [jbP (fun i hi => ve.out i hi (by have := HL.out; omega))]; exact Bool.false_ne_true)] at h;have Kv := hid h;clear h FH ve;obtain ⟨w4, dX⟩ : ∃ x, x = wr := ⟨_, rfl⟩;subst dX
     go_wp2_with fail
     go_loopw [8] (fun i wr => ∃ j : Nat, 1 ≤ j ∧ (j ≤ k ∨ j = 1) ∧ i = V j ∧ Hid (∀ (i : Nat) (h : i + 1 < (tri bs).length), i + 1 < j → Wp (tri bs)[i] (tri bs)[i + 1] = false) ∧ Hid (Same w wr)) (fun i _ => k - (intOf i).toNat)
     case atStart => exact ⟨1, by omega, .inr rfl, rfl, fun i h hj => by omega, cu⟩
     case round =>
      obtain ⟨j, QP, hj, rfl, ve, cu⟩ := hrel
      by_cases aG : j < k
      ·obtain ⟨b, off, ha, hc⟩ := HV.out.some (show 0 < k by omega)
       dsimp only at ha hc;subst ha;obtain ⟨m, rfl⟩ : ∃ m, j = m + 1 := ⟨j - 1, by omega⟩
       have eg : m < (tri bs).length := by rw [HL.out]; omega
       obtain ⟨⟨x, y, z⟩, eV⟩ : ∃ q, (tri bs)[m] = q := ⟨_, rfl⟩;have iW := hid eV;obtain ⟨Aw, zY, Ag⟩ := (HV.out.same cu.out).tri (m) eg _ _ _ eV;clear eV
       have em : ((m + 1 : Nat) : Int) - 1 = (m : Int) := by omega
       have mm : (m : Int) < (k : Int) := by omega
       have ba := (Blk.newL wr [V x, V y, V z] 160).all3;obtain ⟨OU, QZ, Q9⟩ := ba;have fJ := (show Hid (Same w (wr.alloc (.cells #[V x, V y, V z] 160))) from cu.out.alloc _)
       have me : m + 1 < (tri bs).length := by rw [HL.out]; omega
       obtain ⟨⟨x2, y2, z2⟩, xX⟩ : ∃ q, (tri bs)[m + 1] = q := ⟨_, rfl⟩;have rN := hid xX;obtain ⟨Pn, P5, Nx⟩ := (HV.out.same fJ.out).tri (m + 1) me _ _ _ xX;clear xX
       by_cases h2 : x = x2
       ·subst h2
        by_cases h3 : z = 2
        ·subst h3
         go_wp2;go_ret;exact ⟨by have h := Kv.out; rw [if_pos (Y7 m me (by rw [iW.out, rN.out]; simp [Wp]))] at h; subst h; rfl, by repeat (first | exact cu.out | refine Kept.alloc ?_ _)⟩
        ·by_cases h4 : z2 = 2
         ·subst h4
          go_wp2;go_ret;exact ⟨by have h := Kv.out; rw [if_pos (Y7 m me (by rw [iW.out, rN.out]; simp [Wp]))] at h; subst h; rfl, by repeat (first | exact cu.out | refine Kept.alloc ?_ _)⟩
         ·have e3 : (z == 2) = false := by simp [h3]
          have e4 : (z2 == 2) = false := by simp [h4]
          go_wp2;go_roundw
          case rel => exact ⟨m + 1 + 1, by omega, by omega, by go_num, fun i hi hj => by
           by_cases hik : i + 1 < m + 1
           ·exact ve.out i hi hik
           ·obtain rfl : i = m := by omega
            rw [iW.out, rN.out]; simp [Wp, h3, h4]; try omega, by repeat (first | exact cu.out | refine Kept.alloc ?_ _)⟩
          case measure => simp [intOf]; omega
       ·go_wp2
        go_roundw
        case rel => exact ⟨m + 1 + 1, by omega, by omega, by go_num, fun i hi hj => by
         by_cases hik : i + 1 < m + 1
         ·exact ve.out i hi hik
         ·obtain rfl : i = m := by omega
          rw [iW.out, rN.out]; simp [Wp, h2]; try omega, by repeat (first | exact cu.out | refine Kept.alloc ?_ _)⟩
        case measure => simp [intOf]; omega
      ·have h := Kv.out
       rw [if_neg (by rw [jbP (fun i hi => ve.out i hi (by have := HL.out; omega))]; exact Bool.false_ne_true)] at h;subst h;go_wp2;go_ret;exact ⟨rfl, cu.out⟩
def Uf (txn id : Int) : List T3 → Int
 | [] => 0
 | l :: t => if l.1 = id ∧ l.2.1 = txn then l.2.2 else Uf txn id t
def XP (ls : List T3) (txn id : Int) : Int := if Ve ls = 0 then Uf txn id ls else 0
def T9 (txn id : Int) : Int → List T3 → Int
 | m, [] => m
 | m, l :: t => T9 txn id (if l.1 = id ∧ l.2.1 ≠ txn ∧ m < l.2.2 then l.2.2 else m) t
def U5 (ls : List T3) (txn id : Int) : Int := if Ve ls = 0 then T9 txn id 0 ls else 0
theorem XA {ls : List T3} (h : Ve ls = 0) : ls.length ≤ 4096 := by
 unfold Ve at h
 split at h
 ·cases h
 ·omega
theorem Zq (x : FR) (txn id : Int) (w : World) (hv : RdF 3 w x) :
  Calls Tryz.prog 132 #[x.v, V txn, V id] w fun e w' => e = .returned (V (XP (tri x.bs) txn id)) ∧ Same w w' := by
 have k0 := Vh x w hv;obtain ⟨xe, xa, n, xc, bs⟩ := x;have hm : n ≤ maxLen := hv.1;unfold maxLen at hm;have hl := VK n bs hv.2.1;dsimp only [FR.v] at k0 ⊢;have HV := hid hv;clear hv;obtain ⟨R, hR⟩ : ∃ R, XP (tri bs) txn id = R := ⟨_, rfl⟩;rw [hR];unfold XP at hR;obtain ⟨q, hq⟩ : ∃ q, Ve (tri bs) = q := ⟨_, rfl⟩;rw [hq] at hR k0
 by_cases h0 : q = 0
 ·subst h0
  have hn := XA hq;rw [if_pos rfl, show tri bs = (tri bs).drop 0 from rfl] at hR;have HR := hid hR;have HL := hid hl;rw [hl] at hn;clear hR hl hq
  go_enter Tryz.func132, Tryz.ntmps132
  go_wp2_with fail
  refine k0.mono ?_;rintro e w1 ⟨rfl, af⟩;have ao := hid af;clear af
  go_wp2_with fail
  go_loopw [7] (fun i wr => ∃ k : Nat, k ≤ n ∧ i = V k ∧ Hid (Uf txn id ((tri bs).drop k) = R) ∧ Hid (Same w wr)) (fun i _ => n - (intOf i).toNat)
  case atStart => exact ⟨0, Nat.zero_le _, rfl, HR, ao⟩
  case round =>
   obtain ⟨k, hk, rfl, HA, HK⟩ := hrel
   by_cases aG : k < n
   ·obtain ⟨b, off, ha, hc⟩ := HV.out.some (show 0 < n by omega)
    dsimp only at ha hc;subst ha
    have eg : k < (tri bs).length := by rw [HL.out]; omega
    obtain ⟨⟨x, y, z⟩, eV⟩ : ∃ q, (tri bs)[k] = q := ⟨_, rfl⟩;obtain ⟨Aw, zY, Ag⟩ := (HV.out.same HK.out).tri k eg _ _ _ eV;have h := HA.out;rw [List.drop_eq_getElem_cons eg, eV] at h;simp only [Uf] at h;clear eV HA
    by_cases h1 : x = id
    ·subst h1
     by_cases h2 : y = txn
     ·subst h2
      rw [if_pos ⟨rfl, rfl⟩] at h;subst h;go_wp2;go_ret;exact ⟨rfl, HK.out⟩
     ·rw [if_neg (fun h => h2 h.2)] at h
      have HN := hid h;clear h;go_wp2;go_roundw
      case rel => exact ⟨k + 1, by omega, by go_num, HN, HK⟩
      case measure => simp [intOf]; omega
    ·rw [if_neg (fun h => h1 h.1)] at h
     have HN := hid h;clear h;go_wp2;go_roundw
     case rel => exact ⟨k + 1, by omega, by go_num, HN, HK⟩
     case measure => simp [intOf]; omega
   ·obtain rfl : k = n := by omega
    have h := HA.out;rw [show (tri bs).drop k = [] from List.drop_eq_nil_of_le (by rw [HL.out]; exact Nat.le_refl _)] at h;simp only [Uf] at h;subst h;go_wp2;go_ret;exact ⟨rfl, HK.out⟩
 ·rw [if_neg h0] at hR
  subst hR;clear hl hq
  go_enter Tryz.func132, Tryz.ntmps132
  go_wp2_with fail
  refine k0.mono ?_;rintro e w1 ⟨rfl, af⟩;have ao := hid af;clear af;go_wp2;go_ret;exact ⟨rfl, ao.out⟩
theorem WE (x : FR) (txn id : Int) (w : World) (hv : RdF 3 w x) :
  Calls Tryz.prog 111 #[x.v, V txn, V id] w fun e w' => e = .returned (V (U5 (tri x.bs) txn id)) ∧ Same w w' := by
 have k0 := Vh x w hv;obtain ⟨xe, xa, n, xc, bs⟩ := x;have hm : n ≤ maxLen := hv.1;unfold maxLen at hm;have hl := VK n bs hv.2.1;dsimp only [FR.v] at k0 ⊢;have HV := hid hv;clear hv;obtain ⟨R, hR⟩ : ∃ R, U5 (tri bs) txn id = R := ⟨_, rfl⟩;rw [hR];unfold U5 at hR;obtain ⟨q, hq⟩ : ∃ q, Ve (tri bs) = q := ⟨_, rfl⟩;rw [hq] at hR k0
 by_cases h0 : q = 0
 ·subst h0
  have hn := XA hq;rw [if_pos rfl, show tri bs = (tri bs).drop 0 from rfl] at hR;have HR := hid hR;have HL := hid hl;rw [hl] at hn;clear hR hl hq
  go_enter Tryz.func111, Tryz.ntmps111
  go_wp2_with fail
  refine k0.mono ?_;rintro e w1 ⟨rfl, af⟩;have ao := hid af;clear af
  go_wp2_with fail
  go_loopw [7, 8] (fun m i wr => ∃ (k : Nat) (mo : Int), k ≤ n ∧ m = V mo ∧ i = V k ∧ Hid (T9 txn id mo ((tri bs).drop k) = R) ∧ Hid (Same w wr)) (fun _ i _ => n - (intOf i).toNat)
  case atStart => exact ⟨0, 0, Nat.zero_le _, rfl, rfl, HR, ao⟩
  case round =>
   obtain ⟨k, mo, hk, rfl, rfl, HA, HK⟩ := hrel
   by_cases aG : k < n
   ·obtain ⟨b, off, ha, hc⟩ := HV.out.some (show 0 < n by omega)
    dsimp only at ha hc;subst ha
    have eg : k < (tri bs).length := by rw [HL.out]; omega
    obtain ⟨⟨x, y, z⟩, eV⟩ : ∃ q, (tri bs)[k] = q := ⟨_, rfl⟩;obtain ⟨Aw, zY, Ag⟩ := (HV.out.same HK.out).tri k eg _ _ _ eV;have h := HA.out;rw [List.drop_eq_getElem_cons eg, eV] at h;simp only [T9] at h;clear eV HA
    by_cases h1 : x = id
    ·subst h1
     by_cases h2 : y = txn
     ·subst h2
      rw [if_neg (fun h => h.2.1 rfl)] at h;have HN := hid h;clear h;go_wp2;go_roundw
      case rel => exact ⟨k + 1, mo, by omega, rfl, by go_num, HN, HK⟩
      case measure => simp [intOf]; omega
     ·have e2 : (y != txn) = true := by simp [h2]
      by_cases h3 : mo < z
      ·rw [if_pos ⟨rfl, h2, h3⟩] at h
       have HN := hid h;clear h;go_wp2;go_roundw
       case rel => exact ⟨k + 1, z, by omega, rfl, by go_num, HN, HK⟩
       case measure => simp [intOf]; omega
      ·rw [if_neg (fun h => h3 h.2.2)] at h
       have HN := hid h;clear h;go_wp2;go_roundw
       case rel => exact ⟨k + 1, mo, by omega, rfl, by go_num, HN, HK⟩
       case measure => simp [intOf]; omega
    ·rw [if_neg (fun h => h1 h.1)] at h
     have HN := hid h;clear h;go_wp2;go_roundw
     case rel => exact ⟨k + 1, mo, by omega, rfl, by go_num, HN, HK⟩
     case measure => simp [intOf]; omega
   ·obtain rfl : k = n := by omega
    have h := HA.out;rw [show (tri bs).drop k = [] from List.drop_eq_nil_of_le (by rw [HL.out]; exact Nat.le_refl _)] at h;simp only [T9] at h;subst h;go_wp2;go_ret;exact ⟨rfl, HK.out⟩
 ·rw [if_neg h0] at hR
  subst hR;clear hl hq
  go_enter Tryz.func111, Tryz.ntmps111
  go_wp2_with fail
  refine k0.mono ?_;rintro e w1 ⟨rfl, af⟩;have ao := hid af;clear af;go_wp2;go_ret;exact ⟨rfl, ao.out⟩
theorem Tryz.infoLock : (Tryz.prog.info? 160).map (fun i => (i.zero, i.size, i.bytes)) = some (some (.agg #[V 0, V 0, V 0]), 3, 24) := by kernel_rfl
theorem jbl (e : TypeId) (w : World) : OwnF 3 e (w.alloc (.cells #[] e)) w.heap.size 0 0 [] :=
 ⟨rfl, .inr ⟨w.heap.size, 0, #[], rfl, Nat.zero_le _, Blk.new w #[] e, Nat.le_refl _, Nat.zero_le _, rfl, rfl⟩⟩
theorem OwnF.of_app3 {e : TypeId} {w : World} {g n c : Nat} {bs : List Int} {x y z : Int} (h : w.ownsRow 0 e 3 (Q4 g n c) n (vals .i64 bs ++ [V x, V y, V z])) : OwnF 3 e w g n c (bs ++ [x, y, z]) := by
 unfold OwnF
 have e : vals .i64 (bs ++ [x, y, z]) = vals .i64 bs ++ [V x, V y, V z] := by simp [vals]
 rw [e];exact h
theorem OwnF.kept {R : Nat → Prop} {m : Nat} {e : TypeId} {w w' : World} {g n c : Nat} {bs : List Int} (h : OwnF m e w g n c bs) (hk : Kept R w w') (hr : ¬ R g) : OwnF m e w' g n c bs :=
  hk.owns h (fun b hb => by have bw : g = b := by simpa [Value.ownBlock] using hb
                            rw [← bw]; exact hr)
theorem OwnF.lt {m : Nat} {e : TypeId} {w : World} {g n c : Nat} {bs : List Int} (h : OwnF m e w g n c bs) : g < w.heap.size := h.out.lt g ((Ux _ _).2 rfl)
theorem jao {e : TypeId} {g n c m : Nat} {bs : List Int} {b : Nat} (h : Uu (FR.rows m ⟨e, some ⟨g, 0, none⟩, n, c, bs⟩) b) : g = b := by
 have h := (Ux _ _).1 h
 simpa [FR.v, Value.ownBlock] using h
theorem OwnF.len {m : Nat} {e : TypeId} {w : World} {g n c : Nat} {bs : List Int} (h : OwnF m e w g n c bs) : bs.length = n * m := by
 have := h.1
 rwa [VO] at this
theorem Same.app {w wr w3 : World} {g n c : Nat} {o : Obj} (hk : Same w wr) (hg : (wr.alloc o).grownBy w3 (Value.slice (some ⟨g, 0, none⟩) n c).ownBlock) (hw : w.heap.size ≤ g) : Same w w3 :=
  (hk.alloc o).grown hg (fun i e => .inl (by have : g = i := by simpa [Value.ownBlock] using e
                                             omega))
theorem V8 {g b n c : Nat} (h : g ≠ b) : ¬ (Value.slice (some ⟨g, 0, none⟩) n c).ownBlock = some b := fun e => h (by simpa [Value.ownBlock] using e)
theorem FR.own_nil {m : Nat} {e : TypeId} (w : World) : OwnL w (FR.rows m ⟨e, none, 0, 0, []⟩) :=
 ⟨fun r hr => by rw [List.mem_singleton.1 hr]; exact ⟨by simp [vals], .inl ⟨rfl, rfl⟩⟩, List.pairwise_singleton _ _⟩
theorem jdG (ls : List T3) (x y z : Int) : flat3 (ls ++ [(x, y, z)]) = flat3 ls ++ [x, y, z] := by rw [YZ]; rfl
structure StLockResult where
 code : Int
 locks : FR
def StLockResult.val (x : StLockResult) : Value := .agg #[V x.code, x.locks.v]
def StLockResult.rows (x : StLockResult) : List Row := (x.locks).rows 3
def StLockResult.dat (x : StLockResult) : Int × List Int := (x.code, x.locks.bs)
def StLockResult.size (x : StLockResult) : Int := (x.locks.bs.length : Int)
def StLockResult.marked (x : StLockResult) (k : Int) : StLockResult := ⟨x.code, x.locks.marked (k)⟩
def StLockResult.rd (w : World) (x : StLockResult) : Prop := RdF 3 w x.locks
theorem StLockResult.rd.kept {R : Nat → Prop} {w w' : World} {x : StLockResult} (h : StLockResult.rd w x) (hk : Kept R w w') (hr : ∀ b, Uu x.rows b → ¬ R b) : StLockResult.rd w' x :=
 RdF.kept (h) hk (fun b hb => hr b (((Ux _ _).2 hb)))
theorem StLockResult.rd.same {w w' : World} {x : StLockResult} (h : StLockResult.rd w x) (hk : Same w w') : StLockResult.rd w' x := h.kept hk (fun _ _ => id)
theorem StLockResult.own_rd {w : World} {x : StLockResult} (h : OwnL w x.rows) : StLockResult.rd w x :=
 (FR.own_rd h)
def StLockResult.szs (x : StLockResult) : Int := (x.locks.n : Int)
theorem StLockResult.szs_le (x : StLockResult) : 0 ≤ x.szs := by
 unfold StLockResult.szs;omega
def Xl (ls : List T3) (txn : Int) : Int × List Int := if Ve ls = 0 then (0, flat3 (ls.filter (fun l => decide (l.2.1 ≠ txn)))) else (2, [])
theorem Y9 (x : FR) (txn : Int) (w : World) (hv : RdF 3 w x) :
  Calls Tryz.prog 89 #[x.v, V txn] w fun e w' => ∃ y : StLockResult, e = .returned y.val ∧ y.dat = Xl (tri x.bs) txn ∧ y.locks.e = 160 ∧ (∀ b, Uu y.rows b → w.heap.size ≤ b) ∧ OwnL w' y.rows ∧ Same w w' := by
 obtain ⟨i0, hi, br, aT, bv⟩ := info_parts Tryz.infoLock;have ay := hid (Uj w [V 0, V0] 142);have b0 := Blk.newL w [V 0, V0] 142;have k0 := Vh x _ (hv.same ay.out);obtain ⟨xe, xa, n, xc, bs⟩ := x;have hm : n ≤ maxLen := hv.1;unfold maxLen at hm;have hl := VK n bs hv.2.1;dsimp only [FR.v] at k0 ⊢;have HV := hid hv;clear hv;obtain ⟨R, hR⟩ : ∃ R, Xl (tri bs) txn = R := ⟨_, rfl⟩;rw [hR];unfold Xl at hR;obtain ⟨q, hq⟩ : ∃ q, Ve (tri bs) = q := ⟨_, rfl⟩;rw [hq] at hR k0
 by_cases h0 : q = 0
 ·subst h0
  have hn := XA hq;rw [if_pos rfl] at hR;have HR := hid hR;have HL := hid hl;rw [hl] at hn;clear hR hl hq
  go_enter Tryz.func89, Tryz.ntmps89
  go_wp2_with fail
  refine k0.mono ?_;rintro e w1 ⟨rfl, af⟩;have ao := hid (ay.out.trans af);have bF := hid (b0.same af)
  have e7 : w.heap.size + 1 ≤ w1.heap.size := by have h := af.size; rw [World.size_alloc] at h; omega
  clear af b0;have AJ := (show Hid (Same w (w1.alloc (.cells #[] 160))) from ao.out.alloc _);have Ht := (show Hid (Blk (w1.alloc (.cells #[] 160)) w.heap.size 142 [V 0, V0]) from bF.out.same (kZ0.alloc _));have Kw := hid (jbl 160 w1)
  go_wp2_with fail
  go_loopw [5, 6] (fun o i wr => ∃ (k g m c : Nat) (ys : List Int), k ≤ n ∧ m ≤ k ∧ o = Q4 g m c ∧ i = V k ∧ w.heap.size < g ∧ Hid (OwnF 3 160 wr g m c ys) ∧ Hid (ys = flat3 (((tri bs).take k).filter (fun l => decide (l.2.1 ≠ txn)))) ∧ Hid (Blk wr w.heap.size 142 [V 0, V0]) ∧ Hid (Same w wr)) (fun _ i _ => n - (intOf i).toNat)
  case atStart => exact ⟨0, w1.heap.size, 0, 0, [], Nat.zero_le _, Nat.zero_le _, rfl, rfl, by omega, Kw, by simp [Hid, flat3], Ht, AJ⟩
  case round =>
   obtain ⟨k, g, m, c, ys, hk, sR, rfl, rfl, hg, HO, HY, HB, HK⟩ := hrel
   by_cases aG : k < n
   ·obtain ⟨b, off, ha, hc⟩ := HV.out.some (show 0 < n by omega)
    dsimp only at ha hc;subst ha
    have eg : k < (tri bs).length := by rw [HL.out]; omega
    obtain ⟨⟨x, y, z⟩, eV⟩ : ∃ q, (tri bs)[k] = q := ⟨_, rfl⟩;have iW := hid eV;obtain ⟨Aw, zY, Ag⟩ := (HV.out.same HK.out).tri k eg _ _ _ eV;clear eV
    by_cases h2 : y = txn
    ·subst h2
     go_wp2;go_roundw
     case rel => exact ⟨k + 1, g, m, c, ys, by omega, by omega, rfl, by go_num, hg, HO, by unfold Hid; rw [List.take_succ_eq_append_getElem eg, List.filter_append, iW.out, HY.out]; simp, HB, HK⟩
     case measure => simp [intOf]; omega
    ·have e2 : (y != txn) = true := by simp [h2]
     have ew := (show Hid ((wr.alloc (.cells #[V x, V y, V z] 160)).ownsRow 0 160 3 (Q4 g m c) m (vals .i64 ys)) from HO.out.same (kZ0.alloc _));have fk := (show Hid (Blk (wr.alloc (.cells #[V x, V y, V z] 160)) wr.heap.size 160 [V x, V y, V z]) from Blk.newL wr [V x, V y, V z] 160);have Fw := HO.out.lt
     go_wp2_with (at_builtin; go_loud (refine wpList_append_lies _ rfl (.tmp 25) (.tmp 30) 66 rfl 0 160 i0 _ 3 24 Tryz.underlying66 hi br aT bv rfl (by omega) (Q4 g m c) m (vals .i64 ys) rfl (by exact ew.out) ⟨wr.heap.size, 0, none⟩ 1 1 [V x, V y, V z] rfl rfl (World.news_of_block (cs := #[V x, V y, V z]) (t := 160) (fr := (0, 0)) (by exact fk.out)) (by simp [Value.oneCell']) (by omega) (by unfold maxLen; omega) (by omega) (Nat.zero_le _) (wr.heap.size + 1) (by simp) ?_); intro g5 bM w5 bA aY b9 kJ; have dI := (show Hid (OwnF 3 160 w5 g5 (m + 1) bM (ys ++ [x, y, z])) from OwnF.of_app3 bA); have dA := (show Hid ((wr.alloc (.cells #[V x, V y, V z] 160)).grownBy w5 (Value.slice (some ⟨g, 0, none⟩) m c).ownBlock) from aY); have eh : Hid ((Value.slice (some ⟨g, 0, none⟩) m c).ownBlock = some g5 ∨ g5 = wr.heap.size + 1) := b9; clear bA aY b9)
     have mL : w.heap.size < g5 := by
      rcases eh.out with h | h
      ·have : g = g5 := by simpa [Value.ownBlock] using h
       omega
      ·have := HK.out.size; omega
     have aH := hid (Same.app HK.out dA.out (by omega));have cP := (show Hid (Blk w5 w.heap.size 142 [V 0, V0]) from (HB.out.same (kZ0.alloc _)).kept (Kept.of_grown dA.out (fun k e => e)) (V8 (by omega)));go_roundw
     case rel => exact ⟨k + 1, g5, m + 1, bM, ys ++ [x, y, z], by omega, by omega, rfl, by go_num, mL, dI, by unfold Hid; rw [List.take_succ_eq_append_getElem eg, List.filter_append, iW.out, HY.out, show List.filter (fun l : T3 => decide (l.2.1 ≠ txn)) [(x, y, z)] = [(x, y, z)] from by simp [h2], jdG], cP, aH⟩
     case measure => simp [intOf]; omega
   ·obtain rfl : k = n := by omega
    have h := HY.out;rw [← HL.out, List.take_length] at h;obtain ⟨r0, r1⟩ := HB.out.all2;have fr := HB.out.frozen;have lr := HB.out.lt;go_wp2;refine bodyPost_ret (v := .agg #[V 0, Q4 g m c]) (by simp [results, Tryz.results89, go_sem, r0, r1]) rfl ⟨⟨0, ⟨160, some ⟨g, 0, none⟩, m, c, ys⟩⟩, rfl, ?_, rfl, ?_, ?_, ?_⟩
    ·rw [← HR.out, ← h]; rfl
    ·intro b hb
     have := jao hb;omega
    ·refine (HO.out.kept (R := fun b => b = w.heap.size) ?_ (by omega)).out
     (iterate 2 refine Kept.setCell (R := fun b => b = w.heap.size) ?_ (.inr rfl) _)
     exact kZ0
    ·(iterate 2 refine Kept.setCell ?_ (.inl (Nat.le_refl _)) _)
     exact HK.out
 ·rw [if_neg h0] at hR
  subst hR;clear hl hq
  go_enter Tryz.func89, Tryz.ntmps89
  go_wp2_with fail
  refine k0.mono ?_;rintro e w1 ⟨rfl, af⟩;have ao := hid (ay.out.trans af);have bF := hid (b0.same af);clear af b0;obtain ⟨r0, r1⟩ := bF.out.all2;have fr := bF.out.frozen;have lr := bF.out.lt;go_wp2;refine bodyPost_ret (v := .agg #[V 2, V0]) (by simp [results, Tryz.results89, go_sem, r0, r1]) rfl ⟨⟨2, ⟨160, none, 0, 0, []⟩⟩, rfl, rfl, rfl, ?_, ?_, ?_⟩
  ·intro b hb
   have h := (Ux _ _).1 hb;simp [FR.v, Value.ownBlock] at h
  ·exact FR.own_nil _
  ·(iterate 2 refine Kept.setCell ?_ (.inl (Nat.le_refl _)) _)
   exact ao.out
end Go.Proofs.YtljfcdkhicffcaaGreat
