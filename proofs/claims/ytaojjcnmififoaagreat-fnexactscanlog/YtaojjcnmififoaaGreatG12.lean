import Derived.Test.YtaojjcnmififoaaGreatG11
import Derived.Test.YtaojjcnmififoaaGreatG01
import Derived.Test.YtaojjcnmififoaaGreatG00
import Derived.Test.YtaojjcnmififoaaGreatG07
import Derived.Laws.AppendOwnNone
namespace Go.Proofs.YtaojjcnmififoaaGreat
set_option maxRecDepth 100000
set_option maxHeartbeats 16000000
set_option linter.unusedVariables false
set_option linter.unusedSimpArgs false
open Go.RowKit
theorem jae (b off c : Nat) (raw : List Int) (w : World) (hB : IsB raw) (hl : raw.length = 4096) (hv : Rd .u8 w (.slice (some ⟨b, off, none⟩) 4096 c) raw) :
  Calls Tryz.prog 107 #[.slice (some ⟨b, off, none⟩) 4096 c] w fun e w' => e = .returned (.int .i64 (Ri raw 16 2)) ∧ Same w w' := by
 have h := Vj b off 4096 c raw 16 2 w hB hl (by decide) (by decide) (by decide) hv
 go_enter Tryz.func107, Tryz.ntmps107
 go_wp2_with (go_at_call 106; refine h.mono ?_; rintro e w1 ⟨rfl, hk⟩)
 go_ret
 exact ⟨rfl, hk⟩
def Ui (sl : List Int) (m p : Nat) : Prop := sl.getD (2 * m) 0 ≤ (p : Int) ∧ (p : Int) < sl.getD (2 * m) 0 + sl.getD (2 * m + 1) 0
theorem jaU (sl : List Int) (i j p : Nat) (h1 : Ui sl i p) (h2 : Ui sl j p) : TS sl i j = true := by
 unfold TS Um
 rw [decide_eq_true_eq]
 unfold Ui at h1 h2
 omega
theorem jaV (sl : List Int) (i j : Nat) (h0 : 0 ≤ sl.getD (2 * i) 0) (D8 : 0 ≤ sl.getD (2 * j) 0) (h : TS sl i j = true) : ∃ p : Nat, Ui sl i p ∧ Ui sl j p := by
 unfold TS Um at h
 rw [decide_eq_true_eq] at h
 refine ⟨(max (sl.getD (2 * i) 0) (sl.getD (2 * j) 0)).toNat, ?_, ?_⟩ <;> unfold Ui <;> omega
theorem jbX (bot x y : Int) (h : Rl bot x y = false) : (x = 0 ∧ y = 0) ∨ (x ≠ 0 ∧ y ≤ 1000 ∧ bot ≤ x ∧ x + y ≤ 4096) := by
 unfold Rl at h
 simp at h
 by_cases hx : x = 0
 ·exact .inl ⟨hx, h.2 hx⟩
 ·exact .inr ⟨hx, by have := h.1 hx; omega⟩
theorem jdE {w : World} {base g n size : Nat} {e : TypeId} {xs : List Value} (h : w.ownsRow base e size (.slice (some ⟨g, 0, none⟩) n n) n xs) : Blk w g e xs := by
 rcases h.2 with ⟨h, _⟩ | ⟨g', cap, cur, h, _, hg, _, _, hs, ht⟩
 ·cases h
 ·cases h
  rw [List.take_of_length_le (by rw [Array.length_toList, hs]; exact Nat.le_refl _)] at ht
  unfold Blk
  rw [← ht]
  simpa using hg
theorem jbY (n : Nat) : (madeCells (Value.bool false).cells (n * 1)).toList = (List.replicate n false).map Value.bool := by
 apply List.ext_getElem?
 intro j
 by_cases hj : j < n
 ·simp [madeCells, hj, Value.cells, Nat.mod_one]
 ·simp [madeCells, hj]
theorem jdF : (Tryz.prog.info? 4).map (fun i => (i.zero, i.size, i.bytes)) = some (some (.bool false), 1, 1) := by kernel_rfl
structure Rows2 (w : World) (g : Nat) (sl : List Int) : Prop where
 at0 : ∀ k, k < 32 → w.cell? ⟨g, k * 2, none⟩ = some (.int .i64 (sl.getD (2 * k) 0))
 at1 : ∀ k, k < 32 → w.cell? ⟨g, k * 2 + 1, none⟩ = some (.int .i64 (sl.getD (2 * k + 1) 0))
theorem Rows2.kept {R : Nat → Prop} {w w' : World} {g : Nat} {sl : List Int} (h : Rows2 w g sl) (hk : Kept R w w') (hr : ¬ R g) : Rows2 w' g sl :=
 ⟨fun k li => hk.cellOf (h.at0 k li) hr, fun k li => hk.cellOf (h.at1 k li) hr⟩
theorem jdG {w : World} {g cap : Nat} {e : TypeId} {sl : List Int} (h : w.ownsRow 0 e 2 (.slice (some ⟨g, 0, none⟩) 32 cap) 32 (vals .i64 sl)) (hl : sl.length = 64) : Rows2 w g sl :=
 ⟨fun k hk => by rw [World.ownsRow.cellAt h _ (by omega), SK _ _ _ (by omega), Nat.mul_comm], fun k hk => by rw [World.ownsRow.cellAt h _ (by omega), SK _ _ _ (by omega), Nat.mul_comm]⟩
theorem YV (b off c : Nat) (raw : List Int) (number : Int) (w : World) (hB : IsB raw) (hl : raw.length = 4096) (hv : Rd .u8 w (.slice (some ⟨b, off, none⟩) 4096 c) raw) :
  Calls Tryz.prog 78 #[.slice (some ⟨b, off, none⟩) 4096 c, .int .i64 number] w fun e w' => e = .returned (.int .i64 (Rn raw number)) ∧ Same w w' := by
 have wN := (show Hid (∀ wx, Same w wx → ∀ o n : Nat, 1 ≤ n → o + n ≤ 4096 → Calls Tryz.prog 106 #[.slice (some ⟨b, off, none⟩) 4096 c, .int .i64 o, .int .i64 n] wx fun e w' => e = .returned (.int .i64 (Ri raw o n)) ∧ Same wx w') from fun wx h o n h1 ho =>
  Vj b off 4096 c raw o n wx hB hl (by decide) h1 ho (hv.same h))
 have Nt := (show Hid (∀ wx, Same w wx → Calls Tryz.prog 107 #[.slice (some ⟨b, off, none⟩) 4096 c] wx fun e w' => e = .returned (.int .i64 (Ri raw 16 2)) ∧ Same wx w') from fun wx h => jae b off c raw wx hB hl (hv.same h))
 have vf := (show Hid (_) from fun wx (h : Same w wx) => jaS b off c raw wx hB hl (hv.same h))
 have lw := (show Hid (Small (slotsOf raw)) from V4 raw hB hl)
 have jW : ∀ i, i < 4096 → w.cell? ⟨b, off + i, none⟩ = some (.int .u8 (raw.getD i 0)) := by
  rcases hv.2 with ⟨h0, _⟩ | ⟨b', o', c', e, _, hc⟩
  ·rw [h0] at hl; simp at hl
  ·simp only [Value.slice.injEq, Option.some.injEq, Addr.mk.injEq] at e
   obtain ⟨⟨rfl, rfl, _⟩, _, rfl⟩ := e
   intro i hi
   exact hc i (by omega)
 have Jh := jW 18 (by decide)
 have J5 := jW 19 (by decide)
 have HF := (show Hid (Rn raw number = if Ri raw 12 4 ≠ number then 2 else if (decide (Ri raw 4 8 < 0) || decide (1099511627776 < Ri raw 4 8) || raw.getD 18 0 != 0 || raw.getD 19 0 != 0) = true then 3 else if Ri raw 16 2 < 148 ∨ 4096 < Ri raw 16 2 then 4 else if Uh (Ri raw 16 2) (slotsOf raw) then 5 else if share (slotsOf raw) then 6 else 0) from
  (by unfold Rn UG; rw [if_neg (by simp [hl]), jaT raw hB hl] : Rn raw number = _))
 obtain ⟨F, zi⟩ : ∃ F, Rn raw number = F := ⟨_, rfl⟩
 rw [zi] at HF ⊢
 have A2 := wN.out w kZ0 12 4 (by decide) (by decide)
 have ql := fun wx h => wN.out wx h 4 8 (by decide) (by decide)
 generalize Ri raw 12 4 = num at *
 generalize Ri raw 4 8 = lsn at *
 generalize Ri raw 16 2 = bot at *
 generalize raw.getD 18 0 = Bt at *
 generalize raw.getD 19 0 = Gw at *
 have Av := SG raw
 generalize slotsOf raw = sl at *
 clear jW zi hv hB wN hl
 by_cases h2 : num = number
 ·have h5 := HF.out
  rw [if_neg (by simp [h2])] at h5
  have Dm : (num != number) = false := by simp [h2]
  clear HF h2
  go_enter Tryz.func78, Tryz.ntmps78
  have HF := (show Hid (F = _) from h5)
  clear h5
  go_upto_region 5 with (go_at_call 106; refine A2.mono ?_; rintro e w1 ⟨rfl, aH⟩; have zz := ql w1 aH; clear A2 ql)
  go_wp2_with fail
  refine zz.mono ?_
  rintro e w2 ⟨rfl, aN⟩
  have aY := hid (aH.trans aN)
  have Qh := aY.out.cellOf Jh id
  have Pv := aY.out.cellOf J5 id
  clear zz aH aN Jh J5
  by_cases a1 : lsn < 0
  ·obtain rfl : F = 3 := by have h := HF.out; rw [if_pos (by simp [a1])] at h; exact h
   clear HF
   go_wp2
   go_ret
   exact ⟨rfl, aY.out⟩
  by_cases a2 : 1099511627776 < lsn
  ·obtain rfl : F = 3 := by have h := HF.out; rw [if_pos (by simp [a2])] at h; exact h
   clear HF
   go_wp2
   go_ret
   exact ⟨rfl, aY.out⟩
  by_cases a3 : Bt = 0
  ·by_cases a4 : Gw = 0
   ·have gV := (show Hid (F = if bot < 148 ∨ 4096 < bot then 4 else if Uh bot sl then 5 else if share sl then 6 else 0) from (by have h := HF.out; rw [if_neg (by simp [a1, a2, a3, a4] <;> omega)] at h; exact h : F = _))
    have b3 : (Bt != 0) = false := by simp [a3]
    have b4 : (Gw != 0) = false := by simp [a4]
    have p9 := Nt.out w2 aY.out
    clear HF a3 a4
    by_cases a5 : bot < 148
    ·obtain rfl : F = 4 := by have h := gV.out; rw [if_pos (.inl a5)] at h; exact h
     clear gV
     go_wp2_with (go_at_call 107; refine p9.mono ?_; rintro e w3 ⟨rfl, fq⟩; have dt := (show Hid (Same w w3) from aY.out.trans fq); have iO := vf.out w3 dt.out; clear fq p9)
     go_ret
     exact ⟨rfl, dt.out⟩
    by_cases a6 : 4096 < bot
    ·obtain rfl : F = 4 := by have h := gV.out; rw [if_pos (.inr a6)] at h; exact h
     clear gV
     go_wp2_with (go_at_call 107; refine p9.mono ?_; rintro e w3 ⟨rfl, fq⟩; have dt := (show Hid (Same w w3) from aY.out.trans fq); have iO := vf.out w3 dt.out; clear fq p9)
     go_ret
     exact ⟨rfl, dt.out⟩
    have gR := (show Hid (F = if Uh bot sl then 5 else if share sl then 6 else 0) from (by have h := gV.out; rw [if_neg (by omega)] at h; exact h : F = _))
    clear gV
    go_wp2_with (first | (go_at_call 107; refine p9.mono ?_; rintro e w3 ⟨rfl, fq⟩; have dt := (show Hid (Same w w3) from aY.out.trans fq); have iO := vf.out w3 dt.out; clear fq p9) | (go_at_call 108; refine iO.mono ?_; rintro e w4 ⟨g, cap, rfl, hg, aw, iF⟩; have cu := (show Hid (Same w w4) from dt.out.trans iF); have kb := (show Hid (Rows2 w4 g sl) from jdG aw Av); have PR := (World.ownsRow.lt aw g rfl).2; clear iF aw iO))
    go_loopw [8, 9] (fun i _ wr => ∃ k : Nat, k ≤ 32 ∧ i = .int .i64 k ∧ Hid (∀ j < k, Rl bot (sl.getD (2 * j) 0) (sl.getD (2 * j + 1) 0) = false) ∧ Hid (Same w4 wr)) (fun i _ _ => 32 - (intOf i).toNat)
    case atStart => exact ⟨0, by omega, rfl, fun j hj => by omega, kZ0⟩
    case round =>
     obtain ⟨k, hk, rfl, pJ, dO⟩ := hrel
     by_cases bH : k < 32
     ·have aN : (k : Int) < 32 := by omega
      have c0 := (kb.out.kept dO.out id).at0 k bH
      have c1 := (kb.out.kept dO.out id).at1 k bH
      have nR := lw.out.at (2 * k)
      have xy := lw.out.at (2 * k + 1)
      have jq := (show Hid (Rl bot (sl.getD (2 * k) 0) (sl.getD (2 * k + 1) 0) = true → F = 5) from fun h => by rw [gR.out, Ye bot sl k bH h, if_pos rfl])
      have uW := (show Hid (Rl bot (sl.getD (2 * k) 0) (sl.getD (2 * k + 1) 0) = false → ∀ j < k + 1, Rl bot (sl.getD (2 * j) 0) (sl.getD (2 * j + 1) 0) = false) from fun h j hj => by
       by_cases e : j = k
       ·rw [e]; exact h
       ·exact pJ.out j (by omega))
      generalize sl.getD (2 * k) 0 = x at *
      generalize sl.getD (2 * k + 1) 0 = y at *
      by_cases gi : x = 0
      ·have kf : (x != 0) = false := by rw [gi]; rfl
       have G2 : (x == 0) = true := by rw [gi]; rfl
       by_cases iu : y = 0
       ·have jo : Rl bot x y = false := by simp [Rl, gi, iu]
        have ux : (y != 0) = false := by rw [iu]; rfl
        clear gi iu
        go_wp2
        go_roundw
        case rel => exact ⟨k + 1, by omega, by go_num, uW.out jo, dO.out.alloc _⟩
        case measure => simp [intOf]; omega
       ·have jo : Rl bot x y = true := by simp [Rl, gi, iu]
        have ux : (y != 0) = true := by simp [iu]
        obtain rfl := jq.out jo
        clear gi iu gR
        go_wp2
        go_ret
        exact ⟨rfl, cu.out.trans (dO.out.alloc _)⟩
      ·have kf : (x != 0) = true := by simp [gi]
       have G2 : (x == 0) = false := by simp [gi]
       by_cases hL : 1000 < y
       ·have jo : Rl bot x y = true := by simp [Rl, gi, hL]
        obtain rfl := jq.out jo
        clear gR
        go_wp2
        go_ret
        exact ⟨rfl, cu.out.trans (dO.out.alloc _)⟩
       ·by_cases hO : x < bot
        ·have jo : Rl bot x y = true := by simp [Rl, gi, hO]
         obtain rfl := jq.out jo
         clear gR
         go_wp2
         go_ret
         exact ⟨rfl, cu.out.trans (dO.out.alloc _)⟩
        ·by_cases hE : 4096 < x + y
         ·have jo : Rl bot x y = true := by simp [Rl, gi, hE]
          obtain rfl := jq.out jo
          clear gR
          go_wp2
          go_ret
          exact ⟨rfl, cu.out.trans (dO.out.alloc _)⟩
         ·have jo : Rl bot x y = false := by simp [Rl, gi]; omega
          go_wp2
          go_roundw
          case rel => exact ⟨k + 1, by omega, by go_num, uW.out jo, dO.out.alloc _⟩
          case measure => simp [intOf]; omega
     ·obtain rfl : k = 32 := by omega
      have gm := (show Hid (F = if share sl then 6 else 0) from (by have h := gR.out; rw [Zz bot sl pJ.out, if_neg (by decide)] at h; exact h : F = _))
      clear gR
      obtain ⟨i0, hi, eL, eT, fM⟩ := info_parts jdF
      have DO := (show Hid (∀ m < 32, 0 ≤ sl.getD (2 * m) 0 ∧ 0 ≤ sl.getD (2 * m + 1) 0 ∧ sl.getD (2 * m) 0 + sl.getD (2 * m + 1) 0 ≤ 4096) from fun m hm => by
       have h0 := lw.out.at (2 * m)
       have h1 := lw.out.at (2 * m + 1)
       rcases jbX _ _ _ (pJ.out m hm) with h | h <;> omega)
      have Al := dO.out.size
      go_wp2_with (at_make; (refine wpList_make_full _ rfl _ _ 169 rfl 0 4 i0 (.bool false) 1 Tryz.underlying169 hi eL eT .i64 .i64 _ _ 4096 rfl rfl (by first | rfl | simp) (by first | rfl | simp) (by rw [fM]; decide) (by decide) (Nat.zero_le _) ?_); intro w5 fp et; have fH := (show Hid (Blk w5 wr.heap.size 4 ((List.replicate 4096 false).map Value.bool)) from (by have h := jdE fp; rw [jbY 4096] at h; exact h)); have dp := (show Hid (Same wr w5) from Kept.of_grown et (fun k e => by cases e)); clear fp et)
      obtain ⟨go, KL⟩ : ∃ go, wr.heap.size = go := ⟨_, rfl⟩
      rw [KL] at fH ⊢
      have M4 : g < go := by omega
      have lW := hid (kb.out.kept (dO.out.trans dp.out) id)
      have qG := hid (cu.out.trans (dO.out.trans dp.out))
      have Og : w.heap.size ≤ go := by have := cu.out.size; omega
      clear KL Al pJ kb dO dp
      go_loopw [11, 12] (fun i _ wq => ∃ (k : Nat) (os : List Bool), k ≤ 32 ∧ i = .int .i64 k ∧ Hid (os.length = 4096) ∧ Hid (Blk wq go 4 (os.map Value.bool)) ∧ Hid (∀ p < 4096, os.getD p false = true ↔ ∃ m < k, Ui sl m p) ∧ Hid (∀ i < k, ∀ j < i, TS sl i j = false) ∧ Hid (Kept (fun b => b = go) w5 wq)) (fun i _ _ => 32 - (intOf i).toNat)
      case atStart =>
       refine ⟨0, _, by omega, rfl, List.length_replicate, fH, ?_, fun i hi => by omega, kZ0⟩
       intro p hp
       constructor
       ·intro h
        simp only [List.getD, List.getElem?_replicate, hp, if_true, Option.getD_some] at h
        cases h
       ·rintro ⟨m, hm, _⟩
        omega
      case round =>
       obtain ⟨k, os, hk, rfl, Oy, De, N5, Ja, BA⟩ := hrel
       by_cases bH : k < 32
       ·have aN : (k : Int) < 32 := by omega
        have c0 := (lW.out.kept BA.out (by omega)).at0 k bH
        have c1 := (lW.out.kept BA.out (by omega)).at1 k bH
        obtain ⟨gi, iu, Bs⟩ := DO.out k bH
        have zR := (show Hid (∀ p, Ui sl k p ↔ sl.getD (2 * k) 0 ≤ (p : Int) ∧ (p : Int) < sl.getD (2 * k) 0 + sl.getD (2 * k + 1) 0) from fun p => Iff.rfl)
        obtain ⟨x, A1⟩ : ∃ x0 : Nat, sl.getD (2 * k) 0 = x0 := ⟨(sl.getD (2 * k) 0).toNat, by omega⟩
        obtain ⟨y, pQ⟩ : ∃ y0 : Nat, sl.getD (2 * k + 1) 0 = y0 := ⟨(sl.getD (2 * k + 1) 0).toNat, by omega⟩
        have Mj := (show Hid (sl.getD (2 * k) 0 = (x : Int) ∧ sl.getD (2 * k + 1) 0 = (y : Int)) from ⟨A1, pQ⟩)
        rw [A1, pQ] at Bs zR
        rw [A1] at c0 gi
        rw [pQ] at c1 iu
        clear A1 pQ
        go_wp2_with fail
        go_loopw [12] (fun q wi => ∃ (q0 : Nat) (nC : List Bool), x ≤ q0 ∧ q0 ≤ x + y ∧ q = .int .i64 q0 ∧ Hid (nC.length = 4096) ∧ Hid (Blk wi go 4 (nC.map Value.bool)) ∧ Hid (∀ p < 4096, nC.getD p false = true ↔ (∃ m < k, Ui sl m p) ∨ (x ≤ p ∧ p < q0)) ∧ Hid (∀ p, x ≤ p → p < q0 → ¬ ∃ m < k, Ui sl m p) ∧ Hid (Kept (fun b => b = go) w5 wi)) (fun q _ => x + y - (intOf q).toNat)
        case atStart =>
         refine ⟨x, os, by omega, by omega, rfl, Oy, De, fun p hp => ?_, fun p h1 h2 => by omega, BA⟩
         rw [N5.out p hp]
         constructor
         ·exact .inl
         ·rintro (h | h)
          ·exact h
          ·omega
        case round =>
         obtain ⟨q, nC, iT, nH, rfl, Bj, xV, Bg, Ih, wT⟩ := hrel
         have d0 := (lW.out.kept wT.out (by omega)).at0 k bH
         have d1 := (lW.out.kept wT.out (by omega)).at1 k bH
         have K3 := (show Hid (sl.getD (2 * k) 0 = (x : Int) ∧ sl.getD (2 * k + 1) 0 = (y : Int)) from Mj.out)
         rw [K3.out.1] at d0
         rw [K3.out.2] at d1
         by_cases Co : q < x + y
         ·have mP : (q : Int) < (x : Int) + (y : Int) := by omega
          have PX : (q : Int) < 4096 := by omega
          have FC : q < 4096 := by omega
          have f1 := xV.out.frozen q
          have c9 := xV.out.cell q
          have e9 : (nC.map Value.bool)[q]? = some (.bool (nC.getD q false)) := by simp [List.getD, List.getElem?_eq_getElem (show q < nC.length by rw [Bj.out]; exact FC)]
          rw [e9] at c9
          clear e9
          by_cases ho : nC.getD q false = true
          ·rw [ho] at c9
           have m8 := (Bg.out q FC).1 ho
           obtain ⟨m, hm, qk⟩ : ∃ m < k, Ui sl m q := by
            rcases m8 with h | h
            ·exact h
            ·omega
           obtain rfl : F = 6 := by
            have h := gm.out
            rw [ZA sl k m bH hm (jaU sl k m q ((zR.out q).2 ⟨by omega, by omega⟩) qk), if_pos rfl] at h
            exact h
           clear gm m8 qk
           go_wp2
           go_quiet (fail)
           go_wp2
           go_ret
           exact ⟨rfl, (qG.out.next wT.out (fun i hi e => by omega)).drewN _⟩
          ·have Kg : nC.getD q false = false := by simpa using ho
           rw [Kg] at c9
           have KH : ¬ ∃ m < k, Ui sl m q := fun h => ho ((Bg.out q FC).2 (.inl h))
           have Mx := (show Hid (¬ ∃ m < k, Ui sl m q) from KH)
           clear ho Kg KH
           go_wp2
           go_quiet (fail)
           go_wp2
           go_roundw
           case rel =>
            refine ⟨q + 1, nC.set q true, by omega, by omega, by go_num, by rw [List.length_set]; exact Bj.out, ?_, fun p hp => ?_, fun p h1 h2 => ?_, ?_⟩
            ·rw [List.map_set]
             first
              | exact (xV.out.same (kZ0.drewN _)).stored q (.bool true)
              | exact (xV.out.stored q (.bool true)).same (kZ0.drewN _)
            ·by_cases e : p = q
             ·subst e
              simp only [List.getD, List.getElem?_set, Bj.out, hp, if_true, Option.getD_some, true_iff]
              exact .inr ⟨by omega, by omega⟩
             ·have hg : (nC.set q true).getD p false = nC.getD p false := by simp [List.getD, List.getElem?_set_ne (show q ≠ p from fun h => e h.symm)]
              rw [hg, Bg.out p hp]
              constructor
              ·rintro (h | h)
               ·exact .inl h
               ·exact .inr ⟨h.1, by omega⟩
              ·rintro (h | h)
               ·exact .inl h
               ·exact .inr ⟨h.1, by omega⟩
            ·by_cases e : p = q
             ·rw [e]; exact Mx.out
             ·exact Ih.out p h1 (by omega)
            ·first
              | exact Kept.setCell (R := fun b => b = go) (wT.out.drewN _) (.inr rfl) _
              | exact (Kept.setCell (R := fun b => b = go) wT.out (.inr rfl) _).drewN _
           case measure => simp [intOf]; omega
         ·obtain rfl : q = x + y := by omega
          have mP : ¬ ((x + y : Nat) : Int) < (x : Int) + (y : Int) := by omega
          go_wp2
          go_quiet (fail)
          go_wp2
          go_roundw
          case rel =>
           refine ⟨k + 1, nC, by omega, by go_num, Bj, ?_, fun p hp => ?_, fun i hi j hj => ?_, wT.out.drewN _⟩
           ·exact xV.out.same (kZ0.drewN _)
           ·rw [Bg.out p hp]
            constructor
            ·rintro (⟨m, hm, h⟩ | h)
             ·exact ⟨m, by omega, h⟩
             ·exact ⟨k, by omega, (zR.out p).2 ⟨by omega, by omega⟩⟩
            ·rintro ⟨m, hm, h⟩
             by_cases e : m = k
             ·rw [e] at h
              have := (zR.out p).1 h
              exact .inr ⟨by omega, by omega⟩
             ·exact .inl ⟨m, by omega, h⟩
           ·by_cases e : i = k
            ·rw [e] at hj ⊢
             rw [← Bool.not_eq_true]
             intro hs
             obtain ⟨p, h1, h2⟩ := jaV sl k j (DO.out k bH).1 (DO.out j (by omega)).1 hs
             have h3 := (zR.out p).1 h1
             exact Ih.out p (by omega) (by omega) ⟨j, hj, h2⟩
            ·exact Ja.out i (by omega) j hj
          case measure => simp [intOf]; omega
       ·obtain rfl : k = 32 := by omega
        obtain rfl : F = 0 := by have h := gm.out; rw [jaP sl Ja.out, if_neg (by decide)] at h; exact h
        clear gm
        go_wp2
        go_ret
        exact ⟨rfl, qG.out.next BA.out (fun i hi e => by omega)⟩
   ·obtain rfl : F = 3 := by have h := HF.out; rw [if_pos (by simp [a4])] at h; exact h
    have b3 : (Bt != 0) = false := by simp [a3]
    have b4 : (Gw != 0) = true := by simp [a4]
    clear HF a3 a4
    go_wp2
    go_ret
    exact ⟨rfl, aY.out⟩
  ·obtain rfl : F = 3 := by have h := HF.out; rw [if_pos (by simp [a3])] at h; exact h
   have b3 : (Bt != 0) = true := by simp [a3]
   clear HF a3
   go_wp2
   go_ret
   exact ⟨rfl, aY.out⟩
 ·have Dm : (num != number) = true := by simp [h2]
  obtain rfl : F = 2 := by have h := HF.out; rw [if_pos h2] at h; exact h
  clear HF h2
  go_enter Tryz.func78, Tryz.ntmps78
  go_wp2_with (go_at_call 106; refine A2.mono ?_; rintro e w1 ⟨rfl, aH⟩; clear A2)
  go_ret
  exact ⟨rfl, aH⟩
theorem YW (v : Value) (raw : List Int) (number : Int) (w : World) (hB : IsB raw) (hn : raw.length ≤ 1099511627776) (hv : Rd .u8 w v raw) :
  Calls Tryz.prog 78 #[v, .int .i64 number] w fun e w' => e = .returned (.int .i64 (Rn raw number)) ∧ Same w w' := by
 obtain ⟨a, c, rfl⟩ := hv.form
 by_cases hl : raw.length = 4096
 ·obtain ⟨b, off, rfl, hc⟩ := rd_some hv (by omega)
  rw [hl] at hv ⊢
  exact YV b off c raw number w hB hl hv
 ·have hR : Rn raw number = 1 := by unfold Rn; rw [if_pos hl]
  rw [hR]
  have Dz : ¬ (raw.length : Int) = 4096 := by omega
  clear hv hB
  go_enter Tryz.func78, Tryz.ntmps78
  go_wp2
  go_ret
  exact ⟨rfl, kZ0⟩
theorem jbZ (v : Value) (bs : List Int) (w : World) (hn : bs.length ≤ 1099511627776) (hv : Rd .u8 w v bs) :
  Calls Tryz.prog 38 #[v] w fun e w' => ∃ a n c, e = .returned (.slice a n c) ∧ Own 0 5 .u8 w' (.slice a n c) bs ∧ (∀ b, (Value.slice a n c).ownBlock = some b → w.heap.size ≤ b) ∧ Same w w' := by
 obtain ⟨i0, hi, eL, eT, fM⟩ := info_parts Tryz.infoByte'
 rcases hv.2 with ⟨rfl, a, c, rfl, kl⟩ | ⟨b, off, c, rfl, _, hc⟩
 ·cases a with
  | none =>
   obtain rfl : c = 0 := kl rfl
   clear hv hn kl
   go_enter Tryz.func38, Tryz.ntmps38
   go_wp2_with (at_builtin; refine wpList_append_own_none rfl (.tmp 3) (.tmp 4) 22 rfl w.heap.size 5 i0 1 Tryz.underlying22 hi _ 0 [] rfl (World.ownsRow_made w #[] 0 (Nat.le_refl _) (by simp) (by simp)) rfl ?_)
   go_ret
   exact ⟨_, _, _, rfl, (World.ownsRow_made w #[] 0 (Nat.zero_le _) (by simp) (by simp)), fun b hb => by simp [Value.ownBlock] at hb; omega, kZ0.alloc _⟩
  | some ad =>
   clear hv hn kl
   go_enter Tryz.func38, Tryz.ntmps38
   go_wp2_with (at_builtin; refine wpList_append_own _ rfl (.tmp 3) (.tmp 4) 22 rfl w.heap.size 5 i0 (.int .u8 0) 1 1 Tryz.underlying22 hi eL eT fM rfl (by decide) (.slice (some ⟨w.heap.size, 0, none⟩) 0 0) 0 [] rfl (World.ownsRow_made w #[] 0 (Nat.le_refl _) (by simp) (by simp)) ad 0 c [] rfl rfl (fun j u h => by simp at h) (fun u h => by simp at h) (by simp) (by simp) (by simp) ?_; intro v' w1 cy bS _; have HF := (show Hid (Own w.heap.size 5 .u8 w1 v' []) from cy); have HK : Hid (Same w w1) := (kZ0.alloc _).grown bS (fun k e => .inl (by simp [Value.ownBlock] at e; omega)); obtain ⟨aa, na, ca, rfl⟩ := Sd HF.out; clear cy bS)
   go_ret
   exact ⟨_, _, _, rfl, HF.out.mono (fun b _ => Nat.zero_le b), fun b hb => (HF.out.lt b hb).1, HK.out⟩
 ·have HC : Hid (∀ i, i < bs.length → (w.alloc (.cells #[] 5)).cell? ⟨b, off + i, none⟩ = some (.int .u8 (bs.getD i 0))) := fun i hi => ((Kept.refl (fun _ => False) w).alloc _).cellOf (hc i hi) id
  clear hv hc
  go_enter Tryz.func38, Tryz.ntmps38
  go_wp2_with (at_builtin; refine wpList_append_own _ rfl (.tmp 3) (.tmp 4) 22 rfl w.heap.size 5 i0 (.int .u8 0) 1 1 Tryz.underlying22 hi eL eT fM rfl (by decide) (.slice (some ⟨w.heap.size, 0, none⟩) 0 0) 0 [] rfl (World.ownsRow_made w #[] 0 (Nat.le_refl _) (by simp) (by simp)) ⟨b, off, none⟩ bs.length c (vals .u8 bs) rfl (by simp [Rb]) (Wx HC.out) TN (by unfold maxLen; omega) (by omega) (by simp) ?_; intro v' w1 cy bS _; have HF := (show Hid (Own w.heap.size 5 .u8 w1 v' bs) from (by simpa [Own, Hid] using cy)); have HK : Hid (Same w w1) := (kZ0.alloc _).grown bS (fun k e => .inl (by simp [Value.ownBlock] at e; omega)); obtain ⟨aa, na, ca, rfl⟩ := Sd HF.out; clear cy bS)
  go_ret
  exact ⟨_, _, _, rfl, HF.out.mono (fun b _ => Nat.zero_le b), fun b hb => (HF.out.lt b hb).1, HK.out⟩
theorem Xi (v : Value) (bs : List Int) (w : World) (hn : bs.length ≤ 1099511627776) (hv : Rd .u8 w v bs) :
  Calls Tryz.prog 89 #[v] w fun e w' => ∃ a n c, e = .returned (.slice a n c) ∧ Own 0 5 .u8 w' (.slice a n c) bs ∧ (∀ b, (Value.slice a n c).ownBlock = some b → w.heap.size ≤ b) ∧ Same w w' := by
 obtain ⟨i0, hi, eL, eT, fM⟩ := info_parts Tryz.infoByte'
 have kR := fun (wx : World) (a : Option Addr) (n c : Nat) => Lib.run_eql_slice_nil (P := Tryz.prog) wx 22 5 a n c 0 0 Tryz.underlying22
 rcases hv.2 with ⟨rfl, a, c, rfl, kl⟩ | ⟨b, off, c, rfl, _, hc⟩
 ·cases a with
  | none =>
   obtain rfl : c = 0 := kl rfl
   clear hv hn kl
   go_enter Tryz.func89, Tryz.ntmps89
   go_wp2
   go_ret
   exact ⟨_, _, _, rfl, Own.nil _ _ _ _, fun b hb => by simp [Value.ownBlock] at hb, kZ0⟩
  | some ad =>
   clear hv hn kl
   go_enter Tryz.func89, Tryz.ntmps89
   go_wp2_with (at_builtin; refine wpList_append_own _ rfl (.tmp 5) (.tmp 6) 22 rfl w.heap.size 5 i0 (.int .u8 0) 1 1 Tryz.underlying22 hi eL eT fM rfl (by decide) (.slice (some ⟨w.heap.size, 0, none⟩) 0 0) 0 [] rfl (World.ownsRow_made w #[] 0 (Nat.le_refl _) (by simp) (by simp)) ad 0 c [] rfl rfl (fun j u h => by simp at h) (fun u h => by simp at h) (by simp) (by simp) (by simp) ?_; intro v' w1 cy bS _; have HF := (show Hid (Own w.heap.size 5 .u8 w1 v' []) from cy); have HK : Hid (Same w w1) := (kZ0.alloc _).grown bS (fun k e => .inl (by simp [Value.ownBlock] at e; omega)); obtain ⟨aa, na, ca, rfl⟩ := Sd HF.out; clear cy bS)
   go_ret
   exact ⟨_, _, _, rfl, HF.out.mono (fun b _ => Nat.zero_le b), fun b hb => (HF.out.lt b hb).1, HK.out⟩
 ·have HC : Hid (∀ i, i < bs.length → (w.alloc (.cells #[] 5)).cell? ⟨b, off + i, none⟩ = some (.int .u8 (bs.getD i 0))) := fun i hi => ((Kept.refl (fun _ => False) w).alloc _).cellOf (hc i hi) id
  clear hv hc
  go_enter Tryz.func89, Tryz.ntmps89
  go_wp2_with (at_builtin; refine wpList_append_own _ rfl (.tmp 5) (.tmp 6) 22 rfl w.heap.size 5 i0 (.int .u8 0) 1 1 Tryz.underlying22 hi eL eT fM rfl (by decide) (.slice (some ⟨w.heap.size, 0, none⟩) 0 0) 0 [] rfl (World.ownsRow_made w #[] 0 (Nat.le_refl _) (by simp) (by simp)) ⟨b, off, none⟩ bs.length c (vals .u8 bs) rfl (by simp [Rb]) (Wx HC.out) TN (by unfold maxLen; omega) (by omega) (by simp) ?_; intro v' w1 cy bS _; have HF := (show Hid (Own w.heap.size 5 .u8 w1 v' bs) from (by simpa [Own, Hid] using cy)); have HK : Hid (Same w w1) := (kZ0.alloc _).grown bS (fun k e => .inl (by simp [Value.ownBlock] at e; omega)); obtain ⟨aa, na, ca, rfl⟩ := Sd HF.out; clear cy bS)
  go_ret
  exact ⟨_, _, _, rfl, HF.out.mono (fun b _ => Nat.zero_le b), fun b hb => (HF.out.lt b hb).1, HK.out⟩
def stretch (raw : List Int) (x y : Int) : List Int := (raw.drop x.toNat).take y.toNat
theorem jb0 (s : Int) (w : World) : Calls Tryz.prog 161 #[.int .i64 s] w fun e w' => e = .returned (.bool (decide (0 ≤ s) && decide (s < 32))) ∧ Same w w' := by
 by_cases h : 0 ≤ s
 ·by_cases h2 : s < 32
  ·have ma : ¬ (32 ≤ s) := by omega
   go_enter Tryz.func161, Tryz.ntmps161
   go_wp2
   go_ret
   exact ⟨by simp [h, h2], kZ0⟩
  ·have ma : (32 ≤ s) := by omega
   go_enter Tryz.func161, Tryz.ntmps161
   go_wp2
   go_ret
   exact ⟨by simp [h, h2], kZ0⟩
 ·go_enter Tryz.func161, Tryz.ntmps161
  go_wp2
  go_ret
  exact ⟨by rw [show decide (0 ≤ s) = false from by simp; omega]; rfl, kZ0⟩
def SN (x : Int) : Bool := decide (0 ≤ x) && decide (x < 16)
set_option maxRecDepth 100000 in
theorem Wm (x : Int) (w : World) : Calls Tryz.prog 160 #[.int .i64 x] w fun e w' => e = .returned (.bool (SN x)) ∧ Same w w' := by
 unfold SN
 by_cases h : 0 ≤ x
 ·by_cases h2 : x < 16
  ·go_enter Tryz.func160, Tryz.ntmps160
   go_wp2
   go_ret
   exact ⟨by simp [h, h2], kZ0⟩
  ·go_enter Tryz.func160, Tryz.ntmps160
   go_wp2
   go_ret
   exact ⟨by simp [h]; omega, kZ0⟩
 ·go_enter Tryz.func160, Tryz.ntmps160
  go_wp2
  go_ret
  exact ⟨by rw [show decide (0 ≤ x) = false from by simp; omega]; rfl, kZ0⟩
def Tq (x : Int) : Bool := decide (1 ≤ x) && decide (x ≤ 2147483647)
def UR (x : Int) : Bool := decide (0 ≤ x) && decide (x < 32)
def Rj (u : Bool) (n : Nat) : Bool := decide (n ≤ 1000) && (u || decide (n = 0))
def Rx (txn prev : Int) : Int := if Tq txn = false then 3 else if Sk prev = false then 4 else 0
def Rt (page slot : Int) : Int := if (SN page && UR slot) = true then 0 else 5
def orF (a b c : Int) : Int := if a ≠ 0 then a else if b ≠ 0 then b else c
def jaf (bu au : Bool) (bn an : Nat) : Int := if (Rj bu bn && Rj au an && (bu || au)) = true then 0 else 6
def jag (au : Bool) (an : Nat) (un : Int) : Int := if Rj au an = false then 6 else if Sk un = false then 7 else 0
theorem ZB (x : Int) (w : World) : Calls Tryz.prog 157 #[.int .i64 x] w fun e w' => e = .returned (.bool (Tq x)) ∧ Same w w' := by
 unfold Tq
 by_cases h : 1 ≤ x
 ·by_cases h2 : x ≤ 2147483647
  ·go_enter Tryz.func157, Tryz.ntmps157
   go_wp2
   go_ret
   exact ⟨by simp [h, h2], kZ0⟩
  ·go_enter Tryz.func157, Tryz.ntmps157
   go_wp2
   go_ret
   exact ⟨by simp [h]; omega, kZ0⟩
 ·go_enter Tryz.func157, Tryz.ntmps157
  go_wp2
  go_ret
  exact ⟨by rw [show decide (1 ≤ x) = false from by simp; omega]; rfl, kZ0⟩
theorem Yf (u : Bool) (a : Option Addr) (n c : Nat) (w : World) (hn : n ≤ maxLen) : Calls Tryz.prog 166 #[.agg #[.bool u, .slice a n c]] w fun e w' => e = .returned (.bool (Rj u n)) ∧ Same w w' := by
 unfold maxLen at hn
 unfold Rj
 by_cases h : (n : Int) ≤ 1000
 ·have h1 : n ≤ 1000 := by omega
  cases u with
  | true =>
   go_enter Tryz.func166, Tryz.ntmps166
   go_wp2
   go_ret
   exact ⟨by simp [h1], kZ0.alloc _⟩
  | false =>
   by_cases h0 : n = 0
   ·subst h0
    go_enter Tryz.func166, Tryz.ntmps166
    go_wp2
    go_ret
    exact ⟨by simp, kZ0.alloc _⟩
   ·have D8 : ¬ (n : Int) = 0 := by omega
    go_enter Tryz.func166, Tryz.ntmps166
    go_wp2
    go_ret
    exact ⟨by simp [h0, h1], kZ0.alloc _⟩
 ·have h1 : ¬ n ≤ 1000 := by omega
  go_enter Tryz.func166, Tryz.ntmps166
  go_wp2
  go_ret
  exact ⟨by simp [h1], kZ0.alloc _⟩
theorem RY (txn prev : Int) (w : World) : Calls Tryz.prog 156 #[.agg #[.int .i64 txn, .int .i64 prev]] w fun e w' => e = .returned (.int .i64 (Rx txn prev)) ∧ Same w w' := by
 have h1 := fun wx => ZB txn wx
 have h2 := fun wx => Xf prev wx
 have hb := Blk.new w #[.int .i64 txn, .int .i64 prev] 138
 unfold Rx
 cases e1 : Tq txn with
 | false =>
  rw [e1] at h1
  go_enter Tryz.func156, Tryz.ntmps156
  go_wp2_with (go_at_call 157; refine (h1 _).mono ?_; rintro e w1 ⟨rfl, aH⟩; have c1 : w1.cell? ⟨w.heap.size, 1, none⟩ = some (.int .i64 prev) := (hb.same aH).cell 1)
  go_ret
  exact ⟨rfl, (kZ0.alloc _).trans aH⟩
 | true =>
  rw [e1] at h1
  cases e2 : Sk prev with
  | false =>
   rw [e2] at h2
   go_enter Tryz.func156, Tryz.ntmps156
   go_wp2_with (first | (go_at_call 157; refine (h1 _).mono ?_; rintro e w1 ⟨rfl, aH⟩; have c1 : w1.cell? ⟨w.heap.size, 1, none⟩ = some (.int .i64 prev) := (hb.same aH).cell 1) | (go_at_call 158; refine (h2 _).mono ?_; rintro e w2 ⟨rfl, aN⟩))
   go_ret
   exact ⟨rfl, ((kZ0.alloc _).trans aH).trans aN⟩
  | true =>
   rw [e2] at h2
   go_enter Tryz.func156, Tryz.ntmps156
   go_wp2_with (first | (go_at_call 157; refine (h1 _).mono ?_; rintro e w1 ⟨rfl, aH⟩; have c1 : w1.cell? ⟨w.heap.size, 1, none⟩ = some (.int .i64 prev) := (hb.same aH).cell 1) | (go_at_call 158; refine (h2 _).mono ?_; rintro e w2 ⟨rfl, aN⟩))
   go_ret
   exact ⟨rfl, ((kZ0.alloc _).trans aH).trans aN⟩
theorem Sl (page slot : Int) (w : World) : Calls Tryz.prog 159 #[.agg #[.int .i64 page, .int .i64 slot]] w fun e w' => e = .returned (.int .i64 (Rt page slot)) ∧ Same w w' := by
 have h1 := fun wx => Wm page wx
 have h2 : ∀ wx, Calls Tryz.prog 161 #[.int .i64 slot] wx fun e w' => e = .returned (.bool (UR slot)) ∧ Same wx w' := fun wx => jb0 slot wx
 have hb := Blk.new w #[.int .i64 page, .int .i64 slot] 140
 unfold Rt
 cases e1 : SN page with
 | false =>
  rw [e1] at h1
  go_enter Tryz.func159, Tryz.ntmps159
  go_wp2_with (go_at_call 160; refine (h1 _).mono ?_; rintro e w1 ⟨rfl, aH⟩; have c1 : w1.cell? ⟨w.heap.size, 1, none⟩ = some (.int .i64 slot) := (hb.same aH).cell 1)
  go_ret
  exact ⟨rfl, (kZ0.alloc _).trans aH⟩
 | true =>
  rw [e1] at h1
  cases e2 : UR slot with
  | false =>
   rw [e2] at h2
   go_enter Tryz.func159, Tryz.ntmps159
   go_wp2_with (first | (go_at_call 160; refine (h1 _).mono ?_; rintro e w1 ⟨rfl, aH⟩; have c1 : w1.cell? ⟨w.heap.size, 1, none⟩ = some (.int .i64 slot) := (hb.same aH).cell 1) | (go_at_call 161; refine (h2 _).mono ?_; rintro e w2 ⟨rfl, aN⟩))
   go_ret
   exact ⟨rfl, ((kZ0.alloc _).trans aH).trans aN⟩
  | true =>
   rw [e2] at h2
   go_enter Tryz.func159, Tryz.ntmps159
   go_wp2_with (first | (go_at_call 160; refine (h1 _).mono ?_; rintro e w1 ⟨rfl, aH⟩; have c1 : w1.cell? ⟨w.heap.size, 1, none⟩ = some (.int .i64 slot) := (hb.same aH).cell 1) | (go_at_call 161; refine (h2 _).mono ?_; rintro e w2 ⟨rfl, aN⟩))
   go_ret
   exact ⟨rfl, ((kZ0.alloc _).trans aH).trans aN⟩
theorem TV (g a b c : Int) (B : Nat) (w : World) (h0 : w.cell? ⟨B, 0, none⟩ = some (.int .i64 a)) (h1 : w.cell? ⟨B, 1, none⟩ = some (.int .i64 b)) (h2 : w.cell? ⟨B, 2, none⟩ = some (.int .i64 c)) :
  Calls Tryz.prog 167 #[.slice (some ⟨B, 0, none⟩) 3 3] w fun e w' => e = .returned (.int .i64 (orF a b c)) ∧ Same w w' := by
 unfold orF
 by_cases ha : a = 0
 ·subst ha
  by_cases hb : b = 0
  ·subst hb
   by_cases hc : c = 0
   ·subst hc
    go_enter Tryz.func167, Tryz.ntmps167
    go_wp2
    refine wp_loop_rounds 4 ?_
    rw [rounds_succ]
    go_wp2
    rw [rounds_succ]
    go_wp2
    rw [rounds_succ]
    go_wp2
    rw [rounds_succ]
    go_wp2
    go_ret
    exact ⟨by simp, kZ0⟩
   ·go_enter Tryz.func167, Tryz.ntmps167
    go_wp2
    refine wp_loop_rounds 4 ?_
    rw [rounds_succ]
    go_wp2
    rw [rounds_succ]
    go_wp2
    rw [rounds_succ]
    go_wp2
    go_ret
    exact ⟨by simp, kZ0⟩
  ·go_enter Tryz.func167, Tryz.ntmps167
   go_wp2
   refine wp_loop_rounds 4 ?_
   rw [rounds_succ]
   go_wp2
   rw [rounds_succ]
   go_wp2
   go_ret
   exact ⟨by simp [hb], kZ0⟩
 ·go_enter Tryz.func167, Tryz.ntmps167
  go_wp2
  refine wp_loop_rounds 4 ?_
  rw [rounds_succ]
  go_wp2
  go_ret
  exact ⟨by simp [ha], kZ0⟩
def inB (v a b : Int) : Bool := decide (a ≤ v) && decide (v ≤ b)
set_option maxRecDepth 100000 in
theorem Rm (v a b : Int) (w : World) : Calls Tryz.prog 35 #[.int .i64 v, .int .i64 a, .int .i64 b] w fun e w' => e = .returned (.bool (inB v a b)) ∧ Same w w' := by
 unfold inB
 by_cases h : a ≤ v
 ·by_cases h2 : v ≤ b
  ·go_enter Tryz.func35, Tryz.ntmps35
   go_wp2
   go_ret
   exact ⟨by simp [h, h2], kZ0⟩
  ·go_enter Tryz.func35, Tryz.ntmps35
   go_wp2
   go_ret
   exact ⟨by simp [h]; try omega, kZ0⟩
 ·go_enter Tryz.func35, Tryz.ntmps35
  go_wp2
  go_ret
  exact ⟨by rw [show decide (a ≤ v) = false from by simp; omega]; rfl, kZ0⟩
def Rz (u : Bool) (n : Nat) : Bool := !u && decide (n = 0)
set_option maxRecDepth 100000 in
theorem R3 (u : Bool) (a : Option Addr) (n c : Nat) (w : World) (hn : n ≤ maxLen) : Calls Tryz.prog 105 #[.agg #[.bool u, .slice a n c]] w fun e w' => e = .returned (.bool (Rz u n)) ∧ Same w w' := by
 unfold maxLen at hn
 unfold Rz
 cases u with
 | true =>
  go_enter Tryz.func105, Tryz.ntmps105
  go_wp2
  go_ret
  exact ⟨by simp, kZ0.alloc _⟩
 | false =>
  by_cases h0 : n = 0
  ·subst h0
   go_enter Tryz.func105, Tryz.ntmps105
   go_wp2
   go_ret
   exact ⟨by simp, kZ0.alloc _⟩
  ·have D8 : ¬ (n : Int) = 0 := by omega
   go_enter Tryz.func105, Tryz.ntmps105
   go_wp2
   go_ret
   exact ⟨by simp [h0], kZ0.alloc _⟩
set_option maxRecDepth 100000 in
theorem RU (u : Bool) (a : Option Addr) (n c : Nat) (w : World) (hn : n ≤ maxLen) : Calls Tryz.prog 76 #[.agg #[.bool u, .slice a n c]] w fun e w' => e = .returned (.bool (Rj u n)) ∧ Same w w' := by
 unfold maxLen at hn
 unfold Rj
 by_cases h : (n : Int) ≤ 1000
 ·have h1 : n ≤ 1000 := by omega
  cases u with
  | true =>
   go_enter Tryz.func76, Tryz.ntmps76
   go_wp2
   go_ret
   exact ⟨by simp [h1], kZ0.alloc _⟩
  | false =>
   by_cases h0 : n = 0
   ·subst h0
    go_enter Tryz.func76, Tryz.ntmps76
    go_wp2
    go_ret
    exact ⟨by simp, kZ0.alloc _⟩
   ·have D8 : ¬ (n : Int) = 0 := by omega
    go_enter Tryz.func76, Tryz.ntmps76
    go_wp2
    go_ret
    exact ⟨by simp [h0, h1], kZ0.alloc _⟩
 ·have h1 : ¬ n ≤ 1000 := by omega
  go_enter Tryz.func76, Tryz.ntmps76
  go_wp2
  go_ret
  exact ⟨by simp [h1], kZ0.alloc _⟩
end Go.Proofs.YtaojjcnmififoaaGreat
