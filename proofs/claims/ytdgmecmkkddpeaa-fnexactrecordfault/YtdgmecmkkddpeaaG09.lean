import Derived.Test.YtdgmecmkkddpeaaG08
import Derived.Test.YtdgmecmkkddpeaaG00
import Derived.Test.YtdgmecmkkddpeaaG01
import Derived.Test.YtdgmecmkkddpeaaG05
import Derived.Laws.AppendOwnNone
namespace Go.Proofs.Ytdgmecmkkddpeaa
set_option maxRecDepth 100000
set_option maxHeartbeats 16000000
set_option linter.unusedVariables false
set_option linter.unusedSimpArgs false
open Go.RowKit
theorem l3Bottom_any (b off c : Nat) (raw : List Int) (w : World) (hB : IsB raw) (hl : raw.length = 4096) (hv : Rd .u8 w (.slice (some ⟨b, off, none⟩) 4096 c) raw) :
  Calls Try.prog 55 #[.slice (some ⟨b, off, none⟩) 4096 c] w fun e w' => e = .returned (.int .i64 (numAt raw 16 2)) ∧ Same w w' := by
 have h := l3Number_any b off 4096 c raw 16 2 w hB hl (by decide) (by decide) (by decide) hv
 go_enter Try.func55, Try.ntmps55
 go_wp2_with (go_at_call 54; refine h.mono ?_; rintro e w1 ⟨rfl, hk⟩)
 go_ret
 exact ⟨rfl, hk⟩
def inSlot (sl : List Int) (m p : Nat) : Prop := sl.getD (2 * m) 0 ≤ (p : Int) ∧ (p : Int) < sl.getD (2 * m) 0 + sl.getD (2 * m + 1) 0
theorem share_of_in (sl : List Int) (i j p : Nat) (h1 : inSlot sl i p) (h2 : inSlot sl j p) : shareAt sl i j = true := by
 unfold shareAt sharesB
 rw [decide_eq_true_eq]
 unfold inSlot at h1 h2
 omega
theorem in_of_share (sl : List Int) (i j : Nat) (h0 : 0 ≤ sl.getD (2 * i) 0) (h0' : 0 ≤ sl.getD (2 * j) 0) (h : shareAt sl i j = true) : ∃ p : Nat, inSlot sl i p ∧ inSlot sl j p := by
 unfold shareAt sharesB at h
 rw [decide_eq_true_eq] at h
 refine ⟨(max (sl.getD (2 * i) 0) (sl.getD (2 * j) 0)).toNat, ?_, ?_⟩ <;> unfold inSlot <;> omega
theorem not_astray (bot x y : Int) (h : astrayAt bot x y = false) : (x = 0 ∧ y = 0) ∨ (x ≠ 0 ∧ y ≤ 1000 ∧ bot ≤ x ∧ x + y ≤ 4096) := by
 unfold astrayAt at h
 simp at h
 by_cases hx : x = 0
 ·exact .inl ⟨hx, h.2 hx⟩
 ·exact .inr ⟨hx, by have := h.1 hx; omega⟩
theorem owns_blk {w : World} {base g n size : Nat} {e : TypeId} {xs : List Value} (h : w.ownsRow base e size (.slice (some ⟨g, 0, none⟩) n n) n xs) : Blk w g e xs := by
 rcases h.2 with ⟨h, _⟩ | ⟨g', cap, cur, h, _, hg, _, _, hs, ht⟩
 ·cases h
 ·cases h
  rw [List.take_of_length_le (by rw [Array.length_toList, hs]; exact Nat.le_refl _)] at ht
  unfold Blk
  rw [← ht]
  simpa using hg
theorem made_bools (n : Nat) : (madeCells (Value.bool false).cells (n * 1)).toList = (List.replicate n false).map Value.bool := by
 apply List.ext_getElem?
 intro j
 by_cases hj : j < n
 ·simp [madeCells, hj, Value.cells, Nat.mod_one]
 ·simp [madeCells, hj]
theorem infoBool : (Try.prog.info? 4).map (fun i => (i.zero, i.size, i.bytes)) = some (some (.bool false), 1, 1) := by kernel_rfl
structure Rows2 (w : World) (g : Nat) (sl : List Int) : Prop where
 at0 : ∀ k, k < 32 → w.cell? ⟨g, k * 2, none⟩ = some (.int .i64 (sl.getD (2 * k) 0))
 at1 : ∀ k, k < 32 → w.cell? ⟨g, k * 2 + 1, none⟩ = some (.int .i64 (sl.getD (2 * k + 1) 0))
theorem Rows2.kept {R : Nat → Prop} {w w' : World} {g : Nat} {sl : List Int} (h : Rows2 w g sl) (hk : Kept R w w') (hr : ¬ R g) : Rows2 w' g sl :=
 ⟨fun k hk' => hk.cellOf (h.at0 k hk') hr, fun k hk' => hk.cellOf (h.at1 k hk') hr⟩
theorem rows2_of {w : World} {g cap : Nat} {e : TypeId} {sl : List Int} (h : w.ownsRow 0 e 2 (.slice (some ⟨g, 0, none⟩) 32 cap) 32 (vals .i64 sl)) (hl : sl.length = 64) : Rows2 w g sl :=
 ⟨fun k hk => by rw [World.ownsRow.cellAt h _ (by omega), vals_at _ _ _ (by omega), Nat.mul_comm], fun k hk => by rw [World.ownsRow.cellAt h _ (by omega), vals_at _ _ _ (by omega), Nat.mul_comm]⟩
theorem specFault_yes (b off c : Nat) (raw : List Int) (number : Int) (w : World) (hB : IsB raw) (hl : raw.length = 4096) (hv : Rd .u8 w (.slice (some ⟨b, off, none⟩) 4096 c) raw) :
  Calls Try.prog 31 #[.slice (some ⟨b, off, none⟩) 4096 c, .int .i64 number] w fun e w' => e = .returned (.int .i64 (pageFault raw number)) ∧ Same w w' := by
 have HNu := (show Hid (∀ wx, Same w wx → ∀ o n : Nat, 1 ≤ n → o + n ≤ 4096 → Calls Try.prog 54 #[.slice (some ⟨b, off, none⟩) 4096 c, .int .i64 o, .int .i64 n] wx fun e w' => e = .returned (.int .i64 (numAt raw o n)) ∧ Same wx w') from fun wx h o n h1 ho =>
  l3Number_any b off 4096 c raw o n wx hB hl (by decide) h1 ho (hv.same h))
 have HBo := (show Hid (∀ wx, Same w wx → Calls Try.prog 55 #[.slice (some ⟨b, off, none⟩) 4096 c] wx fun e w' => e = .returned (.int .i64 (numAt raw 16 2)) ∧ Same wx w') from fun wx h => l3Bottom_any b off c raw wx hB hl (hv.same h))
 have HSl := (show Hid (_) from fun wx (h : Same w wx) => l3Slots_any b off c raw wx hB hl (hv.same h))
 have HSm := (show Hid (Small (slotsOf raw)) from slotsOf_small raw hB hl)
 have hcell : ∀ i, i < 4096 → w.cell? ⟨b, off + i, none⟩ = some (.int .u8 (raw.getD i 0)) := by
  rcases hv.2 with ⟨h0, _⟩ | ⟨b', o', c', e, _, hc⟩
  ·rw [h0] at hl; simp at hl
  ·simp only [Value.slice.injEq, Option.some.injEq, Addr.mk.injEq] at e
   obtain ⟨⟨rfl, rfl, _⟩, _, rfl⟩ := e
   intro i hi
   exact hc i (by omega)
 have q18 := hcell 18 (by decide)
 have q19 := hcell 19 (by decide)
 have HF := (show Hid (pageFault raw number = if numAt raw 12 4 ≠ number then 2 else if (decide (numAt raw 4 8 < 0) || decide (1099511627776 < numAt raw 4 8) || raw.getD 18 0 != 0 || raw.getD 19 0 != 0) = true then 3 else if numAt raw 16 2 < 148 ∨ 4096 < numAt raw 16 2 then 4 else if astray (numAt raw 16 2) (slotsOf raw) then 5 else if share (slotsOf raw) then 6 else 0) from
  (by unfold pageFault faultP; rw [if_neg (by simp [hl]), headBad_raw raw hB hl] : pageFault raw number = _))
 obtain ⟨F, hFe⟩ : ∃ F, pageFault raw number = F := ⟨_, rfl⟩
 rw [hFe] at HF ⊢
 have hn4 := HNu.out w (Kept.refl _ _) 12 4 (by decide) (by decide)
 have hn8 := fun wx h => HNu.out wx h 4 8 (by decide) (by decide)
 generalize numAt raw 12 4 = num at *
 generalize numAt raw 4 8 = lsn at *
 generalize numAt raw 16 2 = bot at *
 generalize raw.getD 18 0 = r18 at *
 generalize raw.getD 19 0 = r19 at *
 have hsl64 := slotsOf_length raw
 generalize slotsOf raw = sl at *
 clear hcell hFe hv hB HNu hl
 by_cases h2 : num = number
 ·have h5 := HF.out
  rw [if_neg (by simp [h2])] at h5
  have h2b : (num != number) = false := by simp [h2]
  clear HF h2
  go_enter Try.func31, Try.ntmps31
  have HF := (show Hid (F = _) from h5)
  clear h5
  go_upto_region 5 with (go_at_call 54; refine hn4.mono ?_; rintro e w1 ⟨rfl, hk1⟩; have hn8' := hn8 w1 hk1; clear hn4 hn8)
  go_wp2_with fail
  refine hn8'.mono ?_
  rintro e w2 ⟨rfl, hk2⟩
  have HK2 := hid (hk1.trans hk2)
  have k18 := HK2.out.cellOf q18 id
  have k19 := HK2.out.cellOf q19 id
  clear hn8' hk1 hk2 q18 q19
  by_cases a1 : lsn < 0
  ·obtain rfl : F = 3 := by have h := HF.out; rw [if_pos (by simp [a1])] at h; exact h
   clear HF
   go_wp2
   go_ret
   exact ⟨rfl, HK2.out⟩
  by_cases a2 : 1099511627776 < lsn
  ·obtain rfl : F = 3 := by have h := HF.out; rw [if_pos (by simp [a2])] at h; exact h
   clear HF
   go_wp2
   go_ret
   exact ⟨rfl, HK2.out⟩
  by_cases a3 : r18 = 0
  ·by_cases a4 : r19 = 0
   ·have HF2 := (show Hid (F = if bot < 148 ∨ 4096 < bot then 4 else if astray bot sl then 5 else if share sl then 6 else 0) from (by have h := HF.out; rw [if_neg (by simp [a1, a2, a3, a4] <;> omega)] at h; exact h : F = _))
    have b3 : (r18 != 0) = false := by simp [a3]
    have b4 : (r19 != 0) = false := by simp [a4]
    have hbo := HBo.out w2 HK2.out
    clear HF a3 a4
    by_cases a5 : bot < 148
    ·obtain rfl : F = 4 := by have h := HF2.out; rw [if_pos (.inl a5)] at h; exact h
     clear HF2
     go_wp2_with (go_at_call 55; refine hbo.mono ?_; rintro e w3 ⟨rfl, hk3⟩; have HK3 := (show Hid (Same w w3) from HK2.out.trans hk3); have hsl := HSl.out w3 HK3.out; clear hk3 hbo)
     go_ret
     exact ⟨rfl, HK3.out⟩
    by_cases a6 : 4096 < bot
    ·obtain rfl : F = 4 := by have h := HF2.out; rw [if_pos (.inr a6)] at h; exact h
     clear HF2
     go_wp2_with (go_at_call 55; refine hbo.mono ?_; rintro e w3 ⟨rfl, hk3⟩; have HK3 := (show Hid (Same w w3) from HK2.out.trans hk3); have hsl := HSl.out w3 HK3.out; clear hk3 hbo)
     go_ret
     exact ⟨rfl, HK3.out⟩
    have HF3 := (show Hid (F = if astray bot sl then 5 else if share sl then 6 else 0) from (by have h := HF2.out; rw [if_neg (by omega)] at h; exact h : F = _))
    clear HF2
    go_wp2_with (first | (go_at_call 55; refine hbo.mono ?_; rintro e w3 ⟨rfl, hk3⟩; have HK3 := (show Hid (Same w w3) from HK2.out.trans hk3); have hsl := HSl.out w3 HK3.out; clear hk3 hbo) | (go_at_call 56; refine hsl.mono ?_; rintro e w4 ⟨g, cap, rfl, hg, hown, hk4⟩; have HK4 := (show Hid (Same w w4) from HK3.out.trans hk4); have HR4 := (show Hid (Rows2 w4 g sl) from rows2_of hown hsl64); have hgl := (World.ownsRow.lt hown g rfl).2; clear hk4 hown hsl))
    go_loopw [8, 9] (fun i _ wr => ∃ k : Nat, k ≤ 32 ∧ i = .int .i64 k ∧ Hid (∀ j < k, astrayAt bot (sl.getD (2 * j) 0) (sl.getD (2 * j + 1) 0) = false) ∧ Hid (Same w4 wr)) (fun i _ _ => 32 - (intOf i).toNat)
    case atStart => exact ⟨0, by omega, rfl, fun j hj => by omega, Kept.refl _ _⟩
    case round =>
     obtain ⟨k, hk, rfl, HAl, HKr⟩ := hrel
     by_cases hlt : k < 32
     ·have hk2 : (k : Int) < 32 := by omega
      have c0 := (HR4.out.kept HKr.out id).at0 k hlt
      have c1 := (HR4.out.kept HKr.out id).at1 k hlt
      have hxb := HSm.out.at (2 * k)
      have hyb := HSm.out.at (2 * k + 1)
      have HYes := (show Hid (astrayAt bot (sl.getD (2 * k) 0) (sl.getD (2 * k + 1) 0) = true → F = 5) from fun h => by rw [HF3.out, astray_yes bot sl k hlt h, if_pos rfl])
      have HNo := (show Hid (astrayAt bot (sl.getD (2 * k) 0) (sl.getD (2 * k + 1) 0) = false → ∀ j < k + 1, astrayAt bot (sl.getD (2 * j) 0) (sl.getD (2 * j + 1) 0) = false) from fun h j hj => by
       by_cases e : j = k
       ·rw [e]; exact h
       ·exact HAl.out j (by omega))
      generalize sl.getD (2 * k) 0 = x at *
      generalize sl.getD (2 * k + 1) 0 = y at *
      by_cases hx0 : x = 0
      ·have hx0b : (x != 0) = false := by rw [hx0]; rfl
       have hx0e : (x == 0) = true := by rw [hx0]; rfl
       by_cases hy0 : y = 0
       ·have hAt : astrayAt bot x y = false := by simp [astrayAt, hx0, hy0]
        have hyb0 : (y != 0) = false := by rw [hy0]; rfl
        clear hx0 hy0
        go_wp2
        go_roundw
        case rel => exact ⟨k + 1, by omega, by go_num, HNo.out hAt, HKr.out.alloc _⟩
        case measure => simp [intOf]; omega
       ·have hAt : astrayAt bot x y = true := by simp [astrayAt, hx0, hy0]
        have hyb0 : (y != 0) = true := by simp [hy0]
        obtain rfl := HYes.out hAt
        clear hx0 hy0 HF3
        go_wp2
        go_ret
        exact ⟨rfl, HK4.out.trans (HKr.out.alloc _)⟩
      ·have hx0b : (x != 0) = true := by simp [hx0]
       have hx0e : (x == 0) = false := by simp [hx0]
       by_cases hL : 1000 < y
       ·have hAt : astrayAt bot x y = true := by simp [astrayAt, hx0, hL]
        obtain rfl := HYes.out hAt
        clear HF3
        go_wp2
        go_ret
        exact ⟨rfl, HK4.out.trans (HKr.out.alloc _)⟩
       ·by_cases hO : x < bot
        ·have hAt : astrayAt bot x y = true := by simp [astrayAt, hx0, hO]
         obtain rfl := HYes.out hAt
         clear HF3
         go_wp2
         go_ret
         exact ⟨rfl, HK4.out.trans (HKr.out.alloc _)⟩
        ·by_cases hE : 4096 < x + y
         ·have hAt : astrayAt bot x y = true := by simp [astrayAt, hx0, hE]
          obtain rfl := HYes.out hAt
          clear HF3
          go_wp2
          go_ret
          exact ⟨rfl, HK4.out.trans (HKr.out.alloc _)⟩
         ·have hAt : astrayAt bot x y = false := by simp [astrayAt, hx0]; omega
          go_wp2
          go_roundw
          case rel => exact ⟨k + 1, by omega, by go_num, HNo.out hAt, HKr.out.alloc _⟩
          case measure => simp [intOf]; omega
     ·obtain rfl : k = 32 := by omega
      have HF4 := (show Hid (F = if share sl then 6 else 0) from (by have h := HF3.out; rw [astray_no bot sl HAl.out, if_neg (by decide)] at h; exact h : F = _))
      clear HF3
      obtain ⟨i0, hi, hz0, hz1, hz2⟩ := info_parts infoBool
      have HIn := (show Hid (∀ m < 32, 0 ≤ sl.getD (2 * m) 0 ∧ 0 ≤ sl.getD (2 * m + 1) 0 ∧ sl.getD (2 * m) 0 + sl.getD (2 * m + 1) 0 ≤ 4096) from fun m hm => by
       have h0 := HSm.out.at (2 * m)
       have h1 := HSm.out.at (2 * m + 1)
       rcases not_astray _ _ _ (HAl.out m hm) with h | h <;> omega)
      have hwr := HKr.out.size
      go_wp2_with (at_make; (refine wpList_make_full _ rfl _ _ 86 rfl 0 4 i0 (.bool false) 1 Try.underlying86 hi hz0 hz1 .i64 .i64 _ _ 4096 rfl rfl (by first | rfl | simp) (by first | rfl | simp) (by rw [hz2]; decide) (by decide) (Nat.zero_le _) ?_); intro w5 hown5 hgrow5; have HB5 := (show Hid (Blk w5 wr.heap.size 4 ((List.replicate 4096 false).map Value.bool)) from (by have h := owns_blk hown5; rw [made_bools 4096] at h; exact h)); have HK5 := (show Hid (Same wr w5) from Kept.of_grown hgrow5 (fun k e => by cases e)); clear hown5 hgrow5)
      obtain ⟨go, hgo⟩ : ∃ go, wr.heap.size = go := ⟨_, rfl⟩
      rw [hgo] at HB5 ⊢
      have hgo2 : g < go := by omega
      have HR5 := (show Hid (Rows2 w5 g sl) from HR4.out.kept (HKr.out.trans HK5.out) id)
      have HKw5 := (show Hid (Same w w5) from HK4.out.trans (HKr.out.trans HK5.out))
      have hgw : w.heap.size ≤ go := by have := HK4.out.size; omega
      clear hgo hwr HAl HR4 HKr HK5
      go_loopw [11, 12] (fun i _ wq => ∃ (k : Nat) (os : List Bool), k ≤ 32 ∧ i = .int .i64 k ∧ Hid (os.length = 4096) ∧ Hid (Blk wq go 4 (os.map Value.bool)) ∧ Hid (∀ p < 4096, os.getD p false = true ↔ ∃ m < k, inSlot sl m p) ∧ Hid (∀ i < k, ∀ j < i, shareAt sl i j = false) ∧ Hid (Kept (fun b => b = go) w5 wq)) (fun i _ _ => 32 - (intOf i).toNat)
      case atStart =>
       refine ⟨0, _, by omega, rfl, List.length_replicate, HB5, ?_, fun i hi => by omega, Kept.refl _ _⟩
       intro p hp
       constructor
       ·intro h
        simp only [List.getD, List.getElem?_replicate, hp, if_true, Option.getD_some] at h
        cases h
       ·rintro ⟨m, hm, _⟩
        omega
      case round =>
       obtain ⟨k, os, hk, rfl, HLo, HBo2, HOw, HSh, HKq⟩ := hrel
       by_cases hlt : k < 32
       ·have hk2 : (k : Int) < 32 := by omega
        have c0 := (HR5.out.kept HKq.out (by omega)).at0 k hlt
        have c1 := (HR5.out.kept HKq.out (by omega)).at1 k hlt
        obtain ⟨hx0, hy0, hxy⟩ := HIn.out k hlt
        have HSk := (show Hid (∀ p, inSlot sl k p ↔ sl.getD (2 * k) 0 ≤ (p : Int) ∧ (p : Int) < sl.getD (2 * k) 0 + sl.getD (2 * k + 1) 0) from fun p => Iff.rfl)
        obtain ⟨x, hxe⟩ : ∃ x0 : Nat, sl.getD (2 * k) 0 = x0 := ⟨(sl.getD (2 * k) 0).toNat, by omega⟩
        obtain ⟨y, hye⟩ : ∃ y0 : Nat, sl.getD (2 * k + 1) 0 = y0 := ⟨(sl.getD (2 * k + 1) 0).toNat, by omega⟩
        have HXY := (show Hid (sl.getD (2 * k) 0 = (x : Int) ∧ sl.getD (2 * k + 1) 0 = (y : Int)) from ⟨hxe, hye⟩)
        rw [hxe, hye] at hxy HSk
        rw [hxe] at c0 hx0
        rw [hye] at c1 hy0
        clear hxe hye
        go_wp2_with fail
        go_loopw [12] (fun q wi => ∃ (q0 : Nat) (os' : List Bool), x ≤ q0 ∧ q0 ≤ x + y ∧ q = .int .i64 q0 ∧ Hid (os'.length = 4096) ∧ Hid (Blk wi go 4 (os'.map Value.bool)) ∧ Hid (∀ p < 4096, os'.getD p false = true ↔ (∃ m < k, inSlot sl m p) ∨ (x ≤ p ∧ p < q0)) ∧ Hid (∀ p, x ≤ p → p < q0 → ¬ ∃ m < k, inSlot sl m p) ∧ Hid (Kept (fun b => b = go) w5 wi)) (fun q _ => x + y - (intOf q).toNat)
        case atStart =>
         refine ⟨x, os, by omega, by omega, rfl, HLo, HBo2, fun p hp => ?_, fun p h1 h2 => by omega, HKq⟩
         rw [HOw.out p hp]
         constructor
         ·exact .inl
         ·rintro (h | h)
          ·exact h
          ·omega
        case round =>
         obtain ⟨q, os', hq1, hq2, rfl, HL', HB', HO', HN', HK'⟩ := hrel
         have d0 := (HR5.out.kept HK'.out (by omega)).at0 k hlt
         have d1 := (HR5.out.kept HK'.out (by omega)).at1 k hlt
         have HSq := (show Hid (sl.getD (2 * k) 0 = (x : Int) ∧ sl.getD (2 * k + 1) 0 = (y : Int)) from HXY.out)
         rw [HSq.out.1] at d0
         rw [HSq.out.2] at d1
         by_cases hql : q < x + y
         ·have hq3 : (q : Int) < (x : Int) + (y : Int) := by omega
          have hq4 : (q : Int) < 4096 := by omega
          have hqn : q < 4096 := by omega
          have f1 := HB'.out.frozen q
          have c9 := HB'.out.cell q
          have e9 : (os'.map Value.bool)[q]? = some (.bool (os'.getD q false)) := by simp [List.getD, List.getElem?_eq_getElem (show q < os'.length by rw [HL'.out]; exact hqn)]
          rw [e9] at c9
          clear e9
          by_cases ho : os'.getD q false = true
          ·rw [ho] at c9
           have hin := (HO'.out q hqn).1 ho
           obtain ⟨m, hm, him⟩ : ∃ m < k, inSlot sl m q := by
            rcases hin with h | h
            ·exact h
            ·omega
           obtain rfl : F = 6 := by
            have h := HF4.out
            rw [share_yes sl k m hlt hm (share_of_in sl k m q ((HSk.out q).2 ⟨by omega, by omega⟩) him), if_pos rfl] at h
            exact h
           clear HF4 hin him
           go_wp2
           go_quiet (fail)
           go_wp2
           go_ret
           exact ⟨rfl, (HKw5.out.next HK'.out (fun i hi e => by omega)).drewN _⟩
          ·have hof : os'.getD q false = false := by simpa using ho
           rw [hof] at c9
           have hni : ¬ ∃ m < k, inSlot sl m q := fun h => ho ((HO'.out q hqn).2 (.inl h))
           have HNi := (show Hid (¬ ∃ m < k, inSlot sl m q) from hni)
           clear ho hof hni
           go_wp2
           go_quiet (fail)
           go_wp2
           go_roundw
           case rel =>
            refine ⟨q + 1, os'.set q true, by omega, by omega, by go_num, by rw [List.length_set]; exact HL'.out, ?_, fun p hp => ?_, fun p h1 h2 => ?_, ?_⟩
            ·rw [List.map_set]
             first
              | exact (HB'.out.same ((Kept.refl _ _).drewN _)).stored q (.bool true)
              | exact (HB'.out.stored q (.bool true)).same ((Kept.refl _ _).drewN _)
            ·by_cases e : p = q
             ·subst e
              simp only [List.getD, List.getElem?_set, HL'.out, hp, if_true, Option.getD_some, true_iff]
              exact .inr ⟨by omega, by omega⟩
             ·have hg : (os'.set q true).getD p false = os'.getD p false := by simp [List.getD, List.getElem?_set_ne (show q ≠ p from fun h => e h.symm)]
              rw [hg, HO'.out p hp]
              constructor
              ·rintro (h | h)
               ·exact .inl h
               ·exact .inr ⟨h.1, by omega⟩
              ·rintro (h | h)
               ·exact .inl h
               ·exact .inr ⟨h.1, by omega⟩
            ·by_cases e : p = q
             ·rw [e]; exact HNi.out
             ·exact HN'.out p h1 (by omega)
            ·first
              | exact Kept.setCell (R := fun b => b = go) (HK'.out.drewN _) (.inr rfl) _
              | exact (Kept.setCell (R := fun b => b = go) HK'.out (.inr rfl) _).drewN _
           case measure => simp [intOf]; omega
         ·obtain rfl : q = x + y := by omega
          have hq3 : ¬ ((x + y : Nat) : Int) < (x : Int) + (y : Int) := by omega
          go_wp2
          go_quiet (fail)
          go_wp2
          go_roundw
          case rel =>
           refine ⟨k + 1, os', by omega, by go_num, HL', ?_, fun p hp => ?_, fun i hi j hj => ?_, HK'.out.drewN _⟩
           ·exact HB'.out.same ((Kept.refl _ _).drewN _)
           ·rw [HO'.out p hp]
            constructor
            ·rintro (⟨m, hm, h⟩ | h)
             ·exact ⟨m, by omega, h⟩
             ·exact ⟨k, by omega, (HSk.out p).2 ⟨by omega, by omega⟩⟩
            ·rintro ⟨m, hm, h⟩
             by_cases e : m = k
             ·rw [e] at h
              have := (HSk.out p).1 h
              exact .inr ⟨by omega, by omega⟩
             ·exact .inl ⟨m, by omega, h⟩
           ·by_cases e : i = k
            ·rw [e] at hj ⊢
             rw [← Bool.not_eq_true]
             intro hs
             obtain ⟨p, h1, h2⟩ := in_of_share sl k j (HIn.out k hlt).1 (HIn.out j (by omega)).1 hs
             have h3 := (HSk.out p).1 h1
             exact HN'.out p (by omega) (by omega) ⟨j, hj, h2⟩
            ·exact HSh.out i (by omega) j hj
          case measure => simp [intOf]; omega
       ·obtain rfl : k = 32 := by omega
        obtain rfl : F = 0 := by have h := HF4.out; rw [share_no sl HSh.out, if_neg (by decide)] at h; exact h
        clear HF4
        go_wp2
        go_ret
        exact ⟨rfl, HKw5.out.next HKq.out (fun i hi e => by omega)⟩
   ·obtain rfl : F = 3 := by have h := HF.out; rw [if_pos (by simp [a4])] at h; exact h
    have b3 : (r18 != 0) = false := by simp [a3]
    have b4 : (r19 != 0) = true := by simp [a4]
    clear HF a3 a4
    go_wp2
    go_ret
    exact ⟨rfl, HK2.out⟩
  ·obtain rfl : F = 3 := by have h := HF.out; rw [if_pos (by simp [a3])] at h; exact h
   have b3 : (r18 != 0) = true := by simp [a3]
   clear HF a3
   go_wp2
   go_ret
   exact ⟨rfl, HK2.out⟩
 ·have h2b : (num != number) = true := by simp [h2]
  obtain rfl : F = 2 := by have h := HF.out; rw [if_pos h2] at h; exact h
  clear HF h2
  go_enter Try.func31, Try.ntmps31
  go_wp2_with (go_at_call 54; refine hn4.mono ?_; rintro e w1 ⟨rfl, hk1⟩; clear hn4)
  go_ret
  exact ⟨rfl, hk1⟩
theorem specFault_any (v : Value) (raw : List Int) (number : Int) (w : World) (hB : IsB raw) (hn : raw.length ≤ 1099511627776) (hv : Rd .u8 w v raw) :
  Calls Try.prog 31 #[v, .int .i64 number] w fun e w' => e = .returned (.int .i64 (pageFault raw number)) ∧ Same w w' := by
 obtain ⟨a, c, rfl⟩ := hv.form
 by_cases hl : raw.length = 4096
 ·obtain ⟨b, off, rfl, hc⟩ := rd_some hv (by omega)
  rw [hl] at hv ⊢
  exact specFault_yes b off c raw number w hB hl hv
 ·have hR : pageFault raw number = 1 := by unfold pageFault; rw [if_pos hl]
  rw [hR]
  have hl' : ¬ (raw.length : Int) = 4096 := by omega
  clear hv hB
  go_enter Try.func31, Try.ntmps31
  go_wp2
  go_ret
  exact ⟨rfl, Kept.refl _ _⟩
theorem l1Copy_any (v : Value) (bs : List Int) (w : World) (hn : bs.length ≤ 1099511627776) (hv : Rd .u8 w v bs) :
  Calls Try.prog 78 #[v] w fun e w' => ∃ a n c, e = .returned (.slice a n c) ∧ Own 0 5 .u8 w' (.slice a n c) bs ∧ (∀ b, (Value.slice a n c).ownBlock = some b → w.heap.size ≤ b) ∧ Same w w' := by
 obtain ⟨i0, hi, hz0, hz1, hz2⟩ := info_parts Try.infoByte'
 rcases hv.2 with ⟨rfl, a, c, rfl, hac⟩ | ⟨b, off, c, rfl, _, hc⟩
 ·cases a with
  | none =>
   obtain rfl : c = 0 := hac rfl
   clear hv hn hac
   go_enter Try.func78, Try.ntmps78
   go_wp2_with (at_builtin; refine wpList_append_own_none rfl (.tmp 3) (.tmp 4) 22 rfl w.heap.size 5 i0 1 Try.underlying22 hi _ 0 [] rfl (World.ownsRow_made w #[] 0 (Nat.le_refl _) (by simp) (by simp)) rfl ?_)
   go_ret
   exact ⟨_, _, _, rfl, (World.ownsRow_made w #[] 0 (Nat.zero_le _) (by simp) (by simp)), fun b hb => by simp [Value.ownBlock] at hb; omega, (Kept.refl _ _).alloc _⟩
  | some ad =>
   clear hv hn hac
   go_enter Try.func78, Try.ntmps78
   go_wp2_with (at_builtin; refine wpList_append_own _ rfl (.tmp 3) (.tmp 4) 22 rfl w.heap.size 5 i0 (.int .u8 0) 1 1 Try.underlying22 hi hz0 hz1 hz2 rfl (by decide) (.slice (some ⟨w.heap.size, 0, none⟩) 0 0) 0 [] rfl (World.ownsRow_made w #[] 0 (Nat.le_refl _) (by simp) (by simp)) ad 0 c [] rfl rfl (fun j u h => by simp at h) (fun u h => by simp at h) (by simp) (by simp) (by simp) ?_; intro v' w1 hown1 hgrow1 _; have HF := (show Hid (Own w.heap.size 5 .u8 w1 v' []) from hown1); have HK : Hid (Same w w1) := ((Kept.refl _ _).alloc _).grown hgrow1 (fun k e => .inl (by simp [Value.ownBlock] at e; omega)); obtain ⟨aa, na, ca, rfl⟩ := slice_of_own HF.out; clear hown1 hgrow1)
   go_ret
   exact ⟨_, _, _, rfl, HF.out.mono (fun b _ => Nat.zero_le b), fun b hb => (HF.out.lt b hb).1, HK.out⟩
 ·have HC : Hid (∀ i, i < bs.length → (w.alloc (.cells #[] 5)).cell? ⟨b, off + i, none⟩ = some (.int .u8 (bs.getD i 0))) := fun i hi => ((Kept.refl (fun _ => False) w).alloc _).cellOf (hc i hi) id
  clear hv hc
  go_enter Try.func78, Try.ntmps78
  go_wp2_with (at_builtin; refine wpList_append_own _ rfl (.tmp 3) (.tmp 4) 22 rfl w.heap.size 5 i0 (.int .u8 0) 1 1 Try.underlying22 hi hz0 hz1 hz2 rfl (by decide) (.slice (some ⟨w.heap.size, 0, none⟩) 0 0) 0 [] rfl (World.ownsRow_made w #[] 0 (Nat.le_refl _) (by simp) (by simp)) ⟨b, off, none⟩ bs.length c (vals .u8 bs) rfl (by simp [vals_length]) (news_of HC.out) vals_one (by unfold maxLen; omega) (by omega) (by simp) ?_; intro v' w1 hown1 hgrow1 _; have HF := (show Hid (Own w.heap.size 5 .u8 w1 v' bs) from (by simpa [Own, Hid] using hown1)); have HK : Hid (Same w w1) := ((Kept.refl _ _).alloc _).grown hgrow1 (fun k e => .inl (by simp [Value.ownBlock] at e; omega)); obtain ⟨aa, na, ca, rfl⟩ := slice_of_own HF.out; clear hown1 hgrow1)
  go_ret
  exact ⟨_, _, _, rfl, HF.out.mono (fun b _ => Nat.zero_le b), fun b hb => (HF.out.lt b hb).1, HK.out⟩
theorem clone_any (v : Value) (bs : List Int) (w : World) (hn : bs.length ≤ 1099511627776) (hv : Rd .u8 w v bs) :
  Calls Try.prog 79 #[v] w fun e w' => ∃ a n c, e = .returned (.slice a n c) ∧ Own 0 5 .u8 w' (.slice a n c) bs ∧ (∀ b, (Value.slice a n c).ownBlock = some b → w.heap.size ≤ b) ∧ Same w w' := by
 obtain ⟨i0, hi, hz0, hz1, hz2⟩ := info_parts Try.infoByte'
 have hnil := fun (wx : World) (a : Option Addr) (n c : Nat) => Lib.run_eql_slice_nil (P := Try.prog) wx 22 5 a n c 0 0 Try.underlying22
 rcases hv.2 with ⟨rfl, a, c, rfl, hac⟩ | ⟨b, off, c, rfl, _, hc⟩
 ·cases a with
  | none =>
   obtain rfl : c = 0 := hac rfl
   clear hv hn hac
   go_enter Try.func79, Try.ntmps79
   go_wp2
   go_ret
   exact ⟨_, _, _, rfl, Own.nil _ _ _ _, fun b hb => by simp [Value.ownBlock] at hb, Kept.refl _ _⟩
  | some ad =>
   clear hv hn hac
   go_enter Try.func79, Try.ntmps79
   go_wp2_with (at_builtin; refine wpList_append_own _ rfl (.tmp 5) (.tmp 6) 22 rfl w.heap.size 5 i0 (.int .u8 0) 1 1 Try.underlying22 hi hz0 hz1 hz2 rfl (by decide) (.slice (some ⟨w.heap.size, 0, none⟩) 0 0) 0 [] rfl (World.ownsRow_made w #[] 0 (Nat.le_refl _) (by simp) (by simp)) ad 0 c [] rfl rfl (fun j u h => by simp at h) (fun u h => by simp at h) (by simp) (by simp) (by simp) ?_; intro v' w1 hown1 hgrow1 _; have HF := (show Hid (Own w.heap.size 5 .u8 w1 v' []) from hown1); have HK : Hid (Same w w1) := ((Kept.refl _ _).alloc _).grown hgrow1 (fun k e => .inl (by simp [Value.ownBlock] at e; omega)); obtain ⟨aa, na, ca, rfl⟩ := slice_of_own HF.out; clear hown1 hgrow1)
   go_ret
   exact ⟨_, _, _, rfl, HF.out.mono (fun b _ => Nat.zero_le b), fun b hb => (HF.out.lt b hb).1, HK.out⟩
 ·have HC : Hid (∀ i, i < bs.length → (w.alloc (.cells #[] 5)).cell? ⟨b, off + i, none⟩ = some (.int .u8 (bs.getD i 0))) := fun i hi => ((Kept.refl (fun _ => False) w).alloc _).cellOf (hc i hi) id
  clear hv hc
  go_enter Try.func79, Try.ntmps79
  go_wp2_with (at_builtin; refine wpList_append_own _ rfl (.tmp 5) (.tmp 6) 22 rfl w.heap.size 5 i0 (.int .u8 0) 1 1 Try.underlying22 hi hz0 hz1 hz2 rfl (by decide) (.slice (some ⟨w.heap.size, 0, none⟩) 0 0) 0 [] rfl (World.ownsRow_made w #[] 0 (Nat.le_refl _) (by simp) (by simp)) ⟨b, off, none⟩ bs.length c (vals .u8 bs) rfl (by simp [vals_length]) (news_of HC.out) vals_one (by unfold maxLen; omega) (by omega) (by simp) ?_; intro v' w1 hown1 hgrow1 _; have HF := (show Hid (Own w.heap.size 5 .u8 w1 v' bs) from (by simpa [Own, Hid] using hown1)); have HK : Hid (Same w w1) := ((Kept.refl _ _).alloc _).grown hgrow1 (fun k e => .inl (by simp [Value.ownBlock] at e; omega)); obtain ⟨aa, na, ca, rfl⟩ := slice_of_own HF.out; clear hown1 hgrow1)
  go_ret
  exact ⟨_, _, _, rfl, HF.out.mono (fun b _ => Nat.zero_le b), fun b hb => (HF.out.lt b hb).1, HK.out⟩
theorem isSlot_any (s : Int) (w : World) : Calls Try.prog 105 #[.int .i64 s] w fun e w' => e = .returned (.bool (decide (0 ≤ s) && decide (s < 32))) ∧ Same w w' := by
 by_cases h : 0 ≤ s
 ·by_cases h2 : s < 32
  ·have h2' : ¬ (32 ≤ s) := by omega
   go_enter Try.func105, Try.ntmps105
   go_wp2
   go_ret
   exact ⟨by simp [h, h2], Kept.refl _ _⟩
  ·have h2' : (32 ≤ s) := by omega
   go_enter Try.func105, Try.ntmps105
   go_wp2
   go_ret
   exact ⟨by simp [h, h2], Kept.refl _ _⟩
 ·go_enter Try.func105, Try.ntmps105
  go_wp2
  go_ret
  exact ⟨by rw [show decide (0 ≤ s) = false from by simp; omega]; rfl, Kept.refl _ _⟩
def isPageB (x : Int) : Bool := decide (0 ≤ x) && decide (x < 16)
set_option maxRecDepth 100000 in
theorem isPage_any (x : Int) (w : World) : Calls Try.prog 104 #[.int .i64 x] w fun e w' => e = .returned (.bool (isPageB x)) ∧ Same w w' := by
 unfold isPageB
 by_cases h : 0 ≤ x
 ·by_cases h2 : x < 16
  ·go_enter Try.func104, Try.ntmps104
   go_wp2
   go_ret
   exact ⟨by simp [h, h2], Kept.refl _ _⟩
  ·go_enter Try.func104, Try.ntmps104
   go_wp2
   go_ret
   exact ⟨by simp [h]; omega, Kept.refl _ _⟩
 ·go_enter Try.func104, Try.ntmps104
  go_wp2
  go_ret
  exact ⟨by rw [show decide (0 ≤ x) = false from by simp; omega]; rfl, Kept.refl _ _⟩
def isTxnB (x : Int) : Bool := decide (1 ≤ x) && decide (x ≤ 2147483647)
def isSlotB (x : Int) : Bool := decide (0 ≤ x) && decide (x < 32)
def fitsB (u : Bool) (n : Nat) : Bool := decide (n ≤ 1000) && (u || decide (n = 0))
def headF (txn prev : Int) : Int := if isTxnB txn = false then 3 else if isLSN prev = false then 4 else 0
def placeF (page slot : Int) : Int := if (isPageB page && isSlotB slot) = true then 0 else 5
def orF (a b c : Int) : Int := if a ≠ 0 then a else if b ≠ 0 then b else c
def updF (bu au : Bool) (bn an : Nat) : Int := if (fitsB bu bn && fitsB au an && (bu || au)) = true then 0 else 6
def undF (au : Bool) (an : Nat) (un : Int) : Int := if fitsB au an = false then 6 else if isLSN un = false then 7 else 0
theorem isTxn_any (x : Int) (w : World) : Calls Try.prog 101 #[.int .i64 x] w fun e w' => e = .returned (.bool (isTxnB x)) ∧ Same w w' := by
 unfold isTxnB
 by_cases h : 1 ≤ x
 ·by_cases h2 : x ≤ 2147483647
  ·go_enter Try.func101, Try.ntmps101
   go_wp2
   go_ret
   exact ⟨by simp [h, h2], Kept.refl _ _⟩
  ·go_enter Try.func101, Try.ntmps101
   go_wp2
   go_ret
   exact ⟨by simp [h]; omega, Kept.refl _ _⟩
 ·go_enter Try.func101, Try.ntmps101
  go_wp2
  go_ret
  exact ⟨by rw [show decide (1 ≤ x) = false from by simp; omega]; rfl, Kept.refl _ _⟩
theorem fits_any (u : Bool) (a : Option Addr) (n c : Nat) (w : World) (hn : n ≤ maxLen) : Calls Try.prog 110 #[.agg #[.bool u, .slice a n c]] w fun e w' => e = .returned (.bool (fitsB u n)) ∧ Same w w' := by
 unfold maxLen at hn
 unfold fitsB
 by_cases h : (n : Int) ≤ 1000
 ·have h1 : n ≤ 1000 := by omega
  cases u with
  | true =>
   go_enter Try.func110, Try.ntmps110
   go_wp2
   go_ret
   exact ⟨by simp [h1], (Kept.refl _ _).alloc _⟩
  | false =>
   by_cases h0 : n = 0
   ·subst h0
    go_enter Try.func110, Try.ntmps110
    go_wp2
    go_ret
    exact ⟨by simp, (Kept.refl _ _).alloc _⟩
   ·have h0' : ¬ (n : Int) = 0 := by omega
    go_enter Try.func110, Try.ntmps110
    go_wp2
    go_ret
    exact ⟨by simp [h0, h1], (Kept.refl _ _).alloc _⟩
 ·have h1 : ¬ n ≤ 1000 := by omega
  go_enter Try.func110, Try.ntmps110
  go_wp2
  go_ret
  exact ⟨by simp [h1], (Kept.refl _ _).alloc _⟩
theorem headFault_any (txn prev : Int) (w : World) : Calls Try.prog 100 #[.agg #[.int .i64 txn, .int .i64 prev]] w fun e w' => e = .returned (.int .i64 (headF txn prev)) ∧ Same w w' := by
 have h1 := fun wx => isTxn_any txn wx
 have h2 := fun wx => isLSN_any prev wx
 have hb := Blk.new w #[.int .i64 txn, .int .i64 prev] 75
 unfold headF
 cases e1 : isTxnB txn with
 | false =>
  rw [e1] at h1
  go_enter Try.func100, Try.ntmps100
  go_wp2_with (go_at_call 101; refine (h1 _).mono ?_; rintro e w1 ⟨rfl, hk1⟩; have c1 : w1.cell? ⟨w.heap.size, 1, none⟩ = some (.int .i64 prev) := (hb.same hk1).cell 1)
  go_ret
  exact ⟨rfl, ((Kept.refl _ _).alloc _).trans hk1⟩
 | true =>
  rw [e1] at h1
  cases e2 : isLSN prev with
  | false =>
   rw [e2] at h2
   go_enter Try.func100, Try.ntmps100
   go_wp2_with (first | (go_at_call 101; refine (h1 _).mono ?_; rintro e w1 ⟨rfl, hk1⟩; have c1 : w1.cell? ⟨w.heap.size, 1, none⟩ = some (.int .i64 prev) := (hb.same hk1).cell 1) | (go_at_call 102; refine (h2 _).mono ?_; rintro e w2 ⟨rfl, hk2⟩))
   go_ret
   exact ⟨rfl, (((Kept.refl _ _).alloc _).trans hk1).trans hk2⟩
  | true =>
   rw [e2] at h2
   go_enter Try.func100, Try.ntmps100
   go_wp2_with (first | (go_at_call 101; refine (h1 _).mono ?_; rintro e w1 ⟨rfl, hk1⟩; have c1 : w1.cell? ⟨w.heap.size, 1, none⟩ = some (.int .i64 prev) := (hb.same hk1).cell 1) | (go_at_call 102; refine (h2 _).mono ?_; rintro e w2 ⟨rfl, hk2⟩))
   go_ret
   exact ⟨rfl, (((Kept.refl _ _).alloc _).trans hk1).trans hk2⟩
theorem placeFault_any (page slot : Int) (w : World) : Calls Try.prog 103 #[.agg #[.int .i64 page, .int .i64 slot]] w fun e w' => e = .returned (.int .i64 (placeF page slot)) ∧ Same w w' := by
 have h1 := fun wx => isPage_any page wx
 have h2 : ∀ wx, Calls Try.prog 105 #[.int .i64 slot] wx fun e w' => e = .returned (.bool (isSlotB slot)) ∧ Same wx w' := fun wx => isSlot_any slot wx
 have hb := Blk.new w #[.int .i64 page, .int .i64 slot] 77
 unfold placeF
 cases e1 : isPageB page with
 | false =>
  rw [e1] at h1
  go_enter Try.func103, Try.ntmps103
  go_wp2_with (go_at_call 104; refine (h1 _).mono ?_; rintro e w1 ⟨rfl, hk1⟩; have c1 : w1.cell? ⟨w.heap.size, 1, none⟩ = some (.int .i64 slot) := (hb.same hk1).cell 1)
  go_ret
  exact ⟨rfl, ((Kept.refl _ _).alloc _).trans hk1⟩
 | true =>
  rw [e1] at h1
  cases e2 : isSlotB slot with
  | false =>
   rw [e2] at h2
   go_enter Try.func103, Try.ntmps103
   go_wp2_with (first | (go_at_call 104; refine (h1 _).mono ?_; rintro e w1 ⟨rfl, hk1⟩; have c1 : w1.cell? ⟨w.heap.size, 1, none⟩ = some (.int .i64 slot) := (hb.same hk1).cell 1) | (go_at_call 105; refine (h2 _).mono ?_; rintro e w2 ⟨rfl, hk2⟩))
   go_ret
   exact ⟨rfl, (((Kept.refl _ _).alloc _).trans hk1).trans hk2⟩
  | true =>
   rw [e2] at h2
   go_enter Try.func103, Try.ntmps103
   go_wp2_with (first | (go_at_call 104; refine (h1 _).mono ?_; rintro e w1 ⟨rfl, hk1⟩; have c1 : w1.cell? ⟨w.heap.size, 1, none⟩ = some (.int .i64 slot) := (hb.same hk1).cell 1) | (go_at_call 105; refine (h2 _).mono ?_; rintro e w2 ⟨rfl, hk2⟩))
   go_ret
   exact ⟨rfl, (((Kept.refl _ _).alloc _).trans hk1).trans hk2⟩
theorem cmpOr_any (g a b c : Int) (B : Nat) (w : World) (h0 : w.cell? ⟨B, 0, none⟩ = some (.int .i64 a)) (h1 : w.cell? ⟨B, 1, none⟩ = some (.int .i64 b)) (h2 : w.cell? ⟨B, 2, none⟩ = some (.int .i64 c)) :
  Calls Try.prog 111 #[.slice (some ⟨B, 0, none⟩) 3 3] w fun e w' => e = .returned (.int .i64 (orF a b c)) ∧ Same w w' := by
 unfold orF
 by_cases ha : a = 0
 ·subst ha
  by_cases hb : b = 0
  ·subst hb
   by_cases hc : c = 0
   ·subst hc
    go_enter Try.func111, Try.ntmps111
    go_wp2
    refine wp_loop_rounds 4 ?_
    rw [rounds_succ]
    go_wp2
    rw [rounds_succ]
    go_wp2
    rw [rounds_succ]
    go_wp2
    rw [rounds_succ]
    go_wp2
    go_ret
    exact ⟨by simp, Kept.refl _ _⟩
   ·go_enter Try.func111, Try.ntmps111
    go_wp2
    refine wp_loop_rounds 4 ?_
    rw [rounds_succ]
    go_wp2
    rw [rounds_succ]
    go_wp2
    rw [rounds_succ]
    go_wp2
    go_ret
    exact ⟨by simp, Kept.refl _ _⟩
  ·go_enter Try.func111, Try.ntmps111
   go_wp2
   refine wp_loop_rounds 4 ?_
   rw [rounds_succ]
   go_wp2
   rw [rounds_succ]
   go_wp2
   go_ret
   exact ⟨by simp [hb], Kept.refl _ _⟩
 ·go_enter Try.func111, Try.ntmps111
  go_wp2
  refine wp_loop_rounds 4 ?_
  rw [rounds_succ]
  go_wp2
  go_ret
  exact ⟨by simp [ha], Kept.refl _ _⟩
def inB (v a b : Int) : Bool := decide (a ≤ v) && decide (v ≤ b)
set_option maxRecDepth 100000 in
theorem l4In_any (v a b : Int) (w : World) : Calls Try.prog 27 #[.int .i64 v, .int .i64 a, .int .i64 b] w fun e w' => e = .returned (.bool (inB v a b)) ∧ Same w w' := by
 unfold inB
 by_cases h : a ≤ v
 ·by_cases h2 : v ≤ b
  ·go_enter Try.func27, Try.ntmps27
   go_wp2
   go_ret
   exact ⟨by simp [h, h2], Kept.refl _ _⟩
  ·go_enter Try.func27, Try.ntmps27
   go_wp2
   go_ret
   exact ⟨by simp [h]; try omega, Kept.refl _ _⟩
 ·go_enter Try.func27, Try.ntmps27
  go_wp2
  go_ret
  exact ⟨by rw [show decide (a ≤ v) = false from by simp; omega]; rfl, Kept.refl _ _⟩
def emptyB (u : Bool) (n : Nat) : Bool := !u && decide (n = 0)
set_option maxRecDepth 100000 in
theorem l4Empty_any (u : Bool) (a : Option Addr) (n c : Nat) (w : World) (hn : n ≤ maxLen) : Calls Try.prog 53 #[.agg #[.bool u, .slice a n c]] w fun e w' => e = .returned (.bool (emptyB u n)) ∧ Same w w' := by
 unfold maxLen at hn
 unfold emptyB
 cases u with
 | true =>
  go_enter Try.func53, Try.ntmps53
  go_wp2
  go_ret
  exact ⟨by simp, (Kept.refl _ _).alloc _⟩
 | false =>
  by_cases h0 : n = 0
  ·subst h0
   go_enter Try.func53, Try.ntmps53
   go_wp2
   go_ret
   exact ⟨by simp, (Kept.refl _ _).alloc _⟩
  ·have h0' : ¬ (n : Int) = 0 := by omega
   go_enter Try.func53, Try.ntmps53
   go_wp2
   go_ret
   exact ⟨by simp [h0], (Kept.refl _ _).alloc _⟩
set_option maxRecDepth 100000 in
theorem l4Slot_any (u : Bool) (a : Option Addr) (n c : Nat) (w : World) (hn : n ≤ maxLen) : Calls Try.prog 29 #[.agg #[.bool u, .slice a n c]] w fun e w' => e = .returned (.bool (fitsB u n)) ∧ Same w w' := by
 unfold maxLen at hn
 unfold fitsB
 by_cases h : (n : Int) ≤ 1000
 ·have h1 : n ≤ 1000 := by omega
  cases u with
  | true =>
   go_enter Try.func29, Try.ntmps29
   go_wp2
   go_ret
   exact ⟨by simp [h1], (Kept.refl _ _).alloc _⟩
  | false =>
   by_cases h0 : n = 0
   ·subst h0
    go_enter Try.func29, Try.ntmps29
    go_wp2
    go_ret
    exact ⟨by simp, (Kept.refl _ _).alloc _⟩
   ·have h0' : ¬ (n : Int) = 0 := by omega
    go_enter Try.func29, Try.ntmps29
    go_wp2
    go_ret
    exact ⟨by simp [h0, h1], (Kept.refl _ _).alloc _⟩
 ·have h1 : ¬ n ≤ 1000 := by omega
  go_enter Try.func29, Try.ntmps29
  go_wp2
  go_ret
  exact ⟨by simp [h1], (Kept.refl _ _).alloc _⟩
end Go.Proofs.Ytdgmecmkkddpeaa
