import Derived.Test.YtdgkidlpkhfbkaaG03
import Derived.Test.YtdgkidlpkhfbkaaG00
import Derived.Laws.AppendOwnNone
import Derived.Deep.DeepCutAuto
namespace Go.Proofs.Ytdgkidlpkhfbkaa
set_option maxRecDepth 100000
set_option maxHeartbeats 16000000
set_option linter.unusedVariables false
set_option linter.unusedSimpArgs false
open Go.RowKit
theorem l3Bottom_any (b off c : Nat) (raw : List Int) (w : World) (hB : IsB raw) (hl : raw.length = 4096) (hv : Rd .u8 w (.slice (some ⟨b, off, none⟩) 4096 c) raw) :
  Calls Try.prog 36 #[.slice (some ⟨b, off, none⟩) 4096 c] w fun e w' => e = .returned (.int .i64 (numAt raw 16 2)) ∧ Same w w' := by
 have h := l3Number_any b off 4096 c raw 16 2 w hB hl (by decide) (by decide) (by decide) hv
 go_enter Try.func36, Try.ntmps36
 go_wp2_with (go_at_call 41; refine h.mono ?_; rintro e w1 ⟨rfl, hk⟩)
 go_ret
 exact ⟨rfl, hk⟩
def inSlot (sl : List Int) (m p : Nat) : Prop := sl.getD (2 * m) 0 ≤ (p : Int) ∧ (p : Int) < sl.getD (2 * m) 0 + sl.getD (2 * m + 1) 0
theorem share_of_in (sl : List Int) (i j p : Nat) (h1 : inSlot sl i p) (h2 : inSlot sl j p) : shareAt sl i j = true := by
 unfold shareAt sharesB
 rw [decide_eq_true_eq]
 unfold inSlot at h1 h2
 omega
theorem in_of_share (sl : List Int) (i j : Nat) (h0 : 0 ≤ sl.getD (2 * i) 0) (h0' : 0 ≤ sl.getD (2 * j) 0) (h : shareAt sl i j = true) : ∃ p : Nat, inSlot sl i p ∧ inSlot sl j p := by
 unfold shareAt sharesB at h
 rw [decide_eq_true_eq] at h
 refine ⟨(max (sl.getD (2 * i) 0) (sl.getD (2 * j) 0)).toNat, ?_, ?_⟩ <;> unfold inSlot <;> omega
theorem not_astray (bot x y : Int) (h : astrayAt bot x y = false) : (x = 0 ∧ y = 0) ∨ (x ≠ 0 ∧ y ≤ 1000 ∧ bot ≤ x ∧ x + y ≤ 4096) := by
 unfold astrayAt at h
 simp at h
 by_cases hx : x = 0
 ·exact .inl ⟨hx, h.2 hx⟩
 ·exact .inr ⟨hx, by have := h.1 hx; omega⟩
theorem owns_blk {w : World} {base g n size : Nat} {e : TypeId} {xs : List Value} (h : w.ownsRow base e size (.slice (some ⟨g, 0, none⟩) n n) n xs) : Blk w g e xs := by
 rcases h.2 with ⟨h, _⟩ | ⟨g', cap, cur, h, _, hg, _, _, hs, ht⟩
 ·cases h
 ·cases h
  rw [List.take_of_length_le (by rw [Array.length_toList, hs]; exact Nat.le_refl _)] at ht
  unfold Blk
  rw [← ht]
  simpa using hg
theorem made_bools (n : Nat) : (madeCells (Value.bool false).cells (n * 1)).toList = (List.replicate n false).map Value.bool := by
 apply List.ext_getElem?
 intro j
 by_cases hj : j < n
 ·simp [madeCells, hj, Value.cells, Nat.mod_one]
 ·simp [madeCells, hj]
theorem infoBool : (Try.prog.info? 4).map (fun i => (i.zero, i.size, i.bytes)) = some (some (.bool false), 1, 1) := by kernel_rfl
structure Rows2 (w : World) (g : Nat) (sl : List Int) : Prop where
 at0 : ∀ k, k < 32 → w.cell? ⟨g, k * 2, none⟩ = some (.int .i64 (sl.getD (2 * k) 0))
 at1 : ∀ k, k < 32 → w.cell? ⟨g, k * 2 + 1, none⟩ = some (.int .i64 (sl.getD (2 * k + 1) 0))
theorem Rows2.kept {R : Nat → Prop} {w w' : World} {g : Nat} {sl : List Int} (h : Rows2 w g sl) (hk : Kept R w w') (hr : ¬ R g) : Rows2 w' g sl :=
 ⟨fun k hk' => hk.cellOf (h.at0 k hk') hr, fun k hk' => hk.cellOf (h.at1 k hk') hr⟩
theorem rows2_of {w : World} {g cap : Nat} {e : TypeId} {sl : List Int} (h : w.ownsRow 0 e 2 (.slice (some ⟨g, 0, none⟩) 32 cap) 32 (vals .i64 sl)) (hl : sl.length = 64) : Rows2 w g sl :=
 ⟨fun k hk => by rw [World.ownsRow.cellAt h _ (by omega), vals_at _ _ _ (by omega), Nat.mul_comm], fun k hk => by rw [World.ownsRow.cellAt h _ (by omega), vals_at _ _ _ (by omega), Nat.mul_comm]⟩
theorem specFault_yes (b off c : Nat) (raw : List Int) (number : Int) (w : World) (hB : IsB raw) (hl : raw.length = 4096) (hv : Rd .u8 w (.slice (some ⟨b, off, none⟩) 4096 c) raw) :
  Calls Try.prog 9 #[.slice (some ⟨b, off, none⟩) 4096 c, .int .i64 number] w fun e w' => e = .returned (.int .i64 (pageFault raw number)) ∧ Same w w' := by
 have HNu := (show Hid (∀ wx, Same w wx → ∀ o n : Nat, 1 ≤ n → o + n ≤ 4096 → Calls Try.prog 41 #[.slice (some ⟨b, off, none⟩) 4096 c, .int .i64 o, .int .i64 n] wx fun e w' => e = .returned (.int .i64 (numAt raw o n)) ∧ Same wx w') from fun wx h o n h1 ho =>
  l3Number_any b off 4096 c raw o n wx hB hl (by decide) h1 ho (hv.same h))
 have HBo := (show Hid (∀ wx, Same w wx → Calls Try.prog 36 #[.slice (some ⟨b, off, none⟩) 4096 c] wx fun e w' => e = .returned (.int .i64 (numAt raw 16 2)) ∧ Same wx w') from fun wx h => l3Bottom_any b off c raw wx hB hl (hv.same h))
 have HSl := (show Hid (_) from fun wx (h : Same w wx) => l3Slots_any b off c raw wx hB hl (hv.same h))
 have HSm := (show Hid (Small (slotsOf raw)) from slotsOf_small raw hB hl)
 have hcell : ∀ i, i < 4096 → w.cell? ⟨b, off + i, none⟩ = some (.int .u8 (raw.getD i 0)) := by
  rcases hv.2 with ⟨h0, _⟩ | ⟨b', o', c', e, _, hc⟩
  ·rw [h0] at hl; simp at hl
  ·simp only [Value.slice.injEq, Option.some.injEq, Addr.mk.injEq] at e
   obtain ⟨⟨rfl, rfl, _⟩, _, rfl⟩ := e
   intro i hi
   exact hc i (by omega)
 have q18 := hcell 18 (by decide)
 have q19 := hcell 19 (by decide)
 have HF := (show Hid (pageFault raw number = if numAt raw 12 4 ≠ number then 2 else if (decide (numAt raw 4 8 < 0) || decide (1099511627776 < numAt raw 4 8) || raw.getD 18 0 != 0 || raw.getD 19 0 != 0) = true then 3 else if numAt raw 16 2 < 148 ∨ 4096 < numAt raw 16 2 then 4 else if astray (numAt raw 16 2) (slotsOf raw) then 5 else if share (slotsOf raw) then 6 else 0) from
  (by unfold pageFault faultP; rw [if_neg (by simp [hl]), headBad_raw raw hB hl] : pageFault raw number = _))
 obtain ⟨F, hFe⟩ : ∃ F, pageFault raw number = F := ⟨_, rfl⟩
 rw [hFe] at HF ⊢
 have hn4 := HNu.out w (Kept.refl _ _) 12 4 (by decide) (by decide)
 have hn8 := fun wx h => HNu.out wx h 4 8 (by decide) (by decide)
 generalize numAt raw 12 4 = num at *
 generalize numAt raw 4 8 = lsn at *
 generalize numAt raw 16 2 = bot at *
 generalize raw.getD 18 0 = r18 at *
 generalize raw.getD 19 0 = r19 at *
 have hsl64 := slotsOf_length raw
 generalize slotsOf raw = sl at *
 clear hcell hFe hv hB HNu hl
 by_cases h2 : num = number
 ·have h5 := HF.out
  rw [if_neg (by simp [h2])] at h5
  have h2b : (num != number) = false := by simp [h2]
  clear HF h2
  go_enter Try.func9, Try.ntmps9
  have HF := (show Hid (F = _) from h5)
  clear h5
  go_upto_region 5 with (go_at_call 41; refine hn4.mono ?_; rintro e w1 ⟨rfl, hk1⟩; have hn8' := hn8 w1 hk1; clear hn4 hn8)
  go_wp2_with fail
  refine hn8'.mono ?_
  rintro e w2 ⟨rfl, hk2⟩
  have HK2 := hid (hk1.trans hk2)
  have k18 := HK2.out.cellOf q18 id
  have k19 := HK2.out.cellOf q19 id
  clear hn8' hk1 hk2 q18 q19
  by_cases a1 : lsn < 0
  ·obtain rfl : F = 3 := by have h := HF.out; rw [if_pos (by simp [a1])] at h; exact h
   clear HF
   go_wp2
   go_ret
   exact ⟨rfl, HK2.out⟩
  by_cases a2 : 1099511627776 < lsn
  ·obtain rfl : F = 3 := by have h := HF.out; rw [if_pos (by simp [a2])] at h; exact h
   clear HF
   go_wp2
   go_ret
   exact ⟨rfl, HK2.out⟩
  by_cases a3 : r18 = 0
  ·by_cases a4 : r19 = 0
   ·have HF2 := (show Hid (F = if bot < 148 ∨ 4096 < bot then 4 else if astray bot sl then 5 else if share sl then 6 else 0) from (by have h := HF.out; rw [if_neg (by simp [a1, a2, a3, a4] <;> omega)] at h; exact h : F = _))
    have b3 : (r18 != 0) = false := by simp [a3]
    have b4 : (r19 != 0) = false := by simp [a4]
    have hbo := HBo.out w2 HK2.out
    clear HF a3 a4
    by_cases a5 : bot < 148
    ·obtain rfl : F = 4 := by have h := HF2.out; rw [if_pos (.inl a5)] at h; exact h
     clear HF2
     go_wp2_with (go_at_call 36; refine hbo.mono ?_; rintro e w3 ⟨rfl, hk3⟩; have HK3 := (show Hid (Same w w3) from HK2.out.trans hk3); have hsl := HSl.out w3 HK3.out; clear hk3 hbo)
     go_ret
     exact ⟨rfl, HK3.out⟩
    by_cases a6 : 4096 < bot
    ·obtain rfl : F = 4 := by have h := HF2.out; rw [if_pos (.inr a6)] at h; exact h
     clear HF2
     go_wp2_with (go_at_call 36; refine hbo.mono ?_; rintro e w3 ⟨rfl, hk3⟩; have HK3 := (show Hid (Same w w3) from HK2.out.trans hk3); have hsl := HSl.out w3 HK3.out; clear hk3 hbo)
     go_ret
     exact ⟨rfl, HK3.out⟩
    have HF3 := (show Hid (F = if astray bot sl then 5 else if share sl then 6 else 0) from (by have h := HF2.out; rw [if_neg (by omega)] at h; exact h : F = _))
    clear HF2
    go_wp2_with (first | (go_at_call 36; refine hbo.mono ?_; rintro e w3 ⟨rfl, hk3⟩; have HK3 := (show Hid (Same w w3) from HK2.out.trans hk3); have hsl := HSl.out w3 HK3.out; clear hk3 hbo) | (go_at_call 42; refine hsl.mono ?_; rintro e w4 ⟨g, cap, rfl, hg, hown, hk4⟩; have HK4 := (show Hid (Same w w4) from HK3.out.trans hk4); have HR4 := (show Hid (Rows2 w4 g sl) from rows2_of hown hsl64); have hgl := (World.ownsRow.lt hown g rfl).2; clear hk4 hown hsl))
    go_loopw [8, 9] (fun i _ wr => ∃ k : Nat, k ≤ 32 ∧ i = .int .i64 k ∧ Hid (∀ j < k, astrayAt bot (sl.getD (2 * j) 0) (sl.getD (2 * j + 1) 0) = false) ∧ Hid (Same w4 wr)) (fun i _ _ => 32 - (intOf i).toNat)
    case atStart => exact ⟨0, by omega, rfl, fun j hj => by omega, Kept.refl _ _⟩
    case round =>
     obtain ⟨k, hk, rfl, HAl, HKr⟩ := hrel
     by_cases hlt : k < 32
     ·have hk2 : (k : Int) < 32 := by omega
      have c0 := (HR4.out.kept HKr.out id).at0 k hlt
      have c1 := (HR4.out.kept HKr.out id).at1 k hlt
      have hxb := HSm.out.at (2 * k)
      have hyb := HSm.out.at (2 * k + 1)
      have HYes := (show Hid (astrayAt bot (sl.getD (2 * k) 0) (sl.getD (2 * k + 1) 0) = true → F = 5) from fun h => by rw [HF3.out, astray_yes bot sl k hlt h, if_pos rfl])
      have HNo := (show Hid (astrayAt bot (sl.getD (2 * k) 0) (sl.getD (2 * k + 1) 0) = false → ∀ j < k + 1, astrayAt bot (sl.getD (2 * j) 0) (sl.getD (2 * j + 1) 0) = false) from fun h j hj => by
       by_cases e : j = k
       ·rw [e]; exact h
       ·exact HAl.out j (by omega))
      generalize sl.getD (2 * k) 0 = x at *
      generalize sl.getD (2 * k + 1) 0 = y at *
      by_cases hx0 : x = 0
      ·have hx0b : (x != 0) = false := by rw [hx0]; rfl
       have hx0e : (x == 0) = true := by rw [hx0]; rfl
       by_cases hy0 : y = 0
       ·have hAt : astrayAt bot x y = false := by simp [astrayAt, hx0, hy0]
        have hyb0 : (y != 0) = false := by rw [hy0]; rfl
        clear hx0 hy0
        go_wp2
        go_roundw
        case rel => exact ⟨k + 1, by omega, by go_num, HNo.out hAt, HKr.out.alloc _⟩
        case measure => simp [intOf]; omega
       ·have hAt : astrayAt bot x y = true := by simp [astrayAt, hx0, hy0]
        have hyb0 : (y != 0) = true := by simp [hy0]
        obtain rfl := HYes.out hAt
        clear hx0 hy0 HF3
        go_wp2
        go_ret
        exact ⟨rfl, HK4.out.trans (HKr.out.alloc _)⟩
      ·have hx0b : (x != 0) = true := by simp [hx0]
       have hx0e : (x == 0) = false := by simp [hx0]
       by_cases hL : 1000 < y
       ·have hAt : astrayAt bot x y = true := by simp [astrayAt, hx0, hL]
        obtain rfl := HYes.out hAt
        clear HF3
        go_wp2
        go_ret
        exact ⟨rfl, HK4.out.trans (HKr.out.alloc _)⟩
       ·by_cases hO : x < bot
        ·have hAt : astrayAt bot x y = true := by simp [astrayAt, hx0, hO]
         obtain rfl := HYes.out hAt
         clear HF3
         go_wp2
         go_ret
         exact ⟨rfl, HK4.out.trans (HKr.out.alloc _)⟩
        ·by_cases hE : 4096 < x + y
         ·have hAt : astrayAt bot x y = true := by simp [astrayAt, hx0, hE]
          obtain rfl := HYes.out hAt
          clear HF3
          go_wp2
          go_ret
          exact ⟨rfl, HK4.out.trans (HKr.out.alloc _)⟩
         ·have hAt : astrayAt bot x y = false := by simp [astrayAt, hx0]; omega
          go_wp2
          go_roundw
          case rel => exact ⟨k + 1, by omega, by go_num, HNo.out hAt, HKr.out.alloc _⟩
          case measure => simp [intOf]; omega
     ·obtain rfl : k = 32 := by omega
      have HF4 := (show Hid (F = if share sl then 6 else 0) from (by have h := HF3.out; rw [astray_no bot sl HAl.out, if_neg (by decide)] at h; exact h : F = _))
      clear HF3
      obtain ⟨i0, hi, hz0, hz1, hz2⟩ := info_parts infoBool
      have HIn := (show Hid (∀ m < 32, 0 ≤ sl.getD (2 * m) 0 ∧ 0 ≤ sl.getD (2 * m + 1) 0 ∧ sl.getD (2 * m) 0 + sl.getD (2 * m + 1) 0 ≤ 4096) from fun m hm => by
       have h0 := HSm.out.at (2 * m)
       have h1 := HSm.out.at (2 * m + 1)
       rcases not_astray _ _ _ (HAl.out m hm) with h | h <;> omega)
      have hwr := HKr.out.size
      go_wp2_with (at_make; (refine wpList_make_full _ rfl _ _ 63 rfl 0 4 i0 (.bool false) 1 Try.underlying63 hi hz0 hz1 .i64 .i64 _ _ 4096 rfl rfl (by first | rfl | simp) (by first | rfl | simp) (by rw [hz2]; decide) (by decide) (Nat.zero_le _) ?_); intro w5 hown5 hgrow5; have HB5 := (show Hid (Blk w5 wr.heap.size 4 ((List.replicate 4096 false).map Value.bool)) from (by have h := owns_blk hown5; rw [made_bools 4096] at h; exact h)); have HK5 := (show Hid (Same wr w5) from Kept.of_grown hgrow5 (fun k e => by cases e)); clear hown5 hgrow5)
      obtain ⟨go, hgo⟩ : ∃ go, wr.heap.size = go := ⟨_, rfl⟩
      rw [hgo] at HB5 ⊢
      have hgo2 : g < go := by omega
      have HR5 := (show Hid (Rows2 w5 g sl) from HR4.out.kept (HKr.out.trans HK5.out) id)
      have HKw5 := (show Hid (Same w w5) from HK4.out.trans (HKr.out.trans HK5.out))
      have hgw : w.heap.size ≤ go := by have := HK4.out.size; omega
      clear hgo hwr HAl HR4 HKr HK5
      go_loopw [11, 12] (fun i _ wq => ∃ (k : Nat) (os : List Bool), k ≤ 32 ∧ i = .int .i64 k ∧ Hid (os.length = 4096) ∧ Hid (Blk wq go 4 (os.map Value.bool)) ∧ Hid (∀ p < 4096, os.getD p false = true ↔ ∃ m < k, inSlot sl m p) ∧ Hid (∀ i < k, ∀ j < i, shareAt sl i j = false) ∧ Hid (Kept (fun b => b = go) w5 wq)) (fun i _ _ => 32 - (intOf i).toNat)
      case atStart =>
       refine ⟨0, _, by omega, rfl, List.length_replicate, HB5, ?_, fun i hi => by omega, Kept.refl _ _⟩
       intro p hp
       constructor
       ·intro h
        simp only [List.getD, List.getElem?_replicate, hp, if_true, Option.getD_some] at h
        cases h
       ·rintro ⟨m, hm, _⟩
        omega
      case round =>
       obtain ⟨k, os, hk, rfl, HLo, HBo2, HOw, HSh, HKq⟩ := hrel
       by_cases hlt : k < 32
       ·have hk2 : (k : Int) < 32 := by omega
        have c0 := (HR5.out.kept HKq.out (by omega)).at0 k hlt
        have c1 := (HR5.out.kept HKq.out (by omega)).at1 k hlt
        obtain ⟨hx0, hy0, hxy⟩ := HIn.out k hlt
        have HSk := (show Hid (∀ p, inSlot sl k p ↔ sl.getD (2 * k) 0 ≤ (p : Int) ∧ (p : Int) < sl.getD (2 * k) 0 + sl.getD (2 * k + 1) 0) from fun p => Iff.rfl)
        obtain ⟨x, hxe⟩ : ∃ x0 : Nat, sl.getD (2 * k) 0 = x0 := ⟨(sl.getD (2 * k) 0).toNat, by omega⟩
        obtain ⟨y, hye⟩ : ∃ y0 : Nat, sl.getD (2 * k + 1) 0 = y0 := ⟨(sl.getD (2 * k + 1) 0).toNat, by omega⟩
        have HXY := (show Hid (sl.getD (2 * k) 0 = (x : Int) ∧ sl.getD (2 * k + 1) 0 = (y : Int)) from ⟨hxe, hye⟩)
        rw [hxe, hye] at hxy HSk
        rw [hxe] at c0 hx0
        rw [hye] at c1 hy0
        clear hxe hye
        go_wp2_with fail
        go_loopw [12] (fun q wi => ∃ (q0 : Nat) (os' : List Bool), x ≤ q0 ∧ q0 ≤ x + y ∧ q = .int .i64 q0 ∧ Hid (os'.length = 4096) ∧ Hid (Blk wi go 4 (os'.map Value.bool)) ∧ Hid (∀ p < 4096, os'.getD p false = true ↔ (∃ m < k, inSlot sl m p) ∨ (x ≤ p ∧ p < q0)) ∧ Hid (∀ p, x ≤ p → p < q0 → ¬ ∃ m < k, inSlot sl m p) ∧ Hid (Kept (fun b => b = go) w5 wi)) (fun q _ => x + y - (intOf q).toNat)
        case atStart =>
         refine ⟨x, os, by omega, by omega, rfl, HLo, HBo2, fun p hp => ?_, fun p h1 h2 => by omega, HKq⟩
         rw [HOw.out p hp]
         constructor
         ·exact .inl
         ·rintro (h | h)
          ·exact h
          ·omega
        case round =>
         obtain ⟨q, os', hq1, hq2, rfl, HL', HB', HO', HN', HK'⟩ := hrel
         have d0 := (HR5.out.kept HK'.out (by omega)).at0 k hlt
         have d1 := (HR5.out.kept HK'.out (by omega)).at1 k hlt
         have HSq := (show Hid (sl.getD (2 * k) 0 = (x : Int) ∧ sl.getD (2 * k + 1) 0 = (y : Int)) from HXY.out)
         rw [HSq.out.1] at d0
         rw [HSq.out.2] at d1
         by_cases hql : q < x + y
         ·have hq3 : (q : Int) < (x : Int) + (y : Int) := by omega
          have hq4 : (q : Int) < 4096 := by omega
          have hqn : q < 4096 := by omega
          have f1 := HB'.out.frozen q
          have c9 := HB'.out.cell q
          have e9 : (os'.map Value.bool)[q]? = some (.bool (os'.getD q false)) := by simp [List.getD, List.getElem?_eq_getElem (show q < os'.length by rw [HL'.out]; exact hqn)]
          rw [e9] at c9
          clear e9
          by_cases ho : os'.getD q false = true
          ·rw [ho] at c9
           have hin := (HO'.out q hqn).1 ho
           obtain ⟨m, hm, him⟩ : ∃ m < k, inSlot sl m q := by
            rcases hin with h | h
            ·exact h
            ·omega
           obtain rfl : F = 6 := by
            have h := HF4.out
            rw [share_yes sl k m hlt hm (share_of_in sl k m q ((HSk.out q).2 ⟨by omega, by omega⟩) him), if_pos rfl] at h
            exact h
           clear HF4 hin him
           go_wp2
           go_quiet (fail)
           go_wp2
           go_ret
           exact ⟨rfl, (HKw5.out.next HK'.out (fun i hi e => by omega)).drewN _⟩
          ·have hof : os'.getD q false = false := by simpa using ho
           rw [hof] at c9
           have hni : ¬ ∃ m < k, inSlot sl m q := fun h => ho ((HO'.out q hqn).2 (.inl h))
           have HNi := (show Hid (¬ ∃ m < k, inSlot sl m q) from hni)
           clear ho hof hni
           go_wp2
           go_quiet (fail)
           go_wp2
           go_roundw
           case rel =>
            refine ⟨q + 1, os'.set q true, by omega, by omega, by go_num, by rw [List.length_set]; exact HL'.out, ?_, fun p hp => ?_, fun p h1 h2 => ?_, ?_⟩
            ·rw [List.map_set]
             first
              | exact (HB'.out.same ((Kept.refl _ _).drewN _)).stored q (.bool true)
              | exact (HB'.out.stored q (.bool true)).same ((Kept.refl _ _).drewN _)
            ·by_cases e : p = q
             ·subst e
              simp only [List.getD, List.getElem?_set, HL'.out, hp, if_true, Option.getD_some, true_iff]
              exact .inr ⟨by omega, by omega⟩
             ·have hg : (os'.set q true).getD p false = os'.getD p false := by simp [List.getD, List.getElem?_set_ne (show q ≠ p from fun h => e h.symm)]
              rw [hg, HO'.out p hp]
              constructor
              ·rintro (h | h)
               ·exact .inl h
               ·exact .inr ⟨h.1, by omega⟩
              ·rintro (h | h)
               ·exact .inl h
               ·exact .inr ⟨h.1, by omega⟩
            ·by_cases e : p = q
             ·rw [e]; exact HNi.out
             ·exact HN'.out p h1 (by omega)
            ·first
              | exact Kept.setCell (R := fun b => b = go) (HK'.out.drewN _) (.inr rfl) _
              | exact (Kept.setCell (R := fun b => b = go) HK'.out (.inr rfl) _).drewN _
           case measure => simp [intOf]; omega
         ·obtain rfl : q = x + y := by omega
          have hq3 : ¬ ((x + y : Nat) : Int) < (x : Int) + (y : Int) := by omega
          go_wp2
          go_quiet (fail)
          go_wp2
          go_roundw
          case rel =>
           refine ⟨k + 1, os', by omega, by go_num, HL', ?_, fun p hp => ?_, fun i hi j hj => ?_, HK'.out.drewN _⟩
           ·exact HB'.out.same ((Kept.refl _ _).drewN _)
           ·rw [HO'.out p hp]
            constructor
            ·rintro (⟨m, hm, h⟩ | h)
             ·exact ⟨m, by omega, h⟩
             ·exact ⟨k, by omega, (HSk.out p).2 ⟨by omega, by omega⟩⟩
            ·rintro ⟨m, hm, h⟩
             by_cases e : m = k
             ·rw [e] at h
              have := (HSk.out p).1 h
              exact .inr ⟨by omega, by omega⟩
             ·exact .inl ⟨m, by omega, h⟩
           ·by_cases e : i = k
            ·rw [e] at hj ⊢
             rw [← Bool.not_eq_true]
             intro hs
             obtain ⟨p, h1, h2⟩ := in_of_share sl k j (HIn.out k hlt).1 (HIn.out j (by omega)).1 hs
             have h3 := (HSk.out p).1 h1
             exact HN'.out p (by omega) (by omega) ⟨j, hj, h2⟩
            ·exact HSh.out i (by omega) j hj
          case measure => simp [intOf]; omega
       ·obtain rfl : k = 32 := by omega
        obtain rfl : F = 0 := by have h := HF4.out; rw [share_no sl HSh.out, if_neg (by decide)] at h; exact h
        clear HF4
        go_wp2
        go_ret
        exact ⟨rfl, HKw5.out.next HKq.out (fun i hi e => by omega)⟩
   ·obtain rfl : F = 3 := by have h := HF.out; rw [if_pos (by simp [a4])] at h; exact h
    have b3 : (r18 != 0) = false := by simp [a3]
    have b4 : (r19 != 0) = true := by simp [a4]
    clear HF a3 a4
    go_wp2
    go_ret
    exact ⟨rfl, HK2.out⟩
  ·obtain rfl : F = 3 := by have h := HF.out; rw [if_pos (by simp [a3])] at h; exact h
   have b3 : (r18 != 0) = true := by simp [a3]
   clear HF a3
   go_wp2
   go_ret
   exact ⟨rfl, HK2.out⟩
 ·have h2b : (num != number) = true := by simp [h2]
  obtain rfl : F = 2 := by have h := HF.out; rw [if_pos h2] at h; exact h
  clear HF h2
  go_enter Try.func9, Try.ntmps9
  go_wp2_with (go_at_call 41; refine hn4.mono ?_; rintro e w1 ⟨rfl, hk1⟩; clear hn4)
  go_ret
  exact ⟨rfl, hk1⟩
theorem specFault_any (v : Value) (raw : List Int) (number : Int) (w : World) (hB : IsB raw) (hn : raw.length ≤ 1099511627776) (hv : Rd .u8 w v raw) :
  Calls Try.prog 9 #[v, .int .i64 number] w fun e w' => e = .returned (.int .i64 (pageFault raw number)) ∧ Same w w' := by
 obtain ⟨a, c, rfl⟩ := hv.form
 by_cases hl : raw.length = 4096
 ·obtain ⟨b, off, rfl, hc⟩ := rd_some hv (by omega)
  rw [hl] at hv ⊢
  exact specFault_yes b off c raw number w hB hl hv
 ·have hR : pageFault raw number = 1 := by unfold pageFault; rw [if_pos hl]
  rw [hR]
  have hl' : ¬ (raw.length : Int) = 4096 := by omega
  clear hv hB
  go_enter Try.func9, Try.ntmps9
  go_wp2
  go_ret
  exact ⟨rfl, Kept.refl _ _⟩
theorem wellFormed_any (v : Value) (raw : List Int) (w : World) (hB : IsB raw) (hn : raw.length ≤ 1099511627776) (hv : Rd .u8 w v raw) :
  Calls Try.prog 37 #[v] w fun e w' => Same w w' ∧ ((ownOK raw = true ∧ ∃ P, e = .returned (.pointer (some ⟨P, 0, none⟩)) ∧ w.heap.size ≤ P ∧ SP w' P (raw.take 4) (numAt raw 4 8) (numAt raw 12 4) (numAt raw 16 2) (slotsOf raw) raw) ∨
   (ownOK raw = false ∧ e = .returned (.pointer none))) := by
 obtain ⟨a, c, rfl⟩ := hv.form
 by_cases hl : raw.length = 4096
 ·have hR : ownOK raw = (faultP (raw.take 4) (numAt raw 4 8) (numAt raw 12 4) (numAt raw 16 2) (slotsOf raw) raw (numAt raw 12 4) == 0) := by unfold ownOK pageFault; rw [if_neg (by simp [hl]), hl]; rfl
  obtain ⟨b, off, rfl, hc⟩ := rd_some hv (by omega)
  have hrg := rd_range hv (by omega)
  have hI : (Try.prog.info? 55).map (·.size) = some (vals .u8 raw).length := by rw [vals_length, hl]; exact page_info
  have hT := takeApart_any raw w hB hl
  have hn12 := numAt_in raw hB 12 4 (by decide) (by decide) (by omega)
  have hn16 := numAt_in raw hB 16 2 (by decide) (by decide) (by omega)
  have hF := fun P wx (h : SP wx P (raw.take 4) (numAt raw 4 8) (numAt raw 12 4) (numAt raw 16 2) (slotsOf raw) raw) => fault_any P (raw.take 4) (numAt raw 4 8) (numAt raw 12 4) (numAt raw 16 2) (slotsOf raw) raw (numAt raw 12 4) wx h (slotsOf_small raw hB hl) ⟨hn12.1, by omega⟩ ⟨hn16.1, by omega⟩
  obtain ⟨F, hFe⟩ : ∃ F, faultP (raw.take 4) (numAt raw 4 8) (numAt raw 12 4) (numAt raw 16 2) (slotsOf raw) raw (numAt raw 12 4) = F := ⟨_, rfl⟩
  rw [hFe] at hF hR
  have HR := (show Hid (ownOK raw = (F == 0)) from hR)
  obtain ⟨cs, hcs⟩ : ∃ cs : List Value, vals .u8 raw = cs := ⟨_, rfl⟩
  rw [hcs] at hT hrg hI
  rw [hl]
  have harr := run_arrayP
  clear hcs hv hB hn hR hl hFe hn12 hn16
  go_enter Try.func37, Try.ntmps37
  go_upto_region 4 with (first
   | (go_at_call 49; refine hT.mono ?_; rintro e w1 ⟨P, rfl, hP, hsp, hk1⟩)
   | (refine wpList_load_mid rfl 55 _ rfl b off rfl cs _ hrg Try.underlying55 rfl hI ?_))
  have c5 := hsp.num3.2.1
  have HSP := (show Hid (SP w1 P (raw.take 4) (numAt raw 4 8) (numAt raw 12 4) (numAt raw 16 2) (slotsOf raw) raw) from hsp)
  have hc := hF P w1 hsp
  clear hF hT hsp
  by_cases h0 : F = 0
  ·subst h0
   go_wp2_with (go_at_call 50; refine hc.mono ?_; rintro e w2 ⟨rfl, hk2⟩)
   go_ret
   exact ⟨hk1.trans hk2, .inl ⟨HR.out, P, rfl, hP, HSP.out.same hk2⟩⟩
  ·have h0b : (F != 0) = true := by simp [h0]
   go_wp2_with (go_at_call 50; refine hc.mono ?_; rintro e w2 ⟨rfl, hk2⟩)
   go_ret
   exact ⟨hk1.trans hk2, .inr ⟨by rw [HR.out]; simp [h0], rfl⟩⟩
 ·have hR : ownOK raw = false := by unfold ownOK; simp [hl]
  have hl' : ¬ (raw.length : Int) = 4096 := by omega
  clear hv hB
  go_enter Try.func37, Try.ntmps37
  go_wp2
  go_ret
  exact ⟨Kept.refl _ _, .inr ⟨hR, rfl⟩⟩
theorem l3Own_any (v : Value) (raw : List Int) (w : World) (hB : IsB raw) (hn : raw.length ≤ 1099511627776) (hv : Rd .u8 w v raw) :
  Calls Try.prog 54 #[v] w fun e w' => e = .returned (.bool (ownOK raw)) ∧ Same w w' := by
 obtain ⟨a, c, rfl⟩ := hv.form
 by_cases hl : raw.length = 4096
 ·obtain ⟨b, off, rfl, hc⟩ := rd_some hv (by omega)
  have hR : ownOK raw = (pageFault raw (numAt raw 12 4) == 0) := by unfold ownOK; rw [hl]; rfl
  rw [hl] at hv ⊢
  have hN := l3Number_any b off 4096 c raw 12 4 w hB hl (by decide) (by decide) (by decide) hv
  have hF := fun wx (h : Same w wx) => specFault_any (.slice (some ⟨b, off, none⟩) 4096 c) raw (numAt raw 12 4) wx hB hn (hv.same h)
  rw [hR]
  have e12 : getN ((raw.drop 12).take 4) = numAt raw 12 4 := rfl
  rw [e12] at hN
  generalize pageFault raw (numAt raw 12 4) = F at *
  generalize numAt raw 12 4 = N at *
  clear hv hB hR e12
  go_enter Try.func54, Try.ntmps54
  go_wp2_with (first
   | (go_at_call 41; refine hN.mono ?_; rintro e w1 ⟨rfl, hk1⟩; have hF' := hF w1 hk1)
   | (go_at_call 9; refine hF'.mono ?_; rintro e w2 ⟨rfl, hk2⟩))
  go_ret
  exact ⟨rfl, hk1.trans hk2⟩
 ·have hR : ownOK raw = false := by unfold ownOK; simp [hl]
  rw [hR]
  have hl' : ¬ (raw.length : Int) = 4096 := by omega
  clear hv hB
  go_enter Try.func54, Try.ntmps54
  go_wp2
  go_ret
  exact ⟨rfl, Kept.refl _ _⟩
def usedN (sl : List Int) : Nat → Int
 | 0 => 0
 | k + 1 => usedN sl k + sl.getD (2 * k + 1) 0
theorem l1Copy_any (v : Value) (bs : List Int) (w : World) (hn : bs.length ≤ 1099511627776) (hv : Rd .u8 w v bs) :
  Calls Try.prog 56 #[v] w fun e w' => ∃ a n c, e = .returned (.slice a n c) ∧ Own 0 5 .u8 w' (.slice a n c) bs ∧ (∀ b, (Value.slice a n c).ownBlock = some b → w.heap.size ≤ b) ∧ Same w w' := by
 obtain ⟨i0, hi, hz0, hz1, hz2⟩ := info_parts Try.infoByte'
 rcases hv.2 with ⟨rfl, a, c, rfl, hac⟩ | ⟨b, off, c, rfl, _, hc⟩
 ·cases a with
  | none =>
   obtain rfl : c = 0 := hac rfl
   clear hv hn hac
   go_enter Try.func56, Try.ntmps56
   go_wp2_with (at_builtin; refine wpList_append_own_none rfl (.tmp 3) (.tmp 4) 22 rfl w.heap.size 5 i0 1 Try.underlying22 hi _ 0 [] rfl (World.ownsRow_made w #[] 0 (Nat.le_refl _) (by simp) (by simp)) rfl ?_)
   go_ret
   exact ⟨_, _, _, rfl, (World.ownsRow_made w #[] 0 (Nat.zero_le _) (by simp) (by simp)), fun b hb => by simp [Value.ownBlock] at hb; omega, (Kept.refl _ _).alloc _⟩
  | some ad =>
   clear hv hn hac
   go_enter Try.func56, Try.ntmps56
   go_wp2_with (at_builtin; refine wpList_append_own _ rfl (.tmp 3) (.tmp 4) 22 rfl w.heap.size 5 i0 (.int .u8 0) 1 1 Try.underlying22 hi hz0 hz1 hz2 rfl (by decide) (.slice (some ⟨w.heap.size, 0, none⟩) 0 0) 0 [] rfl (World.ownsRow_made w #[] 0 (Nat.le_refl _) (by simp) (by simp)) ad 0 c [] rfl rfl (fun j u h => by simp at h) (fun u h => by simp at h) (by simp) (by simp) (by simp) ?_; intro v' w1 hown1 hgrow1 _; have HF := (show Hid (Own w.heap.size 5 .u8 w1 v' []) from hown1); have HK : Hid (Same w w1) := ((Kept.refl _ _).alloc _).grown hgrow1 (fun k e => .inl (by simp [Value.ownBlock] at e; omega)); obtain ⟨aa, na, ca, rfl⟩ := slice_of_own HF.out; clear hown1 hgrow1)
   go_ret
   exact ⟨_, _, _, rfl, HF.out.mono (fun b _ => Nat.zero_le b), fun b hb => (HF.out.lt b hb).1, HK.out⟩
 ·have HC : Hid (∀ i, i < bs.length → (w.alloc (.cells #[] 5)).cell? ⟨b, off + i, none⟩ = some (.int .u8 (bs.getD i 0))) := fun i hi => ((Kept.refl (fun _ => False) w).alloc _).cellOf (hc i hi) id
  clear hv hc
  go_enter Try.func56, Try.ntmps56
  go_wp2_with (at_builtin; refine wpList_append_own _ rfl (.tmp 3) (.tmp 4) 22 rfl w.heap.size 5 i0 (.int .u8 0) 1 1 Try.underlying22 hi hz0 hz1 hz2 rfl (by decide) (.slice (some ⟨w.heap.size, 0, none⟩) 0 0) 0 [] rfl (World.ownsRow_made w #[] 0 (Nat.le_refl _) (by simp) (by simp)) ⟨b, off, none⟩ bs.length c (vals .u8 bs) rfl (by simp [vals_length]) (news_of HC.out) vals_one (by unfold maxLen; omega) (by omega) (by simp) ?_; intro v' w1 hown1 hgrow1 _; have HF := (show Hid (Own w.heap.size 5 .u8 w1 v' bs) from (by simpa [Own, Hid] using hown1)); have HK : Hid (Same w w1) := ((Kept.refl _ _).alloc _).grown hgrow1 (fun k e => .inl (by simp [Value.ownBlock] at e; omega)); obtain ⟨aa, na, ca, rfl⟩ := slice_of_own HF.out; clear hown1 hgrow1)
  go_ret
  exact ⟨_, _, _, rfl, HF.out.mono (fun b _ => Nat.zero_le b), fun b hb => (HF.out.lt b hb).1, HK.out⟩
structure Row where
 e : TypeId
 m : Nat
 v : Value
 n : Nat
 xs : List Value
def FootL (rs : List Row) (b : Nat) : Prop := ∃ r ∈ rs, r.v.ownBlock = some b
structure OwnL (w : World) (rs : List Row) : Prop where
 own : ∀ r ∈ rs, w.ownsRow 0 r.e r.m r.v r.n r.xs
 apart : rs.Pairwise (fun r s => Apart r.v s.v)
theorem OwnL.kept {R : Nat → Prop} {w w' : World} {rs : List Row} (h : OwnL w rs) (hk : Kept R w w') (hr : ∀ b, FootL rs b → ¬ R b) : OwnL w' rs :=
 ⟨fun r hm => hk.owns (h.own r hm) (fun b hb => hr b ⟨r, hm, hb⟩), h.apart⟩
theorem OwnL.same {w w' : World} {rs : List Row} (h : OwnL w rs) (hk : Same w w') : OwnL w' rs := h.kept hk (fun _ _ => id)
theorem OwnL.lt {w : World} {rs : List Row} (h : OwnL w rs) (b : Nat) (hb : FootL rs b) : b < w.heap.size := by
 obtain ⟨r, hm, hr⟩ := hb
 exact (World.ownsRow.lt (h.own r hm) b hr).2
theorem OwnL.nil (w : World) : OwnL w [] := ⟨fun r hr => absurd hr (by simp), List.Pairwise.nil⟩
theorem FootL_one (r : Row) (b : Nat) : FootL [r] b ↔ r.v.ownBlock = some b := by simp [FootL]
theorem OwnL.append {w : World} {rs ss : List Row} (h : OwnL w rs) (h' : OwnL w ss) (hd : ∀ b, FootL rs b → ¬ FootL ss b) : OwnL w (rs ++ ss) := by
 refine ⟨fun r hr => ?_, List.pairwise_append.2 ⟨h.apart, h'.apart, fun r hr s hs b hb hs' => hd b ⟨r, hr, hb⟩ ⟨s, hs, hs'⟩⟩⟩
 rcases List.mem_append.1 hr with hr | hr
 ·exact h.own r hr
 ·exact h'.own r hr
theorem OwnL.right {w : World} {rs ss : List Row} (h : OwnL w (rs ++ ss)) : OwnL w ss := ⟨fun r hr => h.own r (List.mem_append_right _ hr), (List.pairwise_append.1 h.apart).2.1⟩
theorem OwnL.cut {w : World} {rs ss : List Row} (h : OwnL w (rs ++ ss)) (b : Nat) (hr : FootL rs b) : ¬ FootL ss b := by
 obtain ⟨r, hm, hb⟩ := hr
 rintro ⟨s, hs, hb'⟩
 exact (List.pairwise_append.1 h.apart).2.2 r hm s hs b hb hb'
def ints (e : TypeId) (k : IntKind) (v : Value) (bs : List Int) : Row := ⟨e, 1, v, bs.length, vals k bs⟩
theorem OwnL.one {w : World} {e : TypeId} {k : IntKind} {v : Value} {bs : List Int} (h : Own 0 e k w v bs) : OwnL w [ints e k v bs] :=
 ⟨fun r hr => by rw [List.mem_singleton.1 hr]; exact h, List.pairwise_singleton _ _⟩
theorem OwnL.of_one {w : World} {e : TypeId} {k : IntKind} {v : Value} {bs : List Int} (h : OwnL w [ints e k v bs]) : Own 0 e k w v bs :=
 h.own _ (List.mem_singleton.2 rfl)
theorem footL_ints (e : TypeId) (k : IntKind) (v : Value) (bs : List Int) (b : Nat) : FootL [ints e k v bs] b ↔ v.ownBlock = some b := FootL_one _ _
structure BS where
 e : TypeId
 a : Option Addr
 c : Nat
 bs : List Int
def BS.v (x : BS) : Value := .slice x.a x.bs.length x.c
def BS.rows (x : BS) : List Row := [ints x.e .u8 x.v x.bs]
def BS.marked (x : BS) (k : Int) : BS := ⟨x.e, x.a, x.c, marks k x.bs.length⟩
structure FR where
 e : TypeId
 a : Option Addr
 n : Nat
 c : Nat
 bs : List Int
def FR.v (x : FR) : Value := .slice x.a x.n x.c
def FR.rows (m : Nat) (x : FR) : List Row := [⟨x.e, m, x.v, x.n, vals .i64 x.bs⟩]
def marksI (k : Int) (n : Nat) : List Int := (List.range n).map fun (i : Nat) => k + (i : Int)
def FR.marked (x : FR) (k : Int) : FR := ⟨x.e, x.a, x.n, x.c, marksI k x.bs.length⟩
structure StPageRecord where
 used : Bool
 data : BS
def StPageRecord.val (x : StPageRecord) : Value := .agg #[.bool x.used, x.data.v]
def StPageRecord.rows (x : StPageRecord) : List Row := x.data.rows
def StPageRecord.dat (x : StPageRecord) : Bool × List Int := (x.used, x.data.bs)
def StPageRecord.size (x : StPageRecord) : Int := (x.data.bs.length : Int)
def StPageRecord.marked (x : StPageRecord) (k : Int) : StPageRecord := ⟨x.used, x.data.marked (k)⟩
def StPageRecord.rd (w : World) (x : StPageRecord) : Prop := Rd .u8 w x.data.v x.data.bs
theorem StPageRecord.rd.kept {R : Nat → Prop} {w w' : World} {x : StPageRecord} (h : StPageRecord.rd w x) (hk : Kept R w w') (hr : ∀ b, FootL x.rows b → ¬ R b) : StPageRecord.rd w' x :=
 Rd.kept (h) hk (fun b hb => hr b (((footL_ints _ _ _ _ _).2 hb)))
theorem StPageRecord.rd.same {w w' : World} {x : StPageRecord} (h : StPageRecord.rd w x) (hk : Same w w') : StPageRecord.rd w' x := h.kept hk (fun _ _ => id)
theorem ownOK_len {raw : List Int} (h : ownOK raw = true) : raw.length = 4096 := by unfold ownOK at h; simp at h; exact h.1
theorem ownOK_parts {raw : List Int} (h : ownOK raw = true) : 148 ≤ numAt raw 16 2 ∧ numAt raw 16 2 ≤ 4096 ∧ astray (numAt raw 16 2) (slotsOf raw) = false ∧ share (slotsOf raw) = false := by
 have hl := ownOK_len h
 unfold ownOK pageFault faultP at h
 simp only [hl, ne_eq, not_true_eq_false, if_false] at h
 simp only [beq_self_eq_true, Bool.true_and] at h
 by_cases h2 : headBad (raw.take 4) (numAt raw 4 8) (numAt raw 12 4) (numAt raw 16 2) (slotsOf raw) raw = true
 ·simp [h2] at h
 by_cases h3 : numAt raw 16 2 < 148 ∨ 4096 < numAt raw 16 2
 ·simp [h2, h3] at h
 by_cases h4 : astray (numAt raw 16 2) (slotsOf raw) = true
 ·simp [h2, h3, h4] at h
 by_cases h5 : share (slotsOf raw) = true
 ·simp [h2, h3, h4, h5] at h
 exact ⟨by omega, by omega, by simpa using h4, by simpa using h5⟩
theorem astray_at {bot : Int} {sl : List Int} (h : astray bot sl = false) (k : Nat) (hk : k < 32) : astrayAt bot (sl.getD (2 * k) 0) (sl.getD (2 * k + 1) 0) = false := by
 cases hx : astrayAt bot (sl.getD (2 * k) 0) (sl.getD (2 * k + 1) 0) with
 | false => rfl
 | true => rw [astray_yes bot sl k hk hx] at h; cases h
theorem ownOK_slot {raw : List Int} (h : ownOK raw = true) (k : Nat) (hk : k < 32) : ((slotsOf raw).getD (2 * k) 0 = 0 ∧ (slotsOf raw).getD (2 * k + 1) 0 = 0) ∨
  ((slotsOf raw).getD (2 * k) 0 ≠ 0 ∧ (slotsOf raw).getD (2 * k + 1) 0 ≤ 1000 ∧ 148 ≤ (slotsOf raw).getD (2 * k) 0 ∧ (slotsOf raw).getD (2 * k) 0 + (slotsOf raw).getD (2 * k + 1) 0 ≤ 4096) := by
 obtain ⟨h1, h2, h3, h4⟩ := ownOK_parts h
 rcases not_astray _ _ _ (astray_at h3 k hk) with h | ⟨a, b, c, d⟩
 ·exact .inl h
 ·exact .inr ⟨a, b, by omega, d⟩
def stretch (raw : List Int) (x y : Int) : List Int := (raw.drop x.toNat).take y.toNat
theorem stretch_length (raw : List Int) (x y : Int) (hl : raw.length = 4096) (hx : 0 ≤ x) (hy : 0 ≤ y) (h : x + y ≤ 4096) : (stretch raw x y).length = y.toNat := by simp [stretch, hl]; omega
theorem SP.rdRaw {w : World} {P : Nat} {sum : List Int} {lsn num bot : Int} {sl raw : List Int} (h : SP w P sum lsn num bot sl raw) (x y : Nat) (c : Nat) (hxy : x + y ≤ 4096) (hc : y ≤ c) : Rd .u8 w (.slice (some ⟨P, 71 + x, none⟩) y c) ((raw.drop x).take y) := by
 have hl : ((raw.drop x).take y).length = y := by simp [h.l3]; omega
 refine ⟨by rw [hl]; unfold maxLen; omega, .inr ⟨P, 71 + x, c, by rw [hl], by rw [hl]; exact hc, fun i hi => ?_⟩⟩
 rw [hl] at hi
 rw [show 71 + x + i = 71 + (x + i) from by omega, h.rawAt (x + i) (by omega)]
 simp [List.getD, List.getElem?_take, List.getElem?_drop, hi]
theorem record_any (P : Nat) (sum : List Int) (lsn num bot : Int) (sl raw : List Int) (x y : Nat) (w : World) (hp : SP w P sum lsn num bot sl raw) (hxy : x + y ≤ 4096) :
  Calls Try.prog 48 #[.pointer (some ⟨P, 0, none⟩), .agg #[.int .i64 x, .int .i64 y]] w fun e w' => ∃ a c, e = .returned (.slice a y c) ∧ Rd .u8 w' (.slice a y c) ((raw.drop x).take y) ∧ Same w w' := by
 have hx : (0 : Int) ≤ x ∧ (x : Int) ≤ 65535 := by omega
 have hy : (0 : Int) ≤ y ∧ (y : Int) ≤ 65535 := by omega
 have HP := (show Hid (SP w P sum lsn num bot sl raw) from hp)
 have hrun : ∀ wx : World, (Instr.sliceAt 55 (.pointer (some ⟨P, 71, none⟩)) (some (.int .i64 (x : Int))) (some (.int .i64 ((x : Int) + (y : Int)))) none).run Try.prog wx = .ok (.slice (some (if 4096 = x then ⟨P, 71, none⟩ else ⟨P, 71 + x, none⟩)) y (4096 - x)) wx := by
  intro wx
  have hal : Try.prog.arrayLen 55 = 4096 := by kernel_rfl
  rw [run_sliceAt_array_lh wx 55 ⟨P, 71, none⟩ (by kernel_rfl) .i64 .i64 x (x + y) (by omega) (by omega) (by rw [hal]; omega), hal]
  have hsz : (sizeOf (Try.prog.elem 55)).run Try.prog wx = .ok 1 wx := by kernel_rfl
  rw [hsz]
  have e1 : ((x : Int) + (y : Int)).toNat - ((x : Int)).toNat = y := by omega
  simp only [Result.andThen, slicedAt, Int.toNat_natCast, Nat.mul_one]
  rw [show ((x : Int) + (y : Int)).toNat - x = y from by omega, addr_add]
 obtain ⟨A, hA⟩ : ∃ A : Addr, (if 4096 = x then ⟨P, 71, none⟩ else ⟨P, 71 + x, none⟩) = A := ⟨_, rfl⟩
 have HA := (show Hid ((if 4096 = x then (⟨P, 71, none⟩ : Addr) else ⟨P, 71 + x, none⟩) = A) from hA)
 rw [hA] at hrun
 clear hp hA
 go_enter Try.func48, Try.ntmps48
 go_wp2_with fail
 have hb1 := Blk.new w #[.int .i64 x, .int .i64 y] 67
 have hk1 : Same w (w.alloc (.cells #[.int .i64 x, .int .i64 y] 67)) := (Kept.refl _ _).alloc _
 obtain ⟨w1, hw1⟩ : ∃ w1, w.alloc (.cells #[.int .i64 x, .int .i64 y] 67) = w1 := ⟨_, rfl⟩
 rw [hw1] at hb1 hk1 ⊢
 clear hw1
 let Y1 : World → Prop := fun wx : World => wx.cell? ⟨w.heap.size, 0, none⟩ = some (.int .i64 x) ∧ wx.cell? ⟨w.heap.size, 1, none⟩ = some (.int .i64 y)
 have hSx : ∀ wx, Same w1 wx → Y1 wx := fun wx h => ⟨by rw [(hb1.same h).cell]; rfl, by rw [(hb1.same h).cell]; rfl⟩
 have hS : Y1 w1.drew := by exact hSx _ (Kept.refl _ _).drew
 refine wp_region_V Y1 8 9 rfl (by kernel_rfl) ?_
 refine tk 0 5 hS ?_
 refine tk 1 6 hS ?_
 refine tk 2 7 hS ?_
 refine tk 3 8 hS ?_
 refine tk 4 9 hS ?_
 refine tk 5 10 hS ?_
 refine wpAnyV_one (i := 6) (by kernel_rfl) rfl (fun K hK => ?_)
 go_simp
 have hc := end_any x y w1.drew hx hy
 with_reducible refine hc.mono ?_
 clear hc
 rintro e w2 ⟨rfl, hkk⟩
 have hkw2 : Same w1 w2 := Kept.trans ((Kept.refl _ _).drew) hkk
 clear hkk
 have hS : Y1 w2 := hSx _ hkw2
 refine hK.out _ _ (fun _ => hS) ?_
 clear hK K
 try simp only [Act.put, sA, s0, sS]
 refine wpAnyV_take (i := 7) (v := .slice (some A) y (4096 - x)) (some 12) rfl rfl (by kernel_rfl) (by kernel_rfl) (by kernel_rfl) (by kernel_rfl) (fun _ _ _ h => h) (Or.inl ⟨by rfl, fun wx hSw => by have h := hrun wx; go_simp⟩) hS ?_
 try simp only [Act.put, sA, s0, sS]
 refine wpAnyV_one (i := 8) (by kernel_rfl) rfl (fun K hK => ?_)
 go_simp
 refine hK.out _ _ (fun h => absurd rfl h) ?_
 clear hK K
 refine wpAnyV_done (by kernel_rfl) ?_
 try simp only [Act.put, sA, s0, sS]
 go_wp2
 go_ret
 refine ⟨_, _, rfl, ?_, hk1.trans hkw2⟩
 have hsp := HP.out.same (hk1.trans hkw2)
 rw [← HA.out]
 by_cases h : 4096 = x
 ·obtain rfl : y = 0 := by omega
  rw [if_pos h, List.take_zero]
  exact ⟨by simp, .inl ⟨rfl, _, _, rfl, fun h => by cases h⟩⟩
 ·rw [if_neg h]
  exact hsp.rdRaw x y (4096 - x) hxy (by omega)
def pageGet (raw : List Int) (s : Int) : Bool × List Int :=
 if ownOK raw = true ∧ 0 ≤ s ∧ s < 32 ∧ (slotsOf raw).getD (2 * s.toNat) 0 ≠ 0 then (true, stretch raw ((slotsOf raw).getD (2 * s.toNat) 0) ((slotsOf raw).getD (2 * s.toNat + 1) 0)) else (false, [])
theorem pageGet_yes {raw : List Int} {k : Nat} (h : ownOK raw = true) (hk : k < 32) (h0 : (slotsOf raw).getD (2 * k) 0 ≠ 0) : pageGet raw k = (true, stretch raw ((slotsOf raw).getD (2 * k) 0) ((slotsOf raw).getD (2 * k + 1) 0)) := by
 unfold pageGet
 rw [if_pos ⟨h, by omega, by omega, by simpa using h0⟩]
 rfl
theorem pageGet_no {raw : List Int} {s : Int} (h : ownOK raw = false ∨ s < 0 ∨ 32 ≤ s ∨ (slotsOf raw).getD (2 * s.toNat) 0 = 0) : pageGet raw s = (false, []) := by
 unfold pageGet
 rw [if_neg]
 rintro ⟨h1, h2, h3, h4⟩
 rcases h with h | h | h | h
 ·rw [h1] at h; cases h
 ·omega
 ·omega
 ·exact h4 h
/-! ### Stretches that don't share bytes have room -/
theorem count_or {α : Type} (p q : α → Bool) : ∀ (l : List α), (∀ x ∈ l, ¬ (p x = true ∧ q x = true)) → l.countP (fun x => p x || q x) = l.countP p + l.countP q
 | [], _ => rfl
 | x :: l, h => by
  have ih := count_or p q l (fun y hy => h y (List.mem_cons_of_mem _ hy))
  have hx := h x (List.mem_cons_self ..)
  rw [List.countP_cons, List.countP_cons, List.countP_cons, ih]
  cases hp : p x <;> cases hq : q x <;> simp_all <;> omega
theorem count_mid (a b : Nat) (hab : a ≤ b) : ∀ n, (List.range n).countP (fun x => decide (a ≤ x) && decide (x < b)) = min n b - min n a
 | 0 => by simp
 | n + 1 => by
  rw [List.range_succ, List.countP_append, count_mid a b hab n]
  by_cases h1 : a ≤ n <;> by_cases h2 : n < b <;> simp [h1, h2] <;> omega
def inRec (sl : List Int) (i x : Nat) : Bool := decide ((sl.getD (2 * i) 0).toNat ≤ x) && decide (x < (sl.getD (2 * i) 0 + sl.getD (2 * i + 1) 0).toNat)
def inAny (sl : List Int) : Nat → Nat → Bool
 | 0, _ => false
 | k + 1, x => inAny sl k x || inRec sl k x
theorem inAny_iff (sl : List Int) : ∀ (k x : Nat), inAny sl k x = true ↔ ∃ i, i < k ∧ inRec sl i x = true
 | 0, x => by simp [inAny]
 | k + 1, x => by
  simp only [inAny, Bool.or_eq_true, inAny_iff sl k x]
  constructor
  ·rintro (⟨i, hi, h⟩ | h)
   ·exact ⟨i, by omega, h⟩
   ·exact ⟨k, by omega, h⟩
  ·rintro ⟨i, hi, h⟩
   by_cases e : i < k
   ·exact .inl ⟨i, e, h⟩
   ·obtain rfl : i = k := by omega
    exact .inr h
structure SlOK (sl : List Int) : Prop where
 one : ∀ k, k < 32 → (sl.getD (2 * k) 0 = 0 ∧ sl.getD (2 * k + 1) 0 = 0) ∨ (148 ≤ sl.getD (2 * k) 0 ∧ 0 ≤ sl.getD (2 * k + 1) 0 ∧ sl.getD (2 * k + 1) 0 ≤ 1000 ∧ sl.getD (2 * k) 0 + sl.getD (2 * k + 1) 0 ≤ 4096)
 two : ∀ i j, i < 32 → j < i → ¬ (max (sl.getD (2 * i) 0) (sl.getD (2 * j) 0) < min (sl.getD (2 * i) 0 + sl.getD (2 * i + 1) 0) (sl.getD (2 * j) 0 + sl.getD (2 * j + 1) 0))
theorem SlOK.count {sl : List Int} (h : SlOK sl) : ∀ k, k ≤ 32 → (((List.range 4096).countP (inAny sl k) : Nat) : Int) = usedN sl k
 | 0, _ => by
  have : (List.range 4096).countP (inAny sl 0) = 0 := List.countP_eq_zero.2 (fun x _ => by simp [inAny])
  rw [this]; rfl
 | k + 1, hk => by
  have hd : ∀ x ∈ List.range 4096, ¬ (inAny sl k x = true ∧ inRec sl k x = true) := by
   rintro x _ ⟨h1, h2⟩
   obtain ⟨i, hi, h1⟩ := (inAny_iff sl k x).1 h1
   have h3 := h.two k i (by omega) hi
   simp only [inRec, Bool.and_eq_true, decide_eq_true_eq] at h1 h2
   have h4 := h.one k (by omega)
   have h5 := h.one i (by omega)
   omega
  have e : (fun x => inAny sl (k + 1) x) = fun x => inAny sl k x || inRec sl k x := rfl
  have hc := count_or (inAny sl k) (inRec sl k) (List.range 4096) hd
  have hr : (((List.range 4096).countP (inRec sl k) : Nat) : Int) = sl.getD (2 * k + 1) 0 := by
   have h4 := h.one k (by omega)
   have hm := count_mid (sl.getD (2 * k) 0).toNat (sl.getD (2 * k) 0 + sl.getD (2 * k + 1) 0).toNat (by omega) 4096
   have : (List.range 4096).countP (inRec sl k) = min 4096 (sl.getD (2 * k) 0 + sl.getD (2 * k + 1) 0).toNat - min 4096 (sl.getD (2 * k) 0).toNat := hm
   rw [this]
   omega
  have ih := SlOK.count h k (by omega)
  show (((List.range 4096).countP (fun x => inAny sl k x || inRec sl k x) : Nat) : Int) = usedN sl k + sl.getD (2 * k + 1) 0
  rw [hc]
  omega
theorem SlOK.room {sl : List Int} (h : SlOK sl) (k : Nat) (hk : k ≤ 32) : 0 ≤ usedN sl k ∧ usedN sl k ≤ 3948 := by
 have h1 := h.count k hk
 have h2 : (List.range 4096).countP (inAny sl k) ≤ (List.range 4096).countP (fun x => decide (148 ≤ x) && decide (x < 4096)) := by
  refine List.countP_mono_left (fun x hx hp => ?_)
  obtain ⟨i, hi, h3⟩ := (inAny_iff sl k x).1 hp
  have h4 := h.one i (by omega)
  simp only [inRec, Bool.and_eq_true, decide_eq_true_eq] at h3 ⊢
  omega
 rw [count_mid 148 4096 (by omega) 4096] at h2
 omega
theorem slOK_of {raw : List Int} (hB : IsB raw) (h : ownOK raw = true) : SlOK (slotsOf raw) := by
 have hp := ownOK_parts h
 have hl := ownOK_len h
 have hs := slotsOf_small raw hB hl
 refine ⟨fun k hk => ?_, fun i j hi hj hsh => ?_⟩
 ·have h1 := ownOK_slot h k hk
  have h2 := hs.at (2 * k)
  have h3 := hs.at (2 * k + 1)
  rcases h1 with h1 | h1
  ·exact .inl h1
  ·exact .inr ⟨by omega, by omega, by omega, by omega⟩
 ·have h1 := hp.2.2.2
  unfold share at h1
  rw [List.any_eq_false] at h1
  have h2 := h1 i (List.mem_range.2 hi)
  rw [Bool.not_eq_true, List.any_eq_false] at h2
  have h3 := h2 j (List.mem_range.2 hj)
  apply h3
  unfold shareAt sharesB
  simpa using hsh
/-! ### Compacted -/
def layI (xs : List Int) (o : Nat) (ys : List Int) : List Int := xs.take o ++ (ys ++ xs.drop (o + ys.length))
theorem layI_length (xs : List Int) (o : Nat) (ys : List Int) (h : o + ys.length ≤ xs.length) : (layI xs o ys).length = xs.length := by simp [layI]; omega
theorem lay_layI (k : IntKind) (xs ys : List Int) (o : Nat) : lay (vals k xs) o (vals k ys) = vals k (layI xs o ys) := by
 unfold lay layI
 simp [vals]
def cBot (sl : List Int) (k : Nat) : Int := 4096 - usedN sl k
def cSl (sl : List Int) : Nat → List Int
 | 0 => sl
 | k + 1 => if sl.getD (2 * k) 0 = 0 then cSl sl k else (cSl sl k).set (2 * k) (cBot sl (k + 1))
def cBody (raw sl : List Int) : Nat → List Int
 | 0 => List.replicate 4096 0
 | k + 1 => if sl.getD (2 * k) 0 = 0 then cBody raw sl k else layI (cBody raw sl k) (cBot sl (k + 1)).toNat (stretch raw (sl.getD (2 * k) 0) (sl.getD (2 * k + 1) 0))
theorem cSl_length (sl : List Int) : ∀ k, (cSl sl k).length = sl.length
 | 0 => rfl
 | k + 1 => by
  rw [cSl]
  split
  ·exact cSl_length sl k
  ·rw [List.length_set, cSl_length sl k]
theorem cSl_at (sl : List Int) : ∀ (k j : Nat), 2 * k ≤ j → (cSl sl k).getD j 0 = sl.getD j 0
 | 0, _, _ => rfl
 | k + 1, j, h => by
  rw [cSl]
  split
  ·exact cSl_at sl k j (by omega)
  ·rw [List.getD_eq_getElem?_getD, List.getElem?_set_ne (by omega), ← List.getD_eq_getElem?_getD]
   exact cSl_at sl k j (by omega)
theorem SlOK.bot {sl : List Int} (h : SlOK sl) (k : Nat) (hk : k ≤ 32) : 148 ≤ cBot sl k ∧ cBot sl k ≤ 4096 := by
 have := h.room k hk
 unfold cBot
 omega
theorem cBot_succ (sl : List Int) (k : Nat) : cBot sl (k + 1) = cBot sl k - sl.getD (2 * k + 1) 0 := by
 unfold cBot
 rw [show usedN sl (k + 1) = usedN sl k + sl.getD (2 * k + 1) 0 from rfl]
 omega
theorem SlOK.body {sl : List Int} (h : SlOK sl) (raw : List Int) (hl : raw.length = 4096) : ∀ k, k ≤ 32 → (cBody raw sl k).length = 4096
 | 0, _ => by rw [cBody, List.length_replicate]
 | k + 1, hk => by
  rw [cBody]
  have ih := SlOK.body h raw hl k (by omega)
  split
  ·exact ih
  ·have h1 := h.one k (by omega)
   have h2 := h.bot k (by omega)
   have h3 := h.bot (k + 1) hk
   have h4 := cBot_succ sl k
   rw [layI_length, ih]
   rw [stretch_length raw _ _ hl (by omega) (by omega) (by omega), ih]
   omega
def compB (raw : List Int) : List Int := encB (raw.take 4) (numAt raw 4 8) (numAt raw 12 4) (cBot (slotsOf raw) 32) (cSl (slotsOf raw) 32) (cBody raw (slotsOf raw) 32)
def pageCompact (raw : List Int) : List Int := if ownOK raw = true then compB raw else []
theorem compB_length {raw : List Int} (hB : IsB raw) (h : ownOK raw = true) : (compB raw).length = 4096 := by
 have hl := ownOK_len h
 exact encB_length (by rw [List.length_take, hl]; rfl) (by rw [cSl_length, slotsOf_length]) ((slOK_of hB h).body raw hl 32 (Nat.le_refl _))
theorem pageCompact_length {raw : List Int} (hB : IsB raw) : (pageCompact raw).length ≤ 4096 := by
 unfold pageCompact
 split
 ·rename_i h; rw [compB_length hB h]; omega
 ·simp
end Go.Proofs.Ytdgkidlpkhfbkaa
