import Derived.Test.YtemejkadankbhaaG02
import Derived.Test.YtemejkadankbhaaG04
import Derived.Test.YtemejkadankbhaaG00
import Derived.Test.YtemejkadankbhaaG01
import Derived.Deep.AppendLies
import Derived.Laws.AppendOwnNone
namespace Go.Proofs.Ytemejkadankbhaa
set_option maxRecDepth 100000
set_option maxHeartbeats 4000000
open Go.RowKit
set_option linter.unusedVariables false
set_option linter.unusedSimpArgs false
theorem owns_form {w : World} {base size n : Nat} {e : TypeId} {v : Value} {xs : List Value} (h : w.ownsRow base e size v n xs) (hn : 0 < n) : ∃ g cap, v = .slice (some ⟨g, 0, none⟩) n cap := by
  rcases h.2 with ⟨_, h0⟩ | ⟨g, cap, cur, h, _⟩
  · omega
  · exact ⟨g, cap, h⟩
theorem owns_le {w : World} {base base' size n : Nat} {e : TypeId} {v : Value} {xs : List Value} (h : w.ownsRow base e size v n xs) (hb : base' ≤ base) : w.ownsRow base' e size v n xs := by
  refine ⟨h.1, ?_⟩
  rcases h.2 with h0 | ⟨g, cap, cur, h, hg, rest⟩
  · exact .inl h0
  · exact .inr ⟨g, cap, cur, h, Nat.le_trans hb hg, rest⟩
theorem infoSlot : (Try.prog.info? 54).map (fun i => (i.zero, i.size, i.bytes)) = some (some (.agg #[.int .i64 0, .int .i64 0]), 2, 16) := by kernel_rfl
theorem take2 (sl : List Int) (k : Nat) (h : 2 * k + 1 < sl.length) : vals .i64 (sl.take (2 * (k + 1))) = vals .i64 (sl.take (2 * k)) ++ [.int .i64 (sl.getD (2 * k) 0), .int .i64 (sl.getD (2 * k + 1) 0)] := by
  have e1 : sl.getD (2 * k) 0 = sl[2 * k] := by simp [List.getD, List.getElem?_eq_getElem (show 2 * k < sl.length by omega)]
  have e2 : sl.getD (2 * k + 1) 0 = sl[2 * k + 1] := by simp [List.getD, List.getElem?_eq_getElem h]
  rw [show 2 * (k + 1) = 2 * k + 1 + 1 from by omega, List.take_succ_eq_append_getElem h, List.take_succ_eq_append_getElem (by omega), e1, e2]
  unfold vals
  rw [List.map_append, List.map_append, List.append_assoc]
  rfl
theorem l3Slots_any (b off c : Nat) (raw : List Int) (w : World) (hB : IsB raw) (hl : raw.length = 4096) (hv : Rd .u8 w (.slice (some ⟨b, off, none⟩) 4096 c) raw) :
    Calls Try.prog 41 #[.slice (some ⟨b, off, none⟩) 4096 c] w fun e w' => ∃ g cap, e = .returned (.slice (some ⟨g, 0, none⟩) 32 cap) ∧ w.heap.size ≤ g ∧ w'.ownsRow 0 54 2 (.slice (some ⟨g, 0, none⟩) 32 cap) 32 (vals .i64 (slotsOf raw)) ∧ Same w w' := by
  obtain ⟨i0, hi, hz0, hz1, hz2⟩ := info_parts infoSlot
  have HNu := (show Hid (∀ wx, Same w wx → ∀ o : Nat, o + 2 ≤ 4096 → Calls Try.prog 50 #[.slice (some ⟨b, off, none⟩) 4096 c, .int .i64 o, .int .i64 2] wx fun e w' => e = .returned (.int .i64 (numAt raw o 2)) ∧ Same wx w') from fun wx h o ho =>
    l3Number_any b off 4096 c raw o 2 wx hB hl (by decide) (by decide) ho (hv.same h))
  clear hv hB
  go_enter Try.func41, Try.ntmps41
  go_wp2
  go_loopw [3, 4, 5] (fun s i _ wr => ∃ (k g cap : Nat), k ≤ 32 ∧ s = .slice (some ⟨g, 0, none⟩) k cap ∧ i = .int .i64 k ∧ Hid (wr.ownsRow w.heap.size 54 2 (.slice (some ⟨g, 0, none⟩) k cap) k (vals .i64 ((slotsOf raw).take (2 * k)))) ∧ Hid (Same w wr)) (fun _ i _ _ => 32 - (intOf i).toNat)
  case atStart =>
    refine ⟨0, w.heap.size, 0, by omega, rfl, rfl, ?_, (Kept.refl _ _).alloc _⟩
    exact World.ownsRow_made w #[] 0 (Nat.le_refl _) (by simp) (by simp)
  case round =>
    obtain ⟨k, g, cap, hk, rfl, rfl, HO, HK⟩ := hrel
    by_cases hlt : k < 32
    · have hk2 : (k : Int) < 32 := by omega
      have HX := (show Hid ((slotsOf raw).getD (2 * k) 0 = numAt raw (20 + 4 * k) 2) from (by rw [slotsOf_at _ _ (by omega), show 20 + 2 * (2 * k) = 20 + 4 * k from by omega] : (slotsOf raw).getD (2 * k) 0 = numAt raw (20 + 4 * k) 2))
      have HY := (show Hid ((slotsOf raw).getD (2 * k + 1) 0 = numAt raw (20 + 4 * k + 2) 2) from (by rw [slotsOf_at _ _ (by omega), show 20 + 2 * (2 * k + 1) = 20 + 4 * k + 2 from by omega] : (slotsOf raw).getD (2 * k + 1) 0 = numAt raw (20 + 4 * k + 2) 2))
      have HT := (show Hid (_ = _) from take2 (slotsOf raw) k (by rw [slotsOf_length]; omega))
      rw [HX.out, HY.out] at HT
      have h1 := HNu.out wr HK.out (20 + 4 * k) (by omega)
      have h2 := fun wx (h : Same wr wx) => HNu.out wx (HK.out.trans h) (20 + 4 * k + 2) (by omega)
      generalize numAt raw (20 + 4 * k) 2 = X at *
      generalize numAt raw (20 + 4 * k + 2) 2 = Y at *
      have e1 : ((20 + 4 * k : Nat) : Int) = 20 + 4 * (k : Int) := by omega
      have e2 : ((20 + 4 * k + 2 : Nat) : Int) = 20 + 4 * (k : Int) + 2 := by omega
      rw [e1] at h1
      rw [e2] at h2
      have HOB := (show Hid (∀ wx, Same wr wx → ∀ o, (wx.alloc o).ownsRow w.heap.size 54 2 (.slice (some ⟨g, 0, none⟩) k cap) k (vals .i64 ((slotsOf raw).take (2 * k)))) from fun wx h o => (h.trans ((Kept.refl _ _).alloc o)).owns HO.out (fun _ _ => id))
      clear e1 e2 HX HY
      go_wp2_with (first
        | (go_at_call 50; refine h1.mono ?_; rintro e w1 ⟨rfl, hk1⟩; have h3 := h2 w1 hk1; clear h1)
        | (go_at_call 50; refine h3.mono ?_; rintro e w2 ⟨rfl, hk2'⟩; have HK2 := (show Hid (Same wr w2) from hk1.trans hk2'); have hz2' := HK2.out.size; have hzr := HK.out.size)
        | (at_builtin; (refine wpList_append_own _ rfl _ _ 55 rfl w.heap.size 54 i0 (.agg #[.int .i64 0, .int .i64 0]) 2 16 Try.underlying55 hi hz0 hz1 hz2 rfl (by decide) (.slice (some ⟨g, 0, none⟩) k cap) k (vals .i64 ((slotsOf raw).take (2 * k))) rfl (HOB.out w2 HK2.out _) ⟨w2.heap.size, 0, none⟩ 1 1 [.int .i64 X, .int .i64 Y] rfl rfl (World.news_of_block (cs := #[.int .i64 X, .int .i64 Y]) (t := 54) (fr := (0, 0)) (by unfold World.alloc; exact Array.getElem?_push_size)) (by intro u hu; simp at hu; rcases hu with rfl | rfl <;> rfl) (by unfold maxLen; omega) (by omega) (by simp; omega) ?_); intro v' w3 hown3 hgrow3 _; have HO3 := (show Hid (w3.ownsRow w.heap.size 54 2 v' (k + 1) (vals .i64 ((slotsOf raw).take (2 * (k + 1))))) from (by rw [HT.out]; exact hown3)); have HG3 := (show Hid ((w2.alloc (.cells #[.int .i64 X, .int .i64 Y] 54)).grownBy w3 (Value.slice (some ⟨g, 0, none⟩) k cap).ownBlock) from hgrow3); obtain ⟨g3, cap3, rfl⟩ := owns_form HO3.out (by omega); clear hown3 hgrow3))
      have hk3 : Kept (fun b => (Value.slice (some ⟨g, 0, none⟩) k cap).ownBlock = some b) w2 w3 := ((Kept.refl _ _).alloc _).trans (Kept.of_grown HG3.out (fun k e => e))
      have hg := (World.ownsRow.lt HO.out g rfl).1
      go_roundw
      case rel => exact ⟨k + 1, g3, cap3, by omega, rfl, by go_num, HO3, (HK.out.trans HK2.out).next hk3 (fun i hi e => by simp [Value.ownBlock] at e; omega)⟩
      case measure => simp [intOf]; omega
    · obtain rfl : k = 32 := by omega
      go_wp2
      go_ret
      have h := HO.out
      rw [List.take_of_length_le (by rw [slotsOf_length]; decide)] at h
      exact ⟨g, cap, rfl, (World.ownsRow.lt h g rfl).1, owns_le h (Nat.zero_le _), HK.out⟩
end Go.Proofs.Ytemejkadankbhaa

namespace Go.Proofs.Ytemejkadankbhaa
open Go.RowKit
set_option linter.unusedVariables false
set_option linter.unusedSimpArgs false
theorem lows_numAt (raw : List Int) (hB : IsB raw) (o n : Nat) (hn : 1 ≤ n) (hn8 : n ≤ 8) (hl : o + n ≤ raw.length) (h : 0 ≤ numAt raw o n) : lows (numAt raw o n) n = (raw.drop o).take n := by
  have hln : ((raw.drop o).take n).length = n := by simp; omega
  have e : numAt raw o n = num ((raw.drop o).take n) := by
    unfold numAt getN at h ⊢
    split at h
    · omega
    · rename_i hc
      rw [if_neg hc]
  rw [e]
  have h2 := lows_num ((raw.drop o).take n) (isB_take (isB_drop hB o) n)
  rw [hln] at h2
  exact h2
theorem pairs_take (l : List Int) (n : Nat) (h : 2 * n ≤ l.length) : (List.range n).flatMap (fun j => (l.drop (2 * j)).take 2) = l.take (2 * n) := by
  induction n with
  | zero => simp
  | succ n ih =>
    rw [List.range_succ, List.flatMap_append, ih (by omega), show 2 * (n + 1) = 2 * n + 2 from by omega, List.take_add]
    simp
theorem slotB_raw (raw : List Int) (hB : IsB raw) (hl : raw.length = 4096) : slotB (slotsOf raw) = (raw.drop 20).take 128 := by
  have h := pairs_take (raw.drop 20) 64 (by rw [List.length_drop, hl]; decide)
  rw [show 2 * 64 = 128 from rfl] at h
  rw [← h]
  unfold slotB slotsOf
  rw [List.flatMap_map]
  refine congrArg List.flatten (List.map_congr_left fun j hj => ?_)
  have hj := List.mem_range.1 hj
  rw [lows_numAt raw hB (20 + 2 * j) 2 (by decide) (by decide) (by omega) (numAt_in raw hB (20 + 2 * j) 2 (by decide) (by decide) (by omega)).1, List.drop_drop]
theorem enc_raw (raw : List Int) (hB : IsB raw) (hl : raw.length = 4096) (h0 : 0 ≤ numAt raw 4 8) :
    encB (raw.take 4) (numAt raw 4 8) (numAt raw 12 4) (numAt raw 16 2) (slotsOf raw) raw = raw.take 18 ++ ([0, 0] ++ raw.drop 20) := by
  unfold encB cont headB
  rw [slotB_raw raw hB hl, lows_numAt raw hB 4 8 (by decide) (by decide) (by omega) h0, lows_numAt raw hB 12 4 (by decide) (by decide) (by omega) (numAt_in raw hB 12 4 (by decide) (by decide) (by omega)).1,
    lows_numAt raw hB 16 2 (by decide) (by decide) (by omega) (numAt_in raw hB 16 2 (by decide) (by decide) (by omega)).1]
  have e1 : raw.take 4 ++ (raw.drop 4).take 8 = raw.take 12 := (List.take_add (l := raw) (i := 4) (j := 8)).symm
  have e2 : raw.take 12 ++ (raw.drop 12).take 4 = raw.take 16 := (List.take_add (l := raw) (i := 12) (j := 4)).symm
  have e3 : raw.take 16 ++ (raw.drop 16).take 2 = raw.take 18 := (List.take_add (l := raw) (i := 16) (j := 2)).symm
  rw [e1, e2, e3, show lows 0 2 = [0, 0] from by decide]
  have hlen : (raw.take 18 ++ [0, 0] ++ (raw.drop 20).take 128).length = 148 := by simp; omega
  rw [hlen, List.append_assoc, List.append_assoc]
  congr 2
  rw [show raw.drop 148 = (raw.drop 20).drop 128 from by rw [List.drop_drop], List.take_append_drop]
theorem raw_split (raw : List Int) (hl : raw.length = 4096) : raw = raw.take 18 ++ ([raw.getD 18 0, raw.getD 19 0] ++ raw.drop 20) := by
  have e1 : raw.getD 18 0 = raw[18] := by simp [List.getD, List.getElem?_eq_getElem (show 18 < raw.length by omega)]
  have e2 : raw.getD 19 0 = raw[19] := by simp [List.getD, List.getElem?_eq_getElem (show 19 < raw.length by omega)]
  rw [e1, e2]
  conv => lhs; rw [← List.take_append_drop 18 raw, List.drop_eq_getElem_cons (by omega : 18 < raw.length), List.drop_eq_getElem_cons (by omega : 18 + 1 < raw.length)]
  rfl
theorem headBad_raw (raw : List Int) (hB : IsB raw) (hl : raw.length = 4096) :
    headBad (raw.take 4) (numAt raw 4 8) (numAt raw 12 4) (numAt raw 16 2) (slotsOf raw) raw = (decide (numAt raw 4 8 < 0) || decide (1099511627776 < numAt raw 4 8) || raw.getD 18 0 != 0 || raw.getD 19 0 != 0) := by
  unfold headBad
  by_cases h : isLSN (numAt raw 4 8) = true
  · have h' := h
    simp [isLSN] at h'
    have hd1 : decide (numAt raw 4 8 < 0) = false := by simp; omega
    have hd2 : decide (1099511627776 < numAt raw 4 8) = false := by simp; omega
    rw [h, hd1, hd2, enc_raw raw hB hl h'.1]
    conv => lhs; rhs; rhs; rw [raw_split raw hl]
    rw [Bool.eq_iff_iff]
    simp
    constructor
    · intro h1
      by_cases h2 : raw[18]?.getD 0 = 0
      · right
        intro h3
        exact h1 h2.symm h3.symm
      · exact .inl h2
    · rintro (h1 | h1) h2 h3
      · exact h1 h2.symm
      · exact h1 h3.symm
  · have hf : isLSN (numAt raw 4 8) = false := by simpa using h
    rw [hf]
    simp [isLSN] at hf
    simp
    by_cases h0 : 0 ≤ numAt raw 4 8
    · have := hf h0
      omega
    · omega
end Go.Proofs.Ytemejkadankbhaa

namespace Go.Proofs.Ytemejkadankbhaa
set_option maxRecDepth 100000
set_option maxHeartbeats 16000000
open Go.RowKit
set_option linter.unusedVariables false
set_option linter.unusedSimpArgs false
theorem l3Bottom_any (b off c : Nat) (raw : List Int) (w : World) (hB : IsB raw) (hl : raw.length = 4096) (hv : Rd .u8 w (.slice (some ⟨b, off, none⟩) 4096 c) raw) :
    Calls Try.prog 43 #[.slice (some ⟨b, off, none⟩) 4096 c] w fun e w' => e = .returned (.int .i64 (numAt raw 16 2)) ∧ Same w w' := by
  have h := l3Number_any b off 4096 c raw 16 2 w hB hl (by decide) (by decide) (by decide) hv
  go_enter Try.func43, Try.ntmps43
  go_wp2_with (go_at_call 50; refine h.mono ?_; rintro e w1 ⟨rfl, hk⟩)
  go_ret
  exact ⟨rfl, hk⟩
def inSlot (sl : List Int) (m p : Nat) : Prop := sl.getD (2 * m) 0 ≤ (p : Int) ∧ (p : Int) < sl.getD (2 * m) 0 + sl.getD (2 * m + 1) 0
theorem share_of_in (sl : List Int) (i j p : Nat) (h1 : inSlot sl i p) (h2 : inSlot sl j p) : shareAt sl i j = true := by
  unfold shareAt sharesB
  rw [decide_eq_true_eq]
  unfold inSlot at h1 h2
  omega
theorem in_of_share (sl : List Int) (i j : Nat) (h0 : 0 ≤ sl.getD (2 * i) 0) (h0' : 0 ≤ sl.getD (2 * j) 0) (h : shareAt sl i j = true) : ∃ p : Nat, inSlot sl i p ∧ inSlot sl j p := by
  unfold shareAt sharesB at h
  rw [decide_eq_true_eq] at h
  refine ⟨(max (sl.getD (2 * i) 0) (sl.getD (2 * j) 0)).toNat, ?_, ?_⟩ <;> unfold inSlot <;> omega
theorem not_astray (bot x y : Int) (h : astrayAt bot x y = false) : (x = 0 ∧ y = 0) ∨ (x ≠ 0 ∧ y ≤ 1000 ∧ bot ≤ x ∧ x + y ≤ 4096) := by
  unfold astrayAt at h
  simp at h
  by_cases hx : x = 0
  · exact .inl ⟨hx, h.2 hx⟩
  · exact .inr ⟨hx, by have := h.1 hx; omega⟩
theorem owns_blk {w : World} {base g n size : Nat} {e : TypeId} {xs : List Value} (h : w.ownsRow base e size (.slice (some ⟨g, 0, none⟩) n n) n xs) : Blk w g e xs := by
  rcases h.2 with ⟨h, _⟩ | ⟨g', cap, cur, h, _, hg, _, _, hs, ht⟩
  · cases h
  · cases h
    rw [List.take_of_length_le (by rw [Array.length_toList, hs]; exact Nat.le_refl _)] at ht
    unfold Blk
    rw [← ht]
    simpa using hg
theorem made_bools (n : Nat) : (madeCells (Value.bool false).cells (n * 1)).toList = (List.replicate n false).map Value.bool := by
  apply List.ext_getElem?
  intro j
  by_cases hj : j < n
  · simp [madeCells, hj, Value.cells, Nat.mod_one]
  · simp [madeCells, hj]
theorem infoBool : (Try.prog.info? 4).map (fun i => (i.zero, i.size, i.bytes)) = some (some (.bool false), 1, 1) := by kernel_rfl
structure Rows2 (w : World) (g : Nat) (sl : List Int) : Prop where
  at0 : ∀ k, k < 32 → w.cell? ⟨g, k * 2, none⟩ = some (.int .i64 (sl.getD (2 * k) 0))
  at1 : ∀ k, k < 32 → w.cell? ⟨g, k * 2 + 1, none⟩ = some (.int .i64 (sl.getD (2 * k + 1) 0))
theorem Rows2.kept {R : Nat → Prop} {w w' : World} {g : Nat} {sl : List Int} (h : Rows2 w g sl) (hk : Kept R w w') (hr : ¬ R g) : Rows2 w' g sl :=
  ⟨fun k hk' => hk.cellOf (h.at0 k hk') hr, fun k hk' => hk.cellOf (h.at1 k hk') hr⟩
theorem rows2_of {w : World} {g cap : Nat} {e : TypeId} {sl : List Int} (h : w.ownsRow 0 e 2 (.slice (some ⟨g, 0, none⟩) 32 cap) 32 (vals .i64 sl)) (hl : sl.length = 64) : Rows2 w g sl :=
  ⟨fun k hk => by rw [World.ownsRow.cellAt h _ (by omega), vals_at _ _ _ (by omega), Nat.mul_comm], fun k hk => by rw [World.ownsRow.cellAt h _ (by omega), vals_at _ _ _ (by omega), Nat.mul_comm]⟩
theorem specFault_yes (b off c : Nat) (raw : List Int) (number : Int) (w : World) (hB : IsB raw) (hl : raw.length = 4096) (hv : Rd .u8 w (.slice (some ⟨b, off, none⟩) 4096 c) raw) :
    Calls Try.prog 23 #[.slice (some ⟨b, off, none⟩) 4096 c, .int .i64 number] w fun e w' => e = .returned (.int .i64 (pageFault raw number)) ∧ Same w w' := by
  have HNu := (show Hid (∀ wx, Same w wx → ∀ o n : Nat, 1 ≤ n → o + n ≤ 4096 → Calls Try.prog 50 #[.slice (some ⟨b, off, none⟩) 4096 c, .int .i64 o, .int .i64 n] wx fun e w' => e = .returned (.int .i64 (numAt raw o n)) ∧ Same wx w') from fun wx h o n h1 ho =>
    l3Number_any b off 4096 c raw o n wx hB hl (by decide) h1 ho (hv.same h))
  have HBo := (show Hid (∀ wx, Same w wx → Calls Try.prog 43 #[.slice (some ⟨b, off, none⟩) 4096 c] wx fun e w' => e = .returned (.int .i64 (numAt raw 16 2)) ∧ Same wx w') from fun wx h => l3Bottom_any b off c raw wx hB hl (hv.same h))
  have HSl := (show Hid (_) from fun wx (h : Same w wx) => l3Slots_any b off c raw wx hB hl (hv.same h))
  have HSm := (show Hid (Small (slotsOf raw)) from slotsOf_small raw hB hl)
  have hcell : ∀ i, i < 4096 → w.cell? ⟨b, off + i, none⟩ = some (.int .u8 (raw.getD i 0)) := by
    rcases hv.2 with ⟨h0, _⟩ | ⟨b', o', c', e, _, hc⟩
    · rw [h0] at hl; simp at hl
    · simp only [Value.slice.injEq, Option.some.injEq, Addr.mk.injEq] at e
      obtain ⟨⟨rfl, rfl, _⟩, _, rfl⟩ := e
      intro i hi
      exact hc i (by omega)
  have q18 := hcell 18 (by decide)
  have q19 := hcell 19 (by decide)
  have HF := (show Hid (pageFault raw number = if numAt raw 12 4 ≠ number then 2 else if (decide (numAt raw 4 8 < 0) || decide (1099511627776 < numAt raw 4 8) || raw.getD 18 0 != 0 || raw.getD 19 0 != 0) = true then 3 else if numAt raw 16 2 < 148 ∨ 4096 < numAt raw 16 2 then 4 else if astray (numAt raw 16 2) (slotsOf raw) then 5 else if share (slotsOf raw) then 6 else 0) from
    (by unfold pageFault faultP; rw [if_neg (by simp [hl]), headBad_raw raw hB hl] : pageFault raw number = _))
  obtain ⟨F, hFe⟩ : ∃ F, pageFault raw number = F := ⟨_, rfl⟩
  rw [hFe] at HF ⊢
  have hn4 := HNu.out w (Kept.refl _ _) 12 4 (by decide) (by decide)
  have hn8 := fun wx h => HNu.out wx h 4 8 (by decide) (by decide)
  generalize numAt raw 12 4 = num at *
  generalize numAt raw 4 8 = lsn at *
  generalize numAt raw 16 2 = bot at *
  generalize raw.getD 18 0 = r18 at *
  generalize raw.getD 19 0 = r19 at *
  have hsl64 := slotsOf_length raw
  generalize slotsOf raw = sl at *
  clear hcell hFe hv hB HNu hl
  by_cases h2 : num = number
  · have h5 := HF.out
    rw [if_neg (by simp [h2])] at h5
    have h2b : (num != number) = false := by simp [h2]
    clear HF h2
    go_enter Try.func23, Try.ntmps23
    have HF := (show Hid (F = _) from h5)
    clear h5
    go_upto_region 5 with (go_at_call 50; refine hn4.mono ?_; rintro e w1 ⟨rfl, hk1⟩; have hn8' := hn8 w1 hk1; clear hn4 hn8)
    go_wp2_with fail
    refine hn8'.mono ?_
    rintro e w2 ⟨rfl, hk2⟩
    have HK2 := (show Hid (Same w w2) from hk1.trans hk2)
    have k18 := HK2.out.cellOf q18 id
    have k19 := HK2.out.cellOf q19 id
    clear hn8' hk1 hk2 q18 q19
    by_cases a1 : lsn < 0
    · obtain rfl : F = 3 := by have h := HF.out; rw [if_pos (by simp [a1])] at h; exact h
      clear HF
      go_wp2
      go_ret
      exact ⟨rfl, HK2.out⟩
    by_cases a2 : 1099511627776 < lsn
    · obtain rfl : F = 3 := by have h := HF.out; rw [if_pos (by simp [a2])] at h; exact h
      clear HF
      go_wp2
      go_ret
      exact ⟨rfl, HK2.out⟩
    by_cases a3 : r18 = 0
    · by_cases a4 : r19 = 0
      · have HF2 := (show Hid (F = if bot < 148 ∨ 4096 < bot then 4 else if astray bot sl then 5 else if share sl then 6 else 0) from (by have h := HF.out; rw [if_neg (by simp [a1, a2, a3, a4] <;> omega)] at h; exact h : F = _))
        have b3 : (r18 != 0) = false := by simp [a3]
        have b4 : (r19 != 0) = false := by simp [a4]
        have hbo := HBo.out w2 HK2.out
        clear HF a3 a4
        by_cases a5 : bot < 148
        · obtain rfl : F = 4 := by have h := HF2.out; rw [if_pos (.inl a5)] at h; exact h
          clear HF2
          go_wp2_with (go_at_call 43; refine hbo.mono ?_; rintro e w3 ⟨rfl, hk3⟩; have HK3 := (show Hid (Same w w3) from HK2.out.trans hk3); have hsl := HSl.out w3 HK3.out; clear hk3 hbo)
          go_ret
          exact ⟨rfl, HK3.out⟩
        by_cases a6 : 4096 < bot
        · obtain rfl : F = 4 := by have h := HF2.out; rw [if_pos (.inr a6)] at h; exact h
          clear HF2
          go_wp2_with (go_at_call 43; refine hbo.mono ?_; rintro e w3 ⟨rfl, hk3⟩; have HK3 := (show Hid (Same w w3) from HK2.out.trans hk3); have hsl := HSl.out w3 HK3.out; clear hk3 hbo)
          go_ret
          exact ⟨rfl, HK3.out⟩
        have HF3 := (show Hid (F = if astray bot sl then 5 else if share sl then 6 else 0) from (by have h := HF2.out; rw [if_neg (by omega)] at h; exact h : F = _))
        clear HF2
        go_wp2_with (first | (go_at_call 43; refine hbo.mono ?_; rintro e w3 ⟨rfl, hk3⟩; have HK3 := (show Hid (Same w w3) from HK2.out.trans hk3); have hsl := HSl.out w3 HK3.out; clear hk3 hbo) | (go_at_call 41; refine hsl.mono ?_; rintro e w4 ⟨g, cap, rfl, hg, hown, hk4⟩; have HK4 := (show Hid (Same w w4) from HK3.out.trans hk4); have HR4 := (show Hid (Rows2 w4 g sl) from rows2_of hown hsl64); have hgl := (World.ownsRow.lt hown g rfl).2; clear hk4 hown hsl))
        go_loopw [8, 9] (fun i _ wr => ∃ k : Nat, k ≤ 32 ∧ i = .int .i64 k ∧ Hid (∀ j < k, astrayAt bot (sl.getD (2 * j) 0) (sl.getD (2 * j + 1) 0) = false) ∧ Hid (Same w4 wr)) (fun i _ _ => 32 - (intOf i).toNat)
        case atStart => exact ⟨0, by omega, rfl, fun j hj => by omega, Kept.refl _ _⟩
        case round =>
          obtain ⟨k, hk, rfl, HAl, HKr⟩ := hrel
          by_cases hlt : k < 32
          · have hk2 : (k : Int) < 32 := by omega
            have c0 := (HR4.out.kept HKr.out id).at0 k hlt
            have c1 := (HR4.out.kept HKr.out id).at1 k hlt
            have hxb := HSm.out.at (2 * k)
            have hyb := HSm.out.at (2 * k + 1)
            have HYes := (show Hid (astrayAt bot (sl.getD (2 * k) 0) (sl.getD (2 * k + 1) 0) = true → F = 5) from fun h => by rw [HF3.out, astray_yes bot sl k hlt h, if_pos rfl])
            have HNo := (show Hid (astrayAt bot (sl.getD (2 * k) 0) (sl.getD (2 * k + 1) 0) = false → ∀ j < k + 1, astrayAt bot (sl.getD (2 * j) 0) (sl.getD (2 * j + 1) 0) = false) from fun h j hj => by
              by_cases e : j = k
              · rw [e]; exact h
              · exact HAl.out j (by omega))
            generalize sl.getD (2 * k) 0 = x at *
            generalize sl.getD (2 * k + 1) 0 = y at *
            by_cases hx0 : x = 0
            · have hx0b : (x != 0) = false := by rw [hx0]; rfl
              have hx0e : (x == 0) = true := by rw [hx0]; rfl
              by_cases hy0 : y = 0
              · have hAt : astrayAt bot x y = false := by simp [astrayAt, hx0, hy0]
                have hyb0 : (y != 0) = false := by rw [hy0]; rfl
                clear hx0 hy0
                go_wp2
                go_roundw
                case rel => exact ⟨k + 1, by omega, by go_num, HNo.out hAt, HKr.out.alloc _⟩
                case measure => simp [intOf]; omega
              · have hAt : astrayAt bot x y = true := by simp [astrayAt, hx0, hy0]
                have hyb0 : (y != 0) = true := by simp [hy0]
                obtain rfl := HYes.out hAt
                clear hx0 hy0 HF3
                go_wp2
                go_ret
                exact ⟨rfl, HK4.out.trans (HKr.out.alloc _)⟩
            · have hx0b : (x != 0) = true := by simp [hx0]
              have hx0e : (x == 0) = false := by simp [hx0]
              by_cases hL : 1000 < y
              · have hAt : astrayAt bot x y = true := by simp [astrayAt, hx0, hL]
                obtain rfl := HYes.out hAt
                clear HF3
                go_wp2
                go_ret
                exact ⟨rfl, HK4.out.trans (HKr.out.alloc _)⟩
              · by_cases hO : x < bot
                · have hAt : astrayAt bot x y = true := by simp [astrayAt, hx0, hO]
                  obtain rfl := HYes.out hAt
                  clear HF3
                  go_wp2
                  go_ret
                  exact ⟨rfl, HK4.out.trans (HKr.out.alloc _)⟩
                · by_cases hE : 4096 < x + y
                  · have hAt : astrayAt bot x y = true := by simp [astrayAt, hx0, hE]
                    obtain rfl := HYes.out hAt
                    clear HF3
                    go_wp2
                    go_ret
                    exact ⟨rfl, HK4.out.trans (HKr.out.alloc _)⟩
                  · have hAt : astrayAt bot x y = false := by simp [astrayAt, hx0]; omega
                    go_wp2
                    go_roundw
                    case rel => exact ⟨k + 1, by omega, by go_num, HNo.out hAt, HKr.out.alloc _⟩
                    case measure => simp [intOf]; omega
          · obtain rfl : k = 32 := by omega
            have HF4 := (show Hid (F = if share sl then 6 else 0) from (by have h := HF3.out; rw [astray_no bot sl HAl.out, if_neg (by decide)] at h; exact h : F = _))
            clear HF3
            obtain ⟨i0, hi, hz0, hz1, hz2⟩ := info_parts infoBool
            have HIn := (show Hid (∀ m < 32, 0 ≤ sl.getD (2 * m) 0 ∧ 0 ≤ sl.getD (2 * m + 1) 0 ∧ sl.getD (2 * m) 0 + sl.getD (2 * m + 1) 0 ≤ 4096) from fun m hm => by
              have h0 := HSm.out.at (2 * m)
              have h1 := HSm.out.at (2 * m + 1)
              rcases not_astray _ _ _ (HAl.out m hm) with h | h <;> omega)
            have hwr := HKr.out.size
            go_wp2_with (at_make; (refine wpList_make_full _ rfl _ _ 65 rfl 0 4 i0 (.bool false) 1 Try.underlying65 hi hz0 hz1 .i64 .i64 _ _ 4096 rfl rfl (by first | rfl | simp) (by first | rfl | simp) (by rw [hz2]; decide) (by decide) (Nat.zero_le _) ?_); intro w5 hown5 hgrow5; have HB5 := (show Hid (Blk w5 wr.heap.size 4 ((List.replicate 4096 false).map Value.bool)) from (by have h := owns_blk hown5; rw [made_bools 4096] at h; exact h)); have HK5 := (show Hid (Same wr w5) from Kept.of_grown hgrow5 (fun k e => by cases e)); clear hown5 hgrow5)
            obtain ⟨go, hgo⟩ : ∃ go, wr.heap.size = go := ⟨_, rfl⟩
            rw [hgo] at HB5 ⊢
            have hgo2 : g < go := by omega
            have HR5 := (show Hid (Rows2 w5 g sl) from HR4.out.kept (HKr.out.trans HK5.out) id)
            have HKw5 := (show Hid (Same w w5) from HK4.out.trans (HKr.out.trans HK5.out))
            have hgw : w.heap.size ≤ go := by have := HK4.out.size; omega
            clear hgo hwr HAl HR4 HKr HK5
            go_loopw [11, 12] (fun i _ wq => ∃ (k : Nat) (os : List Bool), k ≤ 32 ∧ i = .int .i64 k ∧ Hid (os.length = 4096) ∧ Hid (Blk wq go 4 (os.map Value.bool)) ∧ Hid (∀ p < 4096, os.getD p false = true ↔ ∃ m < k, inSlot sl m p) ∧ Hid (∀ i < k, ∀ j < i, shareAt sl i j = false) ∧ Hid (Kept (fun b => b = go) w5 wq)) (fun i _ _ => 32 - (intOf i).toNat)
            case atStart =>
              refine ⟨0, _, by omega, rfl, List.length_replicate, HB5, ?_, fun i hi => by omega, Kept.refl _ _⟩
              intro p hp
              constructor
              · intro h
                simp only [List.getD, List.getElem?_replicate, hp, if_true, Option.getD_some] at h
                cases h
              · rintro ⟨m, hm, _⟩
                omega
            case round =>
              obtain ⟨k, os, hk, rfl, HLo, HBo2, HOw, HSh, HKq⟩ := hrel
              by_cases hlt : k < 32
              · have hk2 : (k : Int) < 32 := by omega
                have c0 := (HR5.out.kept HKq.out (by omega)).at0 k hlt
                have c1 := (HR5.out.kept HKq.out (by omega)).at1 k hlt
                obtain ⟨hx0, hy0, hxy⟩ := HIn.out k hlt
                have HSk := (show Hid (∀ p, inSlot sl k p ↔ sl.getD (2 * k) 0 ≤ (p : Int) ∧ (p : Int) < sl.getD (2 * k) 0 + sl.getD (2 * k + 1) 0) from fun p => Iff.rfl)
                obtain ⟨x, hxe⟩ : ∃ x0 : Nat, sl.getD (2 * k) 0 = x0 := ⟨(sl.getD (2 * k) 0).toNat, by omega⟩
                obtain ⟨y, hye⟩ : ∃ y0 : Nat, sl.getD (2 * k + 1) 0 = y0 := ⟨(sl.getD (2 * k + 1) 0).toNat, by omega⟩
                have HXY := (show Hid (sl.getD (2 * k) 0 = (x : Int) ∧ sl.getD (2 * k + 1) 0 = (y : Int)) from ⟨hxe, hye⟩)
                rw [hxe, hye] at hxy HSk
                rw [hxe] at c0 hx0
                rw [hye] at c1 hy0
                clear hxe hye
                go_wp2_with fail
                go_loopw [12] (fun q wi => ∃ (q0 : Nat) (os' : List Bool), x ≤ q0 ∧ q0 ≤ x + y ∧ q = .int .i64 q0 ∧ Hid (os'.length = 4096) ∧ Hid (Blk wi go 4 (os'.map Value.bool)) ∧ Hid (∀ p < 4096, os'.getD p false = true ↔ (∃ m < k, inSlot sl m p) ∨ (x ≤ p ∧ p < q0)) ∧ Hid (∀ p, x ≤ p → p < q0 → ¬ ∃ m < k, inSlot sl m p) ∧ Hid (Kept (fun b => b = go) w5 wi)) (fun q _ => x + y - (intOf q).toNat)
                case atStart =>
                  refine ⟨x, os, by omega, by omega, rfl, HLo, HBo2, fun p hp => ?_, fun p h1 h2 => by omega, HKq⟩
                  rw [HOw.out p hp]
                  constructor
                  · exact .inl
                  · rintro (h | h)
                    · exact h
                    · omega
                case round =>
                  obtain ⟨q, os', hq1, hq2, rfl, HL', HB', HO', HN', HK'⟩ := hrel
                  have d0 := (HR5.out.kept HK'.out (by omega)).at0 k hlt
                  have d1 := (HR5.out.kept HK'.out (by omega)).at1 k hlt
                  have HSq := (show Hid (sl.getD (2 * k) 0 = (x : Int) ∧ sl.getD (2 * k + 1) 0 = (y : Int)) from HXY.out)
                  rw [HSq.out.1] at d0
                  rw [HSq.out.2] at d1
                  by_cases hql : q < x + y
                  · have hq3 : (q : Int) < (x : Int) + (y : Int) := by omega
                    have hq4 : (q : Int) < 4096 := by omega
                    have hqn : q < 4096 := by omega
                    have f1 := HB'.out.frozen q
                    have c9 := HB'.out.cell q
                    have e9 : (os'.map Value.bool)[q]? = some (.bool (os'.getD q false)) := by simp [List.getD, List.getElem?_eq_getElem (show q < os'.length by rw [HL'.out]; exact hqn)]
                    rw [e9] at c9
                    clear e9
                    by_cases ho : os'.getD q false = true
                    · rw [ho] at c9
                      have hin := (HO'.out q hqn).1 ho
                      obtain ⟨m, hm, him⟩ : ∃ m < k, inSlot sl m q := by
                        rcases hin with h | h
                        · exact h
                        · omega
                      obtain rfl : F = 6 := by
                        have h := HF4.out
                        rw [share_yes sl k m hlt hm (share_of_in sl k m q ((HSk.out q).2 ⟨by omega, by omega⟩) him), if_pos rfl] at h
                        exact h
                      clear HF4 hin him
                      go_wp2
                      go_quiet (fail)
                      go_wp2
                      go_ret
                      exact ⟨rfl, (HKw5.out.next HK'.out (fun i hi e => by omega)).drewN _⟩
                    · have hof : os'.getD q false = false := by simpa using ho
                      rw [hof] at c9
                      have hni : ¬ ∃ m < k, inSlot sl m q := fun h => ho ((HO'.out q hqn).2 (.inl h))
                      have HNi := (show Hid (¬ ∃ m < k, inSlot sl m q) from hni)
                      clear ho hof hni
                      go_wp2
                      go_quiet (fail)
                      go_wp2
                      go_roundw
                      case rel =>
                        refine ⟨q + 1, os'.set q true, by omega, by omega, by go_num, by rw [List.length_set]; exact HL'.out, ?_, fun p hp => ?_, fun p h1 h2 => ?_, ?_⟩
                        · rw [List.map_set]
                          first
                            | exact (HB'.out.same ((Kept.refl _ _).drewN _)).stored q (.bool true)
                            | exact (HB'.out.stored q (.bool true)).same ((Kept.refl _ _).drewN _)
                        · by_cases e : p = q
                          · subst e
                            simp only [List.getD, List.getElem?_set, HL'.out, hp, if_true, Option.getD_some, true_iff]
                            exact .inr ⟨by omega, by omega⟩
                          · have hg : (os'.set q true).getD p false = os'.getD p false := by simp [List.getD, List.getElem?_set_ne (show q ≠ p from fun h => e h.symm)]
                            rw [hg, HO'.out p hp]
                            constructor
                            · rintro (h | h)
                              · exact .inl h
                              · exact .inr ⟨h.1, by omega⟩
                            · rintro (h | h)
                              · exact .inl h
                              · exact .inr ⟨h.1, by omega⟩
                        · by_cases e : p = q
                          · rw [e]; exact HNi.out
                          · exact HN'.out p h1 (by omega)
                        · first
                            | exact Kept.setCell (R := fun b => b = go) (HK'.out.drewN _) (.inr rfl) _
                            | exact (Kept.setCell (R := fun b => b = go) HK'.out (.inr rfl) _).drewN _
                      case measure => simp [intOf]; omega
                  · obtain rfl : q = x + y := by omega
                    have hq3 : ¬ ((x + y : Nat) : Int) < (x : Int) + (y : Int) := by omega
                    go_wp2
                    go_quiet (fail)
                    go_wp2
                    go_roundw
                    case rel =>
                      refine ⟨k + 1, os', by omega, by go_num, HL', ?_, fun p hp => ?_, fun i hi j hj => ?_, HK'.out.drewN _⟩
                      · exact HB'.out.same ((Kept.refl _ _).drewN _)
                      · rw [HO'.out p hp]
                        constructor
                        · rintro (⟨m, hm, h⟩ | h)
                          · exact ⟨m, by omega, h⟩
                          · exact ⟨k, by omega, (HSk.out p).2 ⟨by omega, by omega⟩⟩
                        · rintro ⟨m, hm, h⟩
                          by_cases e : m = k
                          · rw [e] at h
                            have := (HSk.out p).1 h
                            exact .inr ⟨by omega, by omega⟩
                          · exact .inl ⟨m, by omega, h⟩
                      · by_cases e : i = k
                        · rw [e] at hj ⊢
                          rw [← Bool.not_eq_true]
                          intro hs
                          obtain ⟨p, h1, h2⟩ := in_of_share sl k j (HIn.out k hlt).1 (HIn.out j (by omega)).1 hs
                          have h3 := (HSk.out p).1 h1
                          exact HN'.out p (by omega) (by omega) ⟨j, hj, h2⟩
                        · exact HSh.out i (by omega) j hj
                    case measure => simp [intOf]; omega
              · obtain rfl : k = 32 := by omega
                obtain rfl : F = 0 := by have h := HF4.out; rw [share_no sl HSh.out, if_neg (by decide)] at h; exact h
                clear HF4
                go_wp2
                go_ret
                exact ⟨rfl, HKw5.out.next HKq.out (fun i hi e => by omega)⟩
      · obtain rfl : F = 3 := by have h := HF.out; rw [if_pos (by simp [a4])] at h; exact h
        have b3 : (r18 != 0) = false := by simp [a3]
        have b4 : (r19 != 0) = true := by simp [a4]
        clear HF a3 a4
        go_wp2
        go_ret
        exact ⟨rfl, HK2.out⟩
    · obtain rfl : F = 3 := by have h := HF.out; rw [if_pos (by simp [a3])] at h; exact h
      have b3 : (r18 != 0) = true := by simp [a3]
      clear HF a3
      go_wp2
      go_ret
      exact ⟨rfl, HK2.out⟩
  · have h2b : (num != number) = true := by simp [h2]
    obtain rfl : F = 2 := by have h := HF.out; rw [if_pos h2] at h; exact h
    clear HF h2
    go_enter Try.func23, Try.ntmps23
    go_wp2_with (go_at_call 50; refine hn4.mono ?_; rintro e w1 ⟨rfl, hk1⟩; clear hn4)
    go_ret
    exact ⟨rfl, hk1⟩
theorem specFault_any (v : Value) (raw : List Int) (number : Int) (w : World) (hB : IsB raw) (hn : raw.length ≤ 1099511627776) (hv : Rd .u8 w v raw) :
    Calls Try.prog 23 #[v, .int .i64 number] w fun e w' => e = .returned (.int .i64 (pageFault raw number)) ∧ Same w w' := by
  obtain ⟨a, c, rfl⟩ := hv.form
  by_cases hl : raw.length = 4096
  · obtain ⟨b, off, rfl, hc⟩ := rd_some hv (by omega)
    rw [hl] at hv ⊢
    exact specFault_yes b off c raw number w hB hl hv
  · have hR : pageFault raw number = 1 := by unfold pageFault; rw [if_pos hl]
    rw [hR]
    have hl' : ¬ (raw.length : Int) = 4096 := by omega
    clear hv hB
    go_enter Try.func23, Try.ntmps23
    go_wp2
    go_ret
    exact ⟨rfl, Kept.refl _ _⟩
end Go.Proofs.Ytemejkadankbhaa

namespace Go.Proofs.Ytemejkadankbhaa
set_option maxRecDepth 100000
set_option maxHeartbeats 4000000
open Go.RowKit
set_option linter.unusedVariables false
set_option linter.unusedSimpArgs false
theorem wellFormed_any (v : Value) (raw : List Int) (w : World) (hB : IsB raw) (hn : raw.length ≤ 1099511627776) (hv : Rd .u8 w v raw) :
    Calls Try.prog 36 #[v] w fun e w' => Same w w' ∧ ((ownOK raw = true ∧ ∃ P, e = .returned (.pointer (some ⟨P, 0, none⟩)) ∧ w.heap.size ≤ P ∧ SP w' P (raw.take 4) (numAt raw 4 8) (numAt raw 12 4) (numAt raw 16 2) (slotsOf raw) raw) ∨
      (ownOK raw = false ∧ e = .returned (.pointer none))) := by
  obtain ⟨a, c, rfl⟩ := hv.form
  by_cases hl : raw.length = 4096
  · have hR : ownOK raw = (faultP (raw.take 4) (numAt raw 4 8) (numAt raw 12 4) (numAt raw 16 2) (slotsOf raw) raw (numAt raw 12 4) == 0) := by unfold ownOK pageFault; rw [if_neg (by simp [hl]), hl]; rfl
    obtain ⟨b, off, rfl, hc⟩ := rd_some hv (by omega)
    have hrg := rd_range hv (by omega)
    have hI : (Try.prog.info? 50).map (·.size) = some (vals .u8 raw).length := by rw [vals_length, hl]; exact page_info
    have hT := takeApart_any raw w hB hl
    have hn12 := numAt_in raw hB 12 4 (by decide) (by decide) (by omega)
    have hn16 := numAt_in raw hB 16 2 (by decide) (by decide) (by omega)
    have hF := fun P wx (h : SP wx P (raw.take 4) (numAt raw 4 8) (numAt raw 12 4) (numAt raw 16 2) (slotsOf raw) raw) => fault_any P (raw.take 4) (numAt raw 4 8) (numAt raw 12 4) (numAt raw 16 2) (slotsOf raw) raw (numAt raw 12 4) wx h (slotsOf_small raw hB hl) ⟨hn12.1, by omega⟩ ⟨hn16.1, by omega⟩
    obtain ⟨F, hFe⟩ : ∃ F, faultP (raw.take 4) (numAt raw 4 8) (numAt raw 12 4) (numAt raw 16 2) (slotsOf raw) raw (numAt raw 12 4) = F := ⟨_, rfl⟩
    rw [hFe] at hF hR
    have HR := (show Hid (ownOK raw = (F == 0)) from hR)
    obtain ⟨cs, hcs⟩ : ∃ cs : List Value, vals .u8 raw = cs := ⟨_, rfl⟩
    rw [hcs] at hT hrg hI
    rw [hl]
    have harr := run_arrayP
    clear hcs hv hB hn hR hl hFe hn12 hn16
    go_enter Try.func36, Try.ntmps36
    go_upto_region 4 with (first
      | (go_at_call 56; refine hT.mono ?_; rintro e w1 ⟨P, rfl, hP, hsp, hk1⟩)
      | (refine wpList_load_mid rfl 50 _ rfl b off rfl cs _ hrg Try.underlying50 rfl hI ?_))
    have c5 := hsp.num3.2.1
    have HSP := (show Hid (SP w1 P (raw.take 4) (numAt raw 4 8) (numAt raw 12 4) (numAt raw 16 2) (slotsOf raw) raw) from hsp)
    have hc := hF P w1 hsp
    clear hF hT hsp
    by_cases h0 : F = 0
    · subst h0
      go_wp2_with (go_at_call 57; refine hc.mono ?_; rintro e w2 ⟨rfl, hk2⟩)
      go_ret
      exact ⟨hk1.trans hk2, .inl ⟨HR.out, P, rfl, hP, HSP.out.same hk2⟩⟩
    · have h0b : (F != 0) = true := by simp [h0]
      go_wp2_with (go_at_call 57; refine hc.mono ?_; rintro e w2 ⟨rfl, hk2⟩)
      go_ret
      exact ⟨hk1.trans hk2, .inr ⟨by rw [HR.out]; simp [h0], rfl⟩⟩
  · have hR : ownOK raw = false := by unfold ownOK; simp [hl]
    have hl' : ¬ (raw.length : Int) = 4096 := by omega
    clear hv hB
    go_enter Try.func36, Try.ntmps36
    go_wp2
    go_ret
    exact ⟨Kept.refl _ _, .inr ⟨hR, rfl⟩⟩
theorem l3Own_any (v : Value) (raw : List Int) (w : World) (hB : IsB raw) (hn : raw.length ≤ 1099511627776) (hv : Rd .u8 w v raw) :
    Calls Try.prog 31 #[v] w fun e w' => e = .returned (.bool (ownOK raw)) ∧ Same w w' := by
  obtain ⟨a, c, rfl⟩ := hv.form
  by_cases hl : raw.length = 4096
  · obtain ⟨b, off, rfl, hc⟩ := rd_some hv (by omega)
    have hR : ownOK raw = (pageFault raw (numAt raw 12 4) == 0) := by unfold ownOK; rw [hl]; rfl
    rw [hl] at hv ⊢
    have hN := l3Number_any b off 4096 c raw 12 4 w hB hl (by decide) (by decide) (by decide) hv
    have hF := fun wx (h : Same w wx) => specFault_any (.slice (some ⟨b, off, none⟩) 4096 c) raw (numAt raw 12 4) wx hB hn (hv.same h)
    rw [hR]
    have e12 : getN ((raw.drop 12).take 4) = numAt raw 12 4 := rfl
    rw [e12] at hN
    generalize pageFault raw (numAt raw 12 4) = F at *
    generalize numAt raw 12 4 = N at *
    clear hv hB hR e12
    go_enter Try.func31, Try.ntmps31
    go_wp2_with (first
      | (go_at_call 50; refine hN.mono ?_; rintro e w1 ⟨rfl, hk1⟩; have hF' := hF w1 hk1)
      | (go_at_call 23; refine hF'.mono ?_; rintro e w2 ⟨rfl, hk2⟩))
    go_ret
    exact ⟨rfl, hk1.trans hk2⟩
  · have hR : ownOK raw = false := by unfold ownOK; simp [hl]
    rw [hR]
    have hl' : ¬ (raw.length : Int) = 4096 := by omega
    clear hv hB
    go_enter Try.func31, Try.ntmps31
    go_wp2
    go_ret
    exact ⟨rfl, Kept.refl _ _⟩
end Go.Proofs.Ytemejkadankbhaa

namespace Go.Proofs.Ytemejkadankbhaa
set_option maxRecDepth 100000
set_option maxHeartbeats 4000000
open Go.RowKit
set_option linter.unusedVariables false
set_option linter.unusedSimpArgs false
def usedN (sl : List Int) : Nat → Int
  | 0 => 0
  | k + 1 => usedN sl k + sl.getD (2 * k + 1) 0
theorem usedN_small (sl : List Int) (h : Small sl) (k : Nat) : 0 ≤ usedN sl k ∧ usedN sl k ≤ 65535 * k := by
  induction k with
  | zero => simp [usedN]
  | succ k ih =>
    have := h.at (2 * k + 1)
    simp only [usedN]
    omega
def pageUsed (raw : List Int) : Int := if ownOK raw = true then usedN (slotsOf raw) 32 else -1
theorem total_any (P : Nat) (sum : List Int) (lsn num bot : Int) (sl raw : List Int) (w : World) (hp : SP w P sum lsn num bot sl raw) (hs : Small sl) :
    Calls Try.prog 51 #[.pointer (some ⟨P, 0, none⟩)] w fun e w' => e = .returned (.int .i64 (usedN sl 32)) ∧ Same w w' := by
  have HP := (show Hid (SP w P sum lsn num bot sl raw) from hp)
  have HSm := (show Hid (Small sl) from hs)
  have HIs := (show Hid ((Try.prog.info? 71).map (·.size) = some (vals .i64 sl).length) from (by rw [vals_length, hp.l2]; exact (by kernel_rfl : (Try.prog.info? 71).map (·.size) = some 64) : (Try.prog.info? 71).map (·.size) = some (vals .i64 sl).length))
  have HRs := (show Hid (w.rangeAt P 7 (vals .i64 sl)) from hp.slRange)
  obtain ⟨ss, hss⟩ : ∃ ss : List Value, vals .i64 sl = ss := ⟨_, rfl⟩
  have HSS := (show Hid (vals .i64 sl = ss) from hss)
  rw [hss] at HIs HRs
  clear hss hp hs
  go_enter Try.func51, Try.ntmps51
  go_wp2_with (refine wpList_load_mid rfl 71 _ rfl P 7 rfl ss _ HRs.out Try.underlying71 rfl HIs.out ?_)
  go_loopw [3, 5, 10] (fun t _ i wr => ∃ k : Nat, k ≤ 32 ∧ t = .int .i64 (usedN sl k) ∧ i = .int .i64 k ∧ Hid (Same w wr)) (fun _ _ i _ => 32 - (intOf i).toNat)
  case atStart => exact ⟨0, by omega, rfl, rfl, Kept.refl _ _⟩
  case round =>
    obtain ⟨k, hk, rfl, rfl, HKr⟩ := hrel
    by_cases hlt : k < 32
    · have hk2 : (k : Int) < 32 := by omega
      have hix := fun w => slot_at sl HP.out.l2 k hlt w
      rw [HSS.out] at hix
      have hub := usedN_small sl HSm.out k
      have hyb := HSm.out.at (2 * k + 1)
      have HU := (show Hid (usedN sl (k + 1) = usedN sl k + sl.getD (2 * k + 1) 0) from rfl)
      generalize usedN sl k = U at *
      generalize sl.getD (2 * k) 0 = x at *
      generalize sl.getD (2 * k + 1) 0 = y at *
      go_wp2
      go_roundw
      case rel => exact ⟨k + 1, by omega, by rw [HU.out], by go_num, HKr.out.alloc _⟩
      case measure => simp [intOf]; omega
    · obtain rfl : k = 32 := by omega
      go_wp2
      go_ret
      exact ⟨rfl, HKr.out⟩
theorem specUsed_any (v : Value) (raw : List Int) (w : World) (hB : IsB raw) (hn : raw.length ≤ 1099511627776) (hv : Rd .u8 w v raw) :
    Calls Try.prog 42 #[v] w fun e w' => e = .returned (.int .i64 (pageUsed raw)) ∧ Same w w' := by
  have h := l3Own_any v raw w hB hn hv
  by_cases hok : ownOK raw = true
  · have hl : raw.length = 4096 := by unfold ownOK at hok; simp at hok; exact hok.1
    have e : pageUsed raw = usedN (slotsOf raw) 32 := by unfold pageUsed; rw [if_pos hok]
    obtain ⟨a, c, rfl⟩ := hv.form
    obtain ⟨b, off, rfl, hc⟩ := rd_some hv (by omega)
    rw [hl] at hv h ⊢
    have hS := fun wx (h : Same w wx) => l3Slots_any b off c raw wx hB hl (hv.same h)
    have HSm := (show Hid (Small (slotsOf raw)) from slotsOf_small raw hB hl)
    have hsl64 := slotsOf_length raw
    rw [hok] at h
    rw [e]
    generalize slotsOf raw = sl at *
    clear hv hB hok e
    go_enter Try.func42, Try.ntmps42
    go_wp2_with (first
      | (go_at_call 31; refine h.mono ?_; rintro e w1 ⟨rfl, hk1⟩; have hS' := hS w1 hk1)
      | (go_at_call 41; refine hS'.mono ?_; rintro e w2 ⟨g, cap, rfl, hg, hown, hk2⟩; have HK2 := (show Hid (Same w w2) from hk1.trans hk2); have HR2 := (show Hid (Rows2 w2 g sl) from rows2_of hown hsl64); clear hown hk2 hk1 hS' hS h))
    go_loopw [3, 5] (fun t i wr => ∃ k : Nat, k ≤ 32 ∧ t = .int .i64 (usedN sl k) ∧ i = .int .i64 k ∧ wr = w2) (fun _ i _ => 32 - (intOf i).toNat)
    case atStart => exact ⟨0, by omega, rfl, rfl, rfl⟩
    case round =>
      obtain ⟨k, hk, rfl, rfl, rfl⟩ := hrel
      by_cases hlt : k < 32
      · have hk2 : (k : Int) < 32 := by omega
        have c1 := HR2.out.at1 k hlt
        have hub := usedN_small sl HSm.out k
        have hyb := HSm.out.at (2 * k + 1)
        have HU := (show Hid (usedN sl (k + 1) = usedN sl k + sl.getD (2 * k + 1) 0) from rfl)
        generalize usedN sl k = U at *
        generalize sl.getD (2 * k + 1) 0 = y at *
        go_wp2
        go_roundw
        case rel => exact ⟨k + 1, by omega, by rw [HU.out], by go_num, by first | rfl | trivial⟩
        case measure => simp [intOf]; omega
      · obtain rfl : k = 32 := by omega
        go_wp2
        go_ret
        exact ⟨rfl, HK2.out⟩
  · have hf : ownOK raw = false := by simpa using hok
    have e : pageUsed raw = -1 := by unfold pageUsed; rw [if_neg hok]
    rw [hf] at h
    rw [e]
    clear hv hB hok e
    go_enter Try.func42, Try.ntmps42
    go_wp2_with (go_at_call 31; refine h.mono ?_; rintro e w1 ⟨rfl, hk1⟩)
    go_ret
    exact ⟨rfl, hk1⟩
end Go.Proofs.Ytemejkadankbhaa

namespace Go.Proofs.Ytemejkadankbhaa
set_option maxHeartbeats 400000
open Go.RowKit
theorem l1Copy_any (v : Value) (bs : List Int) (w : World) (hn : bs.length ≤ 1099511627776) (hv : Rd .u8 w v bs) :
    Calls Try.prog 32 #[v] w fun e w' => ∃ a n c, e = .returned (.slice a n c) ∧ Own 0 5 .u8 w' (.slice a n c) bs ∧ (∀ b, (Value.slice a n c).ownBlock = some b → w.heap.size ≤ b) ∧ Same w w' := by
  obtain ⟨i0, hi, hz0, hz1, hz2⟩ := info_parts Try.infoByte'
  rcases hv.2 with ⟨rfl, a, c, rfl, hac⟩ | ⟨b, off, c, rfl, _, hc⟩
  · cases a with
    | none =>
      obtain rfl : c = 0 := hac rfl
      clear hv hn hac
      go_enter Try.func32, Try.ntmps32
      go_wp2_with (at_builtin; refine wpList_append_own_none rfl (.tmp 3) (.tmp 4) 22 rfl w.heap.size 5 i0 1 Try.underlying22 hi _ 0 [] rfl (World.ownsRow_made w #[] 0 (Nat.le_refl _) (by simp) (by simp)) rfl ?_)
      go_ret
      exact ⟨_, _, _, rfl, (World.ownsRow_made w #[] 0 (Nat.zero_le _) (by simp) (by simp)), fun b hb => by simp [Value.ownBlock] at hb; omega, (Kept.refl _ _).alloc _⟩
    | some ad =>
      clear hv hn hac
      go_enter Try.func32, Try.ntmps32
      go_wp2_with (at_builtin; refine wpList_append_own _ rfl (.tmp 3) (.tmp 4) 22 rfl w.heap.size 5 i0 (.int .u8 0) 1 1 Try.underlying22 hi hz0 hz1 hz2 rfl (by decide) (.slice (some ⟨w.heap.size, 0, none⟩) 0 0) 0 [] rfl (World.ownsRow_made w #[] 0 (Nat.le_refl _) (by simp) (by simp)) ad 0 c [] rfl rfl (fun j u h => by simp at h) (fun u h => by simp at h) (by simp) (by simp) (by simp) ?_; intro v' w1 hown1 hgrow1 _; have HF := (show Hid (Own w.heap.size 5 .u8 w1 v' []) from hown1); have HK : Hid (Same w w1) := ((Kept.refl _ _).alloc _).grown hgrow1 (fun k e => .inl (by simp [Value.ownBlock] at e; omega)); obtain ⟨aa, na, ca, rfl⟩ := slice_of_own HF.out; clear hown1 hgrow1)
      go_ret
      exact ⟨_, _, _, rfl, HF.out.mono (fun b _ => Nat.zero_le b), fun b hb => (HF.out.lt b hb).1, HK.out⟩
  · have HC : Hid (∀ i, i < bs.length → (w.alloc (.cells #[] 5)).cell? ⟨b, off + i, none⟩ = some (.int .u8 (bs.getD i 0))) := fun i hi => ((Kept.refl (fun _ => False) w).alloc _).cellOf (hc i hi) id
    clear hv hc
    go_enter Try.func32, Try.ntmps32
    go_wp2_with (at_builtin; refine wpList_append_own _ rfl (.tmp 3) (.tmp 4) 22 rfl w.heap.size 5 i0 (.int .u8 0) 1 1 Try.underlying22 hi hz0 hz1 hz2 rfl (by decide) (.slice (some ⟨w.heap.size, 0, none⟩) 0 0) 0 [] rfl (World.ownsRow_made w #[] 0 (Nat.le_refl _) (by simp) (by simp)) ⟨b, off, none⟩ bs.length c (vals .u8 bs) rfl (by simp [vals_length]) (news_of HC.out) vals_one (by unfold maxLen; omega) (by omega) (by simp) ?_; intro v' w1 hown1 hgrow1 _; have HF := (show Hid (Own w.heap.size 5 .u8 w1 v' bs) from (by simpa [Own, Hid] using hown1)); have HK : Hid (Same w w1) := ((Kept.refl _ _).alloc _).grown hgrow1 (fun k e => .inl (by simp [Value.ownBlock] at e; omega)); obtain ⟨aa, na, ca, rfl⟩ := slice_of_own HF.out; clear hown1 hgrow1)
    go_ret
    exact ⟨_, _, _, rfl, HF.out.mono (fun b _ => Nat.zero_le b), fun b hb => (HF.out.lt b hb).1, HK.out⟩
end Go.Proofs.Ytemejkadankbhaa

namespace Go.Proofs.Ytemejkadankbhaa
set_option maxRecDepth 100000
set_option maxHeartbeats 4000000
open Go.RowKit
set_option linter.unusedVariables false
set_option linter.unusedSimpArgs false
theorem ownOK_len {raw : List Int} (h : ownOK raw = true) : raw.length = 4096 := by unfold ownOK at h; simp at h; exact h.1
theorem ownOK_parts {raw : List Int} (h : ownOK raw = true) : 148 ≤ numAt raw 16 2 ∧ numAt raw 16 2 ≤ 4096 ∧ astray (numAt raw 16 2) (slotsOf raw) = false ∧ share (slotsOf raw) = false := by
  have hl := ownOK_len h
  unfold ownOK pageFault faultP at h
  simp only [hl, ne_eq, not_true_eq_false, if_false] at h
  simp only [beq_self_eq_true, Bool.true_and] at h
  by_cases h2 : headBad (raw.take 4) (numAt raw 4 8) (numAt raw 12 4) (numAt raw 16 2) (slotsOf raw) raw = true
  · simp [h2] at h
  by_cases h3 : numAt raw 16 2 < 148 ∨ 4096 < numAt raw 16 2
  · simp [h2, h3] at h
  by_cases h4 : astray (numAt raw 16 2) (slotsOf raw) = true
  · simp [h2, h3, h4] at h
  by_cases h5 : share (slotsOf raw) = true
  · simp [h2, h3, h4, h5] at h
  exact ⟨by omega, by omega, by simpa using h4, by simpa using h5⟩
theorem astray_at {bot : Int} {sl : List Int} (h : astray bot sl = false) (k : Nat) (hk : k < 32) : astrayAt bot (sl.getD (2 * k) 0) (sl.getD (2 * k + 1) 0) = false := by
  cases hx : astrayAt bot (sl.getD (2 * k) 0) (sl.getD (2 * k + 1) 0) with
  | false => rfl
  | true => rw [astray_yes bot sl k hk hx] at h; cases h
theorem ownOK_slot {raw : List Int} (h : ownOK raw = true) (k : Nat) (hk : k < 32) : ((slotsOf raw).getD (2 * k) 0 = 0 ∧ (slotsOf raw).getD (2 * k + 1) 0 = 0) ∨
    ((slotsOf raw).getD (2 * k) 0 ≠ 0 ∧ (slotsOf raw).getD (2 * k + 1) 0 ≤ 1000 ∧ 148 ≤ (slotsOf raw).getD (2 * k) 0 ∧ (slotsOf raw).getD (2 * k) 0 + (slotsOf raw).getD (2 * k + 1) 0 ≤ 4096) := by
  obtain ⟨h1, h2, h3, h4⟩ := ownOK_parts h
  rcases not_astray _ _ _ (astray_at h3 k hk) with h | ⟨a, b, c, d⟩
  · exact .inl h
  · exact .inr ⟨a, b, by omega, d⟩
def stretch (raw : List Int) (x y : Int) : List Int := (raw.drop x.toNat).take y.toNat
theorem stretch_length (raw : List Int) (x y : Int) (hl : raw.length = 4096) (hx : 0 ≤ x) (hy : 0 ≤ y) (h : x + y ≤ 4096) : (stretch raw x y).length = y.toNat := by simp [stretch, hl]; omega
theorem SP.rdRaw {w : World} {P : Nat} {sum : List Int} {lsn num bot : Int} {sl raw : List Int} (h : SP w P sum lsn num bot sl raw) (x y : Nat) (c : Nat) (hxy : x + y ≤ 4096) (hc : y ≤ c) : Rd .u8 w (.slice (some ⟨P, 71 + x, none⟩) y c) ((raw.drop x).take y) := by
  have hl : ((raw.drop x).take y).length = y := by simp [h.l3]; omega
  refine ⟨by rw [hl]; unfold maxLen; omega, .inr ⟨P, 71 + x, c, by rw [hl], by rw [hl]; exact hc, fun i hi => ?_⟩⟩
  rw [hl] at hi
  rw [show 71 + x + i = 71 + (x + i) from by omega, h.rawAt (x + i) (by omega)]
  simp [List.getD, List.getElem?_take, List.getElem?_drop, hi]
theorem record_any (P : Nat) (sum : List Int) (lsn num bot : Int) (sl raw : List Int) (x y : Nat) (w : World) (hp : SP w P sum lsn num bot sl raw) (hxy : x + y ≤ 4096) :
    Calls Try.prog 55 #[.pointer (some ⟨P, 0, none⟩), .agg #[.int .i64 x, .int .i64 y]] w fun e w' => ∃ a c, e = .returned (.slice a y c) ∧ Rd .u8 w' (.slice a y c) ((raw.drop x).take y) ∧ Same w w' := by
  have hx : (0 : Int) ≤ x ∧ (x : Int) ≤ 65535 := by omega
  have hy : (0 : Int) ≤ y ∧ (y : Int) ≤ 65535 := by omega
  have HP := (show Hid (SP w P sum lsn num bot sl raw) from hp)
  have hrun : ∀ wx : World, (Instr.sliceAt 50 (.pointer (some ⟨P, 71, none⟩)) (some (.int .i64 (x : Int))) (some (.int .i64 ((x : Int) + (y : Int)))) none).run Try.prog wx = .ok (.slice (some (if 4096 = x then ⟨P, 71, none⟩ else ⟨P, 71 + x, none⟩)) y (4096 - x)) wx := by
    intro wx
    have hal : Try.prog.arrayLen 50 = 4096 := by kernel_rfl
    rw [run_sliceAt_array_lh wx 50 ⟨P, 71, none⟩ (by kernel_rfl) .i64 .i64 x (x + y) (by omega) (by omega) (by rw [hal]; omega), hal]
    have hsz : (sizeOf (Try.prog.elem 50)).run Try.prog wx = .ok 1 wx := by kernel_rfl
    rw [hsz]
    have e1 : ((x : Int) + (y : Int)).toNat - ((x : Int)).toNat = y := by omega
    simp only [Result.andThen, slicedAt, Int.toNat_natCast, Nat.mul_one]
    rw [show ((x : Int) + (y : Int)).toNat - x = y from by omega, addr_add]
  obtain ⟨A, hA⟩ : ∃ A : Addr, (if 4096 = x then ⟨P, 71, none⟩ else ⟨P, 71 + x, none⟩) = A := ⟨_, rfl⟩
  have HA := (show Hid ((if 4096 = x then (⟨P, 71, none⟩ : Addr) else ⟨P, 71 + x, none⟩) = A) from hA)
  rw [hA] at hrun
  clear hp hA
  go_enter Try.func55, Try.ntmps55
  go_wp2_with fail
  have hb1 := Blk.new w #[.int .i64 x, .int .i64 y] 69
  have hk1 : Same w (w.alloc (.cells #[.int .i64 x, .int .i64 y] 69)) := (Kept.refl _ _).alloc _
  obtain ⟨w1, hw1⟩ : ∃ w1, w.alloc (.cells #[.int .i64 x, .int .i64 y] 69) = w1 := ⟨_, rfl⟩
  rw [hw1] at hb1 hk1 ⊢
  clear hw1
  have hSx : ∀ wx, Same w1 wx → (fun wx : World => wx.cell? ⟨w.heap.size, 0, none⟩ = some (.int .i64 x) ∧ wx.cell? ⟨w.heap.size, 1, none⟩ = some (.int .i64 y)) wx := fun wx h => ⟨by rw [(hb1.same h).cell]; rfl, by rw [(hb1.same h).cell]; rfl⟩
  have hS : (fun wx : World => wx.cell? ⟨w.heap.size, 0, none⟩ = some (.int .i64 x) ∧ wx.cell? ⟨w.heap.size, 1, none⟩ = some (.int .i64 y)) w1.drew := by exact hSx _ (Kept.refl _ _).drew
  refine wp_region_V (fun wx : World => wx.cell? ⟨w.heap.size, 0, none⟩ = some (.int .i64 x) ∧ wx.cell? ⟨w.heap.size, 1, none⟩ = some (.int .i64 y)) 8 9 rfl (by kernel_rfl) ?_
  refine tk 0 5 hS ?_
  refine tk 1 6 hS ?_
  refine tk 2 7 hS ?_
  refine tk 3 8 hS ?_
  refine tk 4 9 hS ?_
  refine tk 5 10 hS ?_
  refine wpAnyV_one (i := 6) (by kernel_rfl) rfl (fun K hK => ?_)
  go_simp
  have hc := end_any x y w1.drew hx hy
  with_reducible refine hc.mono ?_
  clear hc
  rintro e w2 ⟨rfl, hkk⟩
  have hkw2 : Same w1 w2 := Kept.trans ((Kept.refl _ _).drew) hkk
  clear hkk
  have hS : (fun wx : World => wx.cell? ⟨w.heap.size, 0, none⟩ = some (.int .i64 x) ∧ wx.cell? ⟨w.heap.size, 1, none⟩ = some (.int .i64 y)) w2 := hSx _ hkw2
  refine hK.out _ _ (fun _ => hS) ?_
  clear hK K
  try simp only [Act.put, sA, s0, sS]
  refine wpAnyV_take (i := 7) (v := .slice (some A) y (4096 - x)) (some 12) rfl rfl (by kernel_rfl) (by kernel_rfl) (by kernel_rfl) (by kernel_rfl) (fun _ _ _ h => h) (Or.inl ⟨by rfl, fun wx hSw => by have h := hrun wx; go_simp⟩) hS ?_
  try simp only [Act.put, sA, s0, sS]
  refine wpAnyV_one (i := 8) (by kernel_rfl) rfl (fun K hK => ?_)
  go_simp
  refine hK.out _ _ (fun h => absurd rfl h) ?_
  clear hK K
  refine wpAnyV_done (by kernel_rfl) ?_
  try simp only [Act.put, sA, s0, sS]
  go_wp2
  go_ret
  refine ⟨_, _, rfl, ?_, hk1.trans hkw2⟩
  have hsp := HP.out.same (hk1.trans hkw2)
  rw [← HA.out]
  by_cases h : 4096 = x
  · obtain rfl : y = 0 := by omega
    rw [if_pos h, List.take_zero]
    exact ⟨by simp, .inl ⟨rfl, _, _, rfl, fun h => by cases h⟩⟩
  · rw [if_neg h]
    exact hsp.rdRaw x y (4096 - x) hxy (by omega)
def pageGet (raw : List Int) (s : Int) : Bool × List Int :=
  if ownOK raw = true ∧ 0 ≤ s ∧ s < 32 ∧ (slotsOf raw).getD (2 * s.toNat) 0 ≠ 0 then (true, stretch raw ((slotsOf raw).getD (2 * s.toNat) 0) ((slotsOf raw).getD (2 * s.toNat + 1) 0)) else (false, [])
theorem pageGet_yes {raw : List Int} {k : Nat} (h : ownOK raw = true) (hk : k < 32) (h0 : (slotsOf raw).getD (2 * k) 0 ≠ 0) : pageGet raw k = (true, stretch raw ((slotsOf raw).getD (2 * k) 0) ((slotsOf raw).getD (2 * k + 1) 0)) := by
  unfold pageGet
  rw [if_pos ⟨h, by omega, by omega, by simpa using h0⟩]
  rfl
theorem pageGet_no {raw : List Int} {s : Int} (h : ownOK raw = false ∨ s < 0 ∨ 32 ≤ s ∨ (slotsOf raw).getD (2 * s.toNat) 0 = 0) : pageGet raw s = (false, []) := by
  unfold pageGet
  rw [if_neg]
  rintro ⟨h1, h2, h3, h4⟩
  rcases h with h | h | h | h
  · rw [h1] at h; cases h
  · omega
  · omega
  · exact h4 h
theorem isSlot_any (s : Int) (w : World) : Calls Try.prog 52 #[.int .i64 s] w fun e w' => e = .returned (.bool (decide (0 ≤ s) && decide (s < 32))) ∧ Same w w' := by
  by_cases h : 0 ≤ s
  · by_cases h2 : s < 32
    · have h2' : ¬ (32 ≤ s) := by omega
      go_enter Try.func52, Try.ntmps52
      go_wp2
      go_ret
      exact ⟨by simp [h, h2], Kept.refl _ _⟩
    · have h2' : (32 ≤ s) := by omega
      go_enter Try.func52, Try.ntmps52
      go_wp2
      go_ret
      exact ⟨by simp [h, h2], Kept.refl _ _⟩
  · go_enter Try.func52, Try.ntmps52
    go_wp2
    go_ret
    exact ⟨by rw [show decide (0 ≤ s) = false from by simp; omega]; rfl, Kept.refl _ _⟩
end Go.Proofs.Ytemejkadankbhaa
