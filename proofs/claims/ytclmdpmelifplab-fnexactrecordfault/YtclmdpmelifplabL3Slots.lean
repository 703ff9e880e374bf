/-
  spec.l3Slots.
-/
import Derived.Test.YtclmdpmelifplabL3Num
import Derived.Test.YtclmdpmelifplabFaultFn
import Derived.Deep.AppendLies
namespace Go.Proofs.Ytclmdpmelifplab
open Go.RowKit
set_option linter.unusedVariables false
set_option linter.unusedSimpArgs false

theorem owns_form {w : World} {base size n : Nat} {e : TypeId} {v : Value} {xs : List Value} (h : w.ownsRow base e size v n xs) (hn : 0 < n) : ∃ g cap, v = .slice (some ⟨g, 0, none⟩) n cap := by
  rcases h.2 with ⟨_, h0⟩ | ⟨g, cap, cur, h, _⟩
  · omega
  · exact ⟨g, cap, h⟩
theorem owns_le {w : World} {base base' size n : Nat} {e : TypeId} {v : Value} {xs : List Value} (h : w.ownsRow base e size v n xs) (hb : base' ≤ base) : w.ownsRow base' e size v n xs := by
  refine ⟨h.1, ?_⟩
  rcases h.2 with h0 | ⟨g, cap, cur, h, hg, rest⟩
  · exact .inl h0
  · exact .inr ⟨g, cap, cur, h, Nat.le_trans hb hg, rest⟩
theorem infoSlot : (Try.prog.info? 93).map (fun i => (i.zero, i.size, i.bytes)) = some (some (.agg #[.int .i64 0, .int .i64 0]), 2, 16) := by kernel_rfl
theorem take2 (sl : List Int) (k : Nat) (h : 2 * k + 1 < sl.length) : vals .i64 (sl.take (2 * (k + 1))) = vals .i64 (sl.take (2 * k)) ++ [.int .i64 (sl.getD (2 * k) 0), .int .i64 (sl.getD (2 * k + 1) 0)] := by
  have e1 : sl.getD (2 * k) 0 = sl[2 * k] := by simp [List.getD, List.getElem?_eq_getElem (show 2 * k < sl.length by omega)]
  have e2 : sl.getD (2 * k + 1) 0 = sl[2 * k + 1] := by simp [List.getD, List.getElem?_eq_getElem h]
  rw [show 2 * (k + 1) = 2 * k + 1 + 1 from by omega, List.take_succ_eq_append_getElem h, List.take_succ_eq_append_getElem (by omega), e1, e2]
  unfold vals
  rw [List.map_append, List.map_append, List.append_assoc]
  rfl

set_option maxRecDepth 100000 in
set_option maxHeartbeats 4000000 in
theorem l3Slots_any (b off c : Nat) (raw : List Int) (w : World) (hB : IsB raw) (hl : raw.length = 4096) (hv : Rd .u8 w (.slice (some ⟨b, off, none⟩) 4096 c) raw) :
    Calls Try.prog 55 #[.slice (some ⟨b, off, none⟩) 4096 c] w fun e w' => ∃ g cap, e = .returned (.slice (some ⟨g, 0, none⟩) 32 cap) ∧ w.heap.size ≤ g ∧ w'.ownsRow 0 93 2 (.slice (some ⟨g, 0, none⟩) 32 cap) 32 (vals .i64 (slotsOf raw)) ∧ Same w w' := by
  obtain ⟨i0, hi, hz0, hz1, hz2⟩ := info_parts infoSlot
  have HNu := (show Hid (∀ wx, Same w wx → ∀ o : Nat, o + 2 ≤ 4096 → Calls Try.prog 53 #[.slice (some ⟨b, off, none⟩) 4096 c, .int .i64 o, .int .i64 2] wx fun e w' => e = .returned (.int .i64 (numAt raw o 2)) ∧ Same wx w') from fun wx h o ho =>
    l3Number_any b off 4096 c raw o 2 wx hB hl (by decide) (by decide) ho (hv.same h))
  clear hv hB
  go_enter Try.func55, Try.ntmps55
  go_wp2
  go_loopw [3, 4, 5] (fun s i _ wr => ∃ (k g cap : Nat), k ≤ 32 ∧ s = .slice (some ⟨g, 0, none⟩) k cap ∧ i = .int .i64 k ∧ Hid (wr.ownsRow w.heap.size 93 2 (.slice (some ⟨g, 0, none⟩) k cap) k (vals .i64 ((slotsOf raw).take (2 * k)))) ∧ Hid (Same w wr)) (fun _ i _ _ => 32 - (intOf i).toNat)
  case atStart =>
    refine ⟨0, w.heap.size, 0, by omega, rfl, rfl, ?_, (Kept.refl _ _).alloc _⟩
    exact World.ownsRow_made w #[] 0 (Nat.le_refl _) (by simp) (by simp)
  case round =>
    obtain ⟨k, g, cap, hk, rfl, rfl, HO, HK⟩ := hrel
    by_cases hlt : k < 32
    · have hk2 : (k : Int) < 32 := by omega
      have HX := (show Hid ((slotsOf raw).getD (2 * k) 0 = numAt raw (20 + 4 * k) 2) from (by rw [slotsOf_at _ _ (by omega), show 20 + 2 * (2 * k) = 20 + 4 * k from by omega] : (slotsOf raw).getD (2 * k) 0 = numAt raw (20 + 4 * k) 2))
      have HY := (show Hid ((slotsOf raw).getD (2 * k + 1) 0 = numAt raw (20 + 4 * k + 2) 2) from (by rw [slotsOf_at _ _ (by omega), show 20 + 2 * (2 * k + 1) = 20 + 4 * k + 2 from by omega] : (slotsOf raw).getD (2 * k + 1) 0 = numAt raw (20 + 4 * k + 2) 2))
      have HT := (show Hid (_ = _) from take2 (slotsOf raw) k (by rw [slotsOf_length]; omega))
      rw [HX.out, HY.out] at HT
      have h1 := HNu.out wr HK.out (20 + 4 * k) (by omega)
      have h2 := fun wx (h : Same wr wx) => HNu.out wx (HK.out.trans h) (20 + 4 * k + 2) (by omega)
      generalize numAt raw (20 + 4 * k) 2 = X at *
      generalize numAt raw (20 + 4 * k + 2) 2 = Y at *
      have e1 : ((20 + 4 * k : Nat) : Int) = 20 + 4 * (k : Int) := by omega
      have e2 : ((20 + 4 * k + 2 : Nat) : Int) = 20 + 4 * (k : Int) + 2 := by omega
      rw [e1] at h1
      rw [e2] at h2
      have HOB := (show Hid (∀ wx, Same wr wx → ∀ o, (wx.alloc o).ownsRow w.heap.size 93 2 (.slice (some ⟨g, 0, none⟩) k cap) k (vals .i64 ((slotsOf raw).take (2 * k)))) from fun wx h o => (h.trans ((Kept.refl _ _).alloc o)).owns HO.out (fun _ _ => id))
      clear e1 e2 HX HY
      go_wp2_with (first
        | (go_at_call 53; refine h1.mono ?_; rintro e w1 ⟨rfl, hk1⟩; have h3 := h2 w1 hk1; clear h1)
        | (go_at_call 53; refine h3.mono ?_; rintro e w2 ⟨rfl, hk2'⟩; have HK2 := (show Hid (Same wr w2) from hk1.trans hk2'); have hz2' := HK2.out.size; have hzr := HK.out.size)
        | (at_builtin; (refine wpList_append_own _ rfl _ _ 90 rfl w.heap.size 93 i0 (.agg #[.int .i64 0, .int .i64 0]) 2 16 Try.underlying90 hi hz0 hz1 hz2 rfl (by decide) (.slice (some ⟨g, 0, none⟩) k cap) k (vals .i64 ((slotsOf raw).take (2 * k))) rfl (HOB.out w2 HK2.out _) ⟨w2.heap.size, 0, none⟩ 1 1 [.int .i64 X, .int .i64 Y] rfl rfl (World.news_of_block (cs := #[.int .i64 X, .int .i64 Y]) (t := 93) (fr := (0, 0)) (by unfold World.alloc; exact Array.getElem?_push_size)) (by intro u hu; simp at hu; rcases hu with rfl | rfl <;> rfl) (by unfold maxLen; omega) (by omega) (by simp; omega) ?_); intro v' w3 hown3 hgrow3 _; have HO3 := (show Hid (w3.ownsRow w.heap.size 93 2 v' (k + 1) (vals .i64 ((slotsOf raw).take (2 * (k + 1))))) from (by rw [HT.out]; exact hown3)); have HG3 := (show Hid ((w2.alloc (.cells #[.int .i64 X, .int .i64 Y] 93)).grownBy w3 (Value.slice (some ⟨g, 0, none⟩) k cap).ownBlock) from hgrow3); obtain ⟨g3, cap3, rfl⟩ := owns_form HO3.out (by omega); clear hown3 hgrow3))
      have hk3 : Kept (fun b => (Value.slice (some ⟨g, 0, none⟩) k cap).ownBlock = some b) w2 w3 := ((Kept.refl _ _).alloc _).trans (Kept.of_grown HG3.out (fun k e => e))
      have hg := (World.ownsRow.lt HO.out g rfl).1
      go_roundw
      case rel => exact ⟨k + 1, g3, cap3, by omega, rfl, by go_num, HO3, (HK.out.trans HK2.out).next hk3 (fun i hi e => by simp [Value.ownBlock] at e; omega)⟩
      case measure => simp [intOf]; omega
    · obtain rfl : k = 32 := by omega
      go_wp2
      go_ret
      have h := HO.out
      rw [List.take_of_length_le (by rw [slotsOf_length]; decide)] at h
      exact ⟨g, cap, rfl, (World.ownsRow.lt h g rfl).1, owns_le h (Nat.zero_le _), HK.out⟩
end Go.Proofs.Ytclmdpmelifplab
