/-
  PutNumber, the program's, at any world.
-/
import Derived.Test.YtekpfafmhgplpaaPutNum
namespace Go.Proofs.Ytekpfafmhgplpaa
open Go.RowKit
set_option linter.unusedVariables false

set_option maxRecDepth 100000 in
set_option maxHeartbeats 1000000 in
theorem implPut_yes (v n : Int) (w : World) (hi0 : IsI v) (h1 : 1 ≤ n) (h2 : n ≤ 8) (h3 : 0 ≤ v) :
    Calls Try.prog 10 #[.int .i64 v, .int .i64 n] w fun e w' => ∃ a c, e = .returned (.slice a (numB v n).length c) ∧ (∀ b, (Value.slice a (numB v n).length c).ownBlock = some b → w.heap.size ≤ b) ∧
      Own 0 5 .u8 w' (.slice a (numB v n).length c) (numB v n) ∧ Same w w' := by
  obtain ⟨n, rfl⟩ : ∃ m : Nat, n = m := ⟨n.toNat, by omega⟩
  obtain ⟨i0, hi, hz0, hz1, hz2⟩ := info_parts Try.infoByte'
  obtain ⟨hv1, hv2⟩ := hi0
  have h1' : ¬ (n : Int) < 1 := by omega
  have h2' : ¬ (8 : Int) < n := by omega
  have h3' : ¬ v < 0 := by omega
  by_cases hz : v / 256 ^ n = 0
  · have hz2' : v / 2 ^ (8 * n) = 0 := by rw [pow8]; exact hz
    have hnum : numB v n = lows v n := by unfold numB; rw [if_neg (by simp only [Int.toNat_natCast]; omega)]; simp
    have HN : Hid (numB v n = lows v n) := hnum
    clear hz hnum
    go_enter Try.func10, Try.ntmps10
    go_wp2_with (first
      | (at_make; go_loud (refine wpList_make_full _ rfl _ _ 22 rfl 0 5 i0 (.int .u8 0) 1 Try.underlying22 hi hz0 hz1 .i64 .i64 _ _ n rfl rfl (by first | rfl | simp | omega) (by first | rfl | simp | omega) (by rw [hz2]; omega) (by unfold maxLen; omega) (Nat.zero_le _) ?_); intro w1 hown1 hgrow1; have HO : Hid (Own 0 5 .u8 w1 (.slice (some ⟨w.heap.size, 0, none⟩) n n) (List.replicate n 0)) := own_made (by simpa using hown1); have HK : Hid (Same w w1) := Kept.of_grown hgrow1 (fun k e => by cases e); clear hown1 hgrow1)
      | (go_at_call 37; refine (writeNumber_any w.heap.size 0 n n 5 (vals .u8 (List.replicate n 0)) v _ (Own.blk HO.out) (by simp [vals]) h3 (by omega) (by omega)).mono ?_; rintro e w2 ⟨rfl, hb2, hk2⟩))
    go_ret
    rw [HN.out, lows_length]
    rw [lay_all _ _ (by simp [vals, lows_length])] at hb2
    refine ⟨_, _, rfl, fun b hb => ?_, ?_, HK.out.next hk2 (fun i hi e => by omega)⟩
    · simp [Value.ownBlock] at hb; omega
    · have h := Blk.own hb2 (by unfold maxLen; rw [lows_length]; omega)
      rw [lows_length] at h
      exact h
  · have hz2' : v / 2 ^ (8 * n) ≠ 0 := by rw [pow8]; exact hz
    have hnum : numB v n = [] := by unfold numB; rw [if_pos (by simp only [Int.toNat_natCast]; omega)]
    have HN : Hid (numB v n = []) := hnum
    clear hz hnum
    go_enter Try.func10, Try.ntmps10
    go_wp2
    go_ret
    rw [HN.out]
    exact ⟨none, 0, rfl, fun b hb => by simp [Value.ownBlock] at hb, Own.nil _ _ _ _, Kept.refl _ _⟩

set_option maxRecDepth 100000 in
set_option maxHeartbeats 1000000 in
theorem implPut_no (v n : Int) (w : World) (h : n < 1 ∨ 8 < n ∨ v < 0) :
    Calls Try.prog 10 #[.int .i64 v, .int .i64 n] w fun e w' => e = .returned (.slice none 0 0) ∧ w' = w := by
  rcases h with h | h
  · go_enter Try.func10, Try.ntmps10
    go_wp2
    go_ret
    exact ⟨rfl, rfl⟩
  · by_cases h1 : n < 1
    · go_enter Try.func10, Try.ntmps10
      go_wp2
      go_ret
      exact ⟨rfl, rfl⟩
    · rcases h with h | h
      · go_enter Try.func10, Try.ntmps10
        go_wp2
        go_ret
        exact ⟨rfl, rfl⟩
      · by_cases h2 : 8 < n
        · go_enter Try.func10, Try.ntmps10
          go_wp2
          go_ret
          exact ⟨rfl, rfl⟩
        · go_enter Try.func10, Try.ntmps10
          go_wp2
          go_ret
          exact ⟨rfl, rfl⟩

theorem implPut_any (v n : Int) (w : World) (hi0 : IsI v) (hi1 : IsI n) :
    Calls Try.prog 10 #[.int .i64 v, .int .i64 n] w fun e w' => ∃ a c, e = .returned (.slice a (numB v n).length c) ∧ (∀ b, (Value.slice a (numB v n).length c).ownBlock = some b → w.heap.size ≤ b) ∧
      Own 0 5 .u8 w' (.slice a (numB v n).length c) (numB v n) ∧ Same w w' := by
  by_cases h : n < 1 ∨ 8 < n ∨ v < 0
  · refine (implPut_no v n w h).mono ?_
    rintro e w' ⟨rfl, rfl⟩
    have e : numB v n = [] := by unfold numB; rw [if_pos (by omega)]
    rw [e]
    exact ⟨none, 0, rfl, fun b hb => by simp [Value.ownBlock] at hb, Own.nil _ _ _ _, Kept.refl _ _⟩
  · exact implPut_yes v n w hi0 (by omega) (by omega) (by omega)
end Go.Proofs.Ytekpfafmhgplpaa
