/-
  impl.isTxn, impl.wrongLock, impl.together, impl.inConflict; cmp.Compare at int64.
-/
import Derived.Test.YtagcefbnhpkdiabLockSpec
import Derived.Test.YtagcefbnhpkdiabDrawn
namespace Go.Proofs.Ytagcefbnhpkdiab
set_option maxRecDepth 100000
set_option maxHeartbeats 4000000
open Go.RowKit
set_option linter.unusedVariables false
set_option linter.unusedSimpArgs false

theorem isTxn8_any (x : Int) (w : World) : Calls Try.prog 54 #[.int .i64 x] w fun e w' => e = .returned (.bool (inB x 1 2147483647)) ∧ w' = w := by
  unfold inB
  by_cases h : 1 ≤ x
  · by_cases h2 : x ≤ 2147483647
    · go_enter Try.func54, Try.ntmps54
      go_wp2
      go_ret
      exact ⟨by simp [h, h2], rfl⟩
    · go_enter Try.func54, Try.ntmps54
      go_wp2
      go_ret
      exact ⟨by simp [h]; try omega, rfl⟩
  · go_enter Try.func54, Try.ntmps54
    go_wp2
    go_ret
    exact ⟨by rw [show decide (1 ≤ x) = false from by simp; omega]; rfl, rfl⟩

theorem isId8_any (x : Int) (w : World) : Calls Try.prog 55 #[.int .i64 x] w fun e w' => e = .returned (.bool (inB x 0 511)) ∧ w' = w := by
  unfold inB
  by_cases h : 0 ≤ x
  · by_cases h2 : x ≤ 511
    · go_enter Try.func55, Try.ntmps55
      go_wp2
      go_ret
      exact ⟨by simp [h]; try omega, rfl⟩
    · go_enter Try.func55, Try.ntmps55
      go_wp2
      go_ret
      exact ⟨by simp [h]; try omega, rfl⟩
  · go_enter Try.func55, Try.ntmps55
    go_wp2
    go_ret
    exact ⟨by rw [show decide (0 ≤ x) = false from by simp; omega]; rfl, rfl⟩

theorem wrongLock_any (p : T3) (w : World) :
    Calls Try.prog 67 #[.agg #[.int .i64 p.1, .int .i64 p.2.1, .int .i64 p.2.2]] w fun e w' => e = .returned (.bool (lkBad p)) ∧ Same w w' := by
  obtain ⟨B, hB⟩ : ∃ B, lkBad p = B := ⟨_, rfl⟩
  rw [hB]
  unfold lkBad at hB
  obtain ⟨x, y, z⟩ := p
  dsimp only at hB ⊢
  have HB0 := (show Hid (Blk (w.alloc (.cells #[.int .i64 x, .int .i64 y, .int .i64 z] 73)) w.heap.size 73 [.int .i64 x, .int .i64 y, .int .i64 z]) from Blk.newL w _ _)
  have HK0 := hid (sameA w [.int .i64 x, .int .i64 y, .int .i64 z] 73)
  obtain ⟨c0, c1, c2⟩ := HB0.out.all3
  have k0 := isTxn8_any y
  have ki := isId8_any x
  cases e0 : inB x 0 511 with
  | false =>
    rw [e0] at ki hB
    subst hB
    go_enter Try.func67, Try.ntmps67
    go_wp2_with fail
    refine (ki _).mono ?_
    rintro e w1 ⟨rfl, rfl⟩
    go_wp2
    go_ret
    exact ⟨by simp, HK0.out⟩
  | true =>
  rw [e0] at ki hB
  cases f : inB y 1 2147483647 with
  | false =>
    rw [f] at k0 hB
    subst hB
    go_enter Try.func67, Try.ntmps67
    go_wp2_with fail
    refine (ki _).mono ?_
    rintro e w1 ⟨rfl, rfl⟩
    go_wp2_with fail
    refine (k0 _).mono ?_
    rintro e w1 ⟨rfl, rfl⟩
    go_wp2
    go_ret
    exact ⟨by simp, HK0.out⟩
  | true =>
    rw [f] at k0 hB
    by_cases h2 : z = 1
    · subst h2
      subst hB
      go_enter Try.func67, Try.ntmps67
      go_wp2_with fail
      refine (ki _).mono ?_
      rintro e w1 ⟨rfl, rfl⟩
      go_wp2_with fail
      refine (k0 _).mono ?_
      rintro e w1 ⟨rfl, rfl⟩
      go_wp2
      go_ret
      exact ⟨by simp [inB], HK0.out⟩
    · have q2 : (z != 1) = true := by simp [h2]
      by_cases h3 : z = 2
      · subst h3
        subst hB
        go_enter Try.func67, Try.ntmps67
        go_wp2_with fail
        refine (ki _).mono ?_
        rintro e w1 ⟨rfl, rfl⟩
        go_wp2_with fail
        refine (k0 _).mono ?_
        rintro e w1 ⟨rfl, rfl⟩
        go_wp2
        go_ret
        exact ⟨by simp [inB], HK0.out⟩
      · have q3 : (z != 2) = true := by simp [h3]
        subst hB
        go_enter Try.func67, Try.ntmps67
        go_wp2_with fail
        refine (ki _).mono ?_
        rintro e w1 ⟨rfl, rfl⟩
        go_wp2_with fail
        refine (k0 _).mono ?_
        rintro e w1 ⟨rfl, rfl⟩
        go_wp2
        go_ret
        exact ⟨by simp [inB]; omega, HK0.out⟩

def togB (a b : Int) : Bool := decide (a = 0) || decide (b = 0) || decide (a = 1) && decide (b = 1)
theorem together_any (a b : Int) (w : World) : Calls Try.prog 81 #[.int .i64 a, .int .i64 b] w fun e w' => e = .returned (.bool (togB a b)) ∧ w' = w := by
  unfold togB
  by_cases h0 : a = 0
  · subst h0
    go_enter Try.func81, Try.ntmps81
    go_wp2
    go_ret
    exact ⟨by simp, rfl⟩
  by_cases h1 : b = 0
  · subst h1
    go_enter Try.func81, Try.ntmps81
    go_wp2
    go_ret
    exact ⟨by simp, rfl⟩
  by_cases h2 : a = 1
  · subst h2
    by_cases h3 : b = 1
    · subst h3
      go_enter Try.func81, Try.ntmps81
      go_wp2
      go_ret
      exact ⟨by simp, rfl⟩
    · go_enter Try.func81, Try.ntmps81
      go_wp2
      go_ret
      exact ⟨by simp [h1, h3], rfl⟩
  · go_enter Try.func81, Try.ntmps81
    go_wp2
    go_ret
    exact ⟨by simp [h0, h1, h2], rfl⟩

theorem inConflict_any (p q : T3) (w : World) (hp : lkBad p = false) (hq : lkBad q = false) :
    Calls Try.prog 70 #[.agg #[.int .i64 p.1, .int .i64 p.2.1, .int .i64 p.2.2], .agg #[.int .i64 q.1, .int .i64 q.2.1, .int .i64 q.2.2]] w fun e w' => e = .returned (.bool (lkClash p q)) ∧ Same w w' := by
  have he : lkClash p q = (decide (p.1 = q.1) && !togB p.2.2 q.2.2) := by
    unfold lkBad inB at hp hq
    unfold lkClash togB
    rw [Bool.eq_iff_iff]
    simp at hp hq ⊢
    omega
  rw [he]
  clear hp hq he
  obtain ⟨x, y, z⟩ := p
  obtain ⟨x2, y2, z2⟩ := q
  dsimp only
  have HB0 := (show Hid (Blk (w.alloc (.cells #[.int .i64 x, .int .i64 y, .int .i64 z] 73)) w.heap.size 73 [.int .i64 x, .int .i64 y, .int .i64 z]) from Blk.newL w _ _)
  have HK0 := hid (sameA w [.int .i64 x, .int .i64 y, .int .i64 z] 73)
  obtain ⟨w1, hw1⟩ : ∃ w1, w.alloc (.cells #[.int .i64 x, .int .i64 y, .int .i64 z] 73) = w1 := ⟨_, rfl⟩
  rw [hw1] at HB0 HK0
  have HB1 := (show Hid (Blk (w1.alloc (.cells #[.int .i64 x2, .int .i64 y2, .int .i64 z2] 73)) w1.heap.size 73 [.int .i64 x2, .int .i64 y2, .int .i64 z2]) from Blk.newL w1 _ _)
  have HK1 := hid (sameA w1 [.int .i64 x2, .int .i64 y2, .int .i64 z2] 73)
  obtain ⟨c0, c1, c2⟩ := (HB0.out.same HK1.out).all3
  obtain ⟨d0, d1, d2⟩ := HB1.out.all3
  have HK2 := hid (HK0.out.trans HK1.out)
  have k0 := together_any z z2
  subst hw1
  by_cases h0 : x = x2
  · subst h0
    go_enter Try.func70, Try.ntmps70
    go_wp2_with fail
    refine (k0 _).mono ?_
    rintro e w1 ⟨rfl, rfl⟩
    go_wp2
    go_ret
    exact ⟨by simp, HK2.out⟩
  · go_enter Try.func70, Try.ntmps70
    go_wp2
    go_ret
    exact ⟨by simp [h0], HK2.out⟩

theorem isNaN8_any (x : Int) (w : World) : Calls Try.prog 82 #[.int .i64 x] w fun e w' => e = .returned (.bool false) ∧ w' = w := by
  go_enter Try.func82, Try.ntmps82
  go_wp2
  go_ret
  exact ⟨by simp, rfl⟩
def cmpI (x y : Int) : Int := if x < y then -1 else if y < x then 1 else 0
theorem compare8_any (x y : Int) (w : World) : Calls Try.prog 74 #[.int .i64 x, .int .i64 y] w fun e w' => e = .returned (.int .i64 (cmpI x y)) ∧ w' = w := by
  have k0 := isNaN8_any x
  have k1 := isNaN8_any y
  unfold cmpI
  by_cases h : x < y
  · rw [if_pos h]
    go_enter Try.func74, Try.ntmps74
    go_wp2_with fail
    refine (k0 _).mono ?_
    rintro e w1 ⟨rfl, rfl⟩
    go_wp2_with fail
    refine (k1 _).mono ?_
    rintro e w1 ⟨rfl, rfl⟩
    go_wp2
    go_ret
    exact ⟨rfl, rfl⟩
  · rw [if_neg h]
    by_cases h2 : y < x
    · rw [if_pos h2]
      go_enter Try.func74, Try.ntmps74
      go_wp2_with fail
      refine (k0 _).mono ?_
      rintro e w1 ⟨rfl, rfl⟩
      go_wp2_with fail
      refine (k1 _).mono ?_
      rintro e w1 ⟨rfl, rfl⟩
      go_wp2
      go_ret
      exact ⟨rfl, rfl⟩
    · rw [if_neg h2]
      go_enter Try.func74, Try.ntmps74
      go_wp2_with fail
      refine (k0 _).mono ?_
      rintro e w1 ⟨rfl, rfl⟩
      go_wp2_with fail
      refine (k1 _).mono ?_
      rintro e w1 ⟨rfl, rfl⟩
      go_wp2
      go_ret
      exact ⟨rfl, rfl⟩
/-- cmp.Or at two numbers -/
theorem or8_any (x y : Int) (w : World) (b : Nat) (hb : w.heap[b]? = some (.cells #[.int .i64 x, .int .i64 y] 3)) :
    Calls Try.prog 80 #[.slice (some ⟨b, 0, none⟩) 2 2] w fun e w' => e = .returned (.int .i64 (if x = 0 then y else x)) ∧ w' = w := by
  have c0 : w.cell? ⟨b, 0, none⟩ = some (.int .i64 x) := by simp [World.cell?, hb]
  have c1 : w.cell? ⟨b, 0 + 1, none⟩ = some (.int .i64 y) := by simp [World.cell?, hb]
  clear hb
  by_cases h : x = 0
  · subst h
    rw [if_pos rfl]
    by_cases h2 : y = 0
    · subst h2
      go_enter Try.func80, Try.ntmps80
      go_wp2
      refine wp_loop_rounds 3 ?_
      rw [rounds_succ]
      go_wp2
      rw [rounds_succ]
      go_wp2
      rw [rounds_succ]
      go_wp2
      go_ret
      exact ⟨rfl, rfl⟩
    · go_enter Try.func80, Try.ntmps80
      go_wp2
      refine wp_loop_rounds 2 ?_
      rw [rounds_succ]
      go_wp2
      rw [rounds_succ]
      go_wp2
      go_ret
      exact ⟨rfl, rfl⟩
  · rw [if_neg h]
    go_enter Try.func80, Try.ntmps80
    go_wp2
    refine wp_loop_rounds 1 ?_
    rw [rounds_succ]
    go_wp2
    go_ret
    exact ⟨rfl, rfl⟩
end Go.Proofs.Ytagcefbnhpkdiab
