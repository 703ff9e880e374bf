/-
  What RecordFault tells, kind by kind, and its small parts.
-/
import Derived.Test.YtclmdpmelifplabEqFn
import Derived.Test.YtclmdpmelifplabGetFn
namespace Go.Proofs.Ytclmdpmelifplab
open Go.RowKit
set_option linter.unusedVariables false
set_option linter.unusedSimpArgs false

def isTxnB (x : Int) : Bool := decide (1 ≤ x) && decide (x ≤ 2147483647)
def isPageB (x : Int) : Bool := decide (0 ≤ x) && decide (x < 16)
def isSlotB (x : Int) : Bool := decide (0 ≤ x) && decide (x < 32)
def fitsB (u : Bool) (n : Nat) : Bool := decide (n ≤ 1000) && (u || decide (n = 0))
def headF (txn prev : Int) : Int := if isTxnB txn = false then 3 else if isLSN prev = false then 4 else 0
def placeF (page slot : Int) : Int := if (isPageB page && isSlotB slot) = true then 0 else 5
def orF (a b c : Int) : Int := if a ≠ 0 then a else if b ≠ 0 then b else c
def updF (bu au : Bool) (bn an : Nat) : Int := if (fitsB bu bn && fitsB au an && (bu || au)) = true then 0 else 6
def undF (au : Bool) (an : Nat) (un : Int) : Int := if fitsB au an = false then 6 else if isLSN un = false then 7 else 0

set_option maxRecDepth 100000 in
theorem isTxn_any (x : Int) (w : World) : Calls Try.prog 126 #[.int .i64 x] w fun e w' => e = .returned (.bool (isTxnB x)) ∧ Same w w' := by
  unfold isTxnB
  by_cases h : 1 ≤ x
  · by_cases h2 : x ≤ 2147483647
    · go_enter Try.func126, Try.ntmps126
      go_wp2
      go_ret
      exact ⟨by simp [h, h2], Kept.refl _ _⟩
    · go_enter Try.func126, Try.ntmps126
      go_wp2
      go_ret
      exact ⟨by simp [h]; omega, Kept.refl _ _⟩
  · go_enter Try.func126, Try.ntmps126
    go_wp2
    go_ret
    exact ⟨by rw [show decide (1 ≤ x) = false from by simp; omega]; rfl, Kept.refl _ _⟩
set_option maxRecDepth 100000 in
theorem isPage_any (x : Int) (w : World) : Calls Try.prog 41 #[.int .i64 x] w fun e w' => e = .returned (.bool (isPageB x)) ∧ Same w w' := by
  unfold isPageB
  by_cases h : 0 ≤ x
  · by_cases h2 : x < 16
    · go_enter Try.func41, Try.ntmps41
      go_wp2
      go_ret
      exact ⟨by simp [h, h2], Kept.refl _ _⟩
    · go_enter Try.func41, Try.ntmps41
      go_wp2
      go_ret
      exact ⟨by simp [h]; omega, Kept.refl _ _⟩
  · go_enter Try.func41, Try.ntmps41
    go_wp2
    go_ret
    exact ⟨by rw [show decide (0 ≤ x) = false from by simp; omega]; rfl, Kept.refl _ _⟩
set_option maxRecDepth 100000 in
theorem fits_any (u : Bool) (a : Option Addr) (n c : Nat) (w : World) (hn : n ≤ maxLen) : Calls Try.prog 134 #[.agg #[.bool u, .slice a n c]] w fun e w' => e = .returned (.bool (fitsB u n)) ∧ Same w w' := by
  unfold maxLen at hn
  unfold fitsB
  by_cases h : (n : Int) ≤ 1000
  · have h1 : n ≤ 1000 := by omega
    cases u with
    | true =>
      go_enter Try.func134, Try.ntmps134
      go_wp2
      go_ret
      exact ⟨by simp [h1], (Kept.refl _ _).alloc _⟩
    | false =>
      by_cases h0 : n = 0
      · subst h0
        go_enter Try.func134, Try.ntmps134
        go_wp2
        go_ret
        exact ⟨by simp, (Kept.refl _ _).alloc _⟩
      · have h0' : ¬ (n : Int) = 0 := by omega
        go_enter Try.func134, Try.ntmps134
        go_wp2
        go_ret
        exact ⟨by simp [h0, h1], (Kept.refl _ _).alloc _⟩
  · have h1 : ¬ n ≤ 1000 := by omega
    go_enter Try.func134, Try.ntmps134
    go_wp2
    go_ret
    exact ⟨by simp [h1], (Kept.refl _ _).alloc _⟩
set_option maxRecDepth 100000 in
set_option maxHeartbeats 2000000 in
theorem headFault_any (txn prev : Int) (w : World) : Calls Try.prog 125 #[.agg #[.int .i64 txn, .int .i64 prev]] w fun e w' => e = .returned (.int .i64 (headF txn prev)) ∧ Same w w' := by
  have h1 := fun wx => isTxn_any txn wx
  have h2 := fun wx => isLSN_any prev wx
  have hb := Blk.new w #[.int .i64 txn, .int .i64 prev] 96
  unfold headF
  cases e1 : isTxnB txn with
  | false =>
    rw [e1] at h1
    go_enter Try.func125, Try.ntmps125
    go_wp2_with (go_at_call 126; refine (h1 _).mono ?_; rintro e w1 ⟨rfl, hk1⟩; have c1 : w1.cell? ⟨w.heap.size, 1, none⟩ = some (.int .i64 prev) := (hb.same hk1).cell 1)
    go_ret
    exact ⟨rfl, ((Kept.refl _ _).alloc _).trans hk1⟩
  | true =>
    rw [e1] at h1
    cases e2 : isLSN prev with
    | false =>
      rw [e2] at h2
      go_enter Try.func125, Try.ntmps125
      go_wp2_with (first | (go_at_call 126; refine (h1 _).mono ?_; rintro e w1 ⟨rfl, hk1⟩; have c1 : w1.cell? ⟨w.heap.size, 1, none⟩ = some (.int .i64 prev) := (hb.same hk1).cell 1) | (go_at_call 127; refine (h2 _).mono ?_; rintro e w2 ⟨rfl, hk2⟩))
      go_ret
      exact ⟨rfl, (((Kept.refl _ _).alloc _).trans hk1).trans hk2⟩
    | true =>
      rw [e2] at h2
      go_enter Try.func125, Try.ntmps125
      go_wp2_with (first | (go_at_call 126; refine (h1 _).mono ?_; rintro e w1 ⟨rfl, hk1⟩; have c1 : w1.cell? ⟨w.heap.size, 1, none⟩ = some (.int .i64 prev) := (hb.same hk1).cell 1) | (go_at_call 127; refine (h2 _).mono ?_; rintro e w2 ⟨rfl, hk2⟩))
      go_ret
      exact ⟨rfl, (((Kept.refl _ _).alloc _).trans hk1).trans hk2⟩
set_option maxRecDepth 100000 in
set_option maxHeartbeats 2000000 in
theorem placeFault_any (page slot : Int) (w : World) : Calls Try.prog 128 #[.agg #[.int .i64 page, .int .i64 slot]] w fun e w' => e = .returned (.int .i64 (placeF page slot)) ∧ Same w w' := by
  have h1 := fun wx => isPage_any page wx
  have h2 : ∀ wx, Calls Try.prog 129 #[.int .i64 slot] wx fun e w' => e = .returned (.bool (isSlotB slot)) ∧ Same wx w' := fun wx => isSlot_any slot wx
  have hb := Blk.new w #[.int .i64 page, .int .i64 slot] 98
  unfold placeF
  cases e1 : isPageB page with
  | false =>
    rw [e1] at h1
    go_enter Try.func128, Try.ntmps128
    go_wp2_with (go_at_call 41; refine (h1 _).mono ?_; rintro e w1 ⟨rfl, hk1⟩; have c1 : w1.cell? ⟨w.heap.size, 1, none⟩ = some (.int .i64 slot) := (hb.same hk1).cell 1)
    go_ret
    exact ⟨rfl, ((Kept.refl _ _).alloc _).trans hk1⟩
  | true =>
    rw [e1] at h1
    cases e2 : isSlotB slot with
    | false =>
      rw [e2] at h2
      go_enter Try.func128, Try.ntmps128
      go_wp2_with (first | (go_at_call 41; refine (h1 _).mono ?_; rintro e w1 ⟨rfl, hk1⟩; have c1 : w1.cell? ⟨w.heap.size, 1, none⟩ = some (.int .i64 slot) := (hb.same hk1).cell 1) | (go_at_call 129; refine (h2 _).mono ?_; rintro e w2 ⟨rfl, hk2⟩))
      go_ret
      exact ⟨rfl, (((Kept.refl _ _).alloc _).trans hk1).trans hk2⟩
    | true =>
      rw [e2] at h2
      go_enter Try.func128, Try.ntmps128
      go_wp2_with (first | (go_at_call 41; refine (h1 _).mono ?_; rintro e w1 ⟨rfl, hk1⟩; have c1 : w1.cell? ⟨w.heap.size, 1, none⟩ = some (.int .i64 slot) := (hb.same hk1).cell 1) | (go_at_call 129; refine (h2 _).mono ?_; rintro e w2 ⟨rfl, hk2⟩))
      go_ret
      exact ⟨rfl, (((Kept.refl _ _).alloc _).trans hk1).trans hk2⟩
set_option maxRecDepth 100000 in
set_option maxHeartbeats 2000000 in
theorem cmpOr_any (g a b c : Int) (B : Nat) (w : World) (h0 : w.cell? ⟨B, 0, none⟩ = some (.int .i64 a)) (h1 : w.cell? ⟨B, 1, none⟩ = some (.int .i64 b)) (h2 : w.cell? ⟨B, 2, none⟩ = some (.int .i64 c)) :
    Calls Try.prog 135 #[.slice (some ⟨B, 0, none⟩) 3 3] w fun e w' => e = .returned (.int .i64 (orF a b c)) ∧ Same w w' := by
  unfold orF
  by_cases ha : a = 0
  · subst ha
    by_cases hb : b = 0
    · subst hb
      by_cases hc : c = 0
      · subst hc
        go_enter Try.func135, Try.ntmps135
        go_wp2
        refine wp_loop_rounds 4 ?_
        rw [rounds_succ]
        go_wp2
        rw [rounds_succ]
        go_wp2
        rw [rounds_succ]
        go_wp2
        rw [rounds_succ]
        go_wp2
        go_ret
        exact ⟨by simp, Kept.refl _ _⟩
      · go_enter Try.func135, Try.ntmps135
        go_wp2
        refine wp_loop_rounds 4 ?_
        rw [rounds_succ]
        go_wp2
        rw [rounds_succ]
        go_wp2
        rw [rounds_succ]
        go_wp2
        go_ret
        exact ⟨by simp, Kept.refl _ _⟩
    · go_enter Try.func135, Try.ntmps135
      go_wp2
      refine wp_loop_rounds 4 ?_
      rw [rounds_succ]
      go_wp2
      rw [rounds_succ]
      go_wp2
      go_ret
      exact ⟨by simp [hb], Kept.refl _ _⟩
  · go_enter Try.func135, Try.ntmps135
    go_wp2
    refine wp_loop_rounds 4 ?_
    rw [rounds_succ]
    go_wp2
    go_ret
    exact ⟨by simp [ha], Kept.refl _ _⟩
end Go.Proofs.Ytclmdpmelifplab
