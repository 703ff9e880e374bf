/-
  LogPlace and LogFault of both sides.
-/
import Derived.Test.YtclmdpmelifplaaL4In
import Derived.Test.YtclmdpmelifplaaTyLog
namespace Go.Proofs.Ytclmdpmelifplaa
open Go.RowKit
set_option linter.unusedVariables false
set_option linter.unusedSimpArgs false

def logPlace (s l : Int) : Int := if (16 ≤ s ∧ s ≤ 800) ∧ (512 ≤ l ∧ l ≤ 1099511627776) then 2 + (l / 512 - 1) % s else -1
theorem logPlace_no {s l : Int} (h : ¬ ((16 ≤ s ∧ s ≤ 800) ∧ (512 ≤ l ∧ l ≤ 1099511627776))) : logPlace s l = -1 := if_neg h
theorem logPlace_yes {s l : Int} (h : (16 ≤ s ∧ s ≤ 800) ∧ (512 ≤ l ∧ l ≤ 1099511627776)) : logPlace s l = 2 + (l / 512 - 1) % s := if_pos h
theorem logPlace_bound {s l : Int} (h : (16 ≤ s ∧ s ≤ 800) ∧ (512 ≤ l ∧ l ≤ 1099511627776)) : 2 ≤ logPlace s l ∧ logPlace s l < 2 + s := by
  rw [logPlace_yes h]
  have h1 := Int.emod_nonneg (l / 512 - 1) (show s ≠ 0 by omega)
  have h2 := Int.emod_lt_of_pos (l / 512 - 1) (show 0 < s by omega)
  omega
theorem inB_true {v a b : Int} (h : a ≤ v ∧ v ≤ b) : inB v a b = true := by simp [inB, h.1, h.2]
theorem inB_false {v a b : Int} (h : ¬ (a ≤ v ∧ v ≤ b)) : inB v a b = false := by simp [inB]; omega

set_option maxRecDepth 100000 in
set_option maxHeartbeats 1000000 in
theorem specPlace_any (s l : Int) (w : World) : Calls Try.prog 8 #[.int .i64 s, .int .i64 l] w fun e w' => e = .returned (.int .i64 (logPlace s l)) ∧ Same w w' := by
  have h1 := fun wx => l4In_any s 16 800 wx
  by_cases hs : 16 ≤ s ∧ s ≤ 800
  · rw [inB_true hs] at h1
    have h2 := fun wx => l4In_any l 512 1099511627776 wx
    by_cases hl : 512 ≤ l ∧ l ≤ 1099511627776
    · rw [inB_true hl] at h2
      rw [logPlace_yes ⟨hs, hl⟩]
      obtain ⟨hs1, hs2⟩ := hs
      obtain ⟨hl1, hl2⟩ := hl
      have hs0 : ¬ s = 0 := by omega
      have hm1 := Int.emod_nonneg (l / 512 - 1) hs0
      have hm2 := Int.emod_lt_of_pos (l / 512 - 1) (show 0 < s by omega)
      have hq : 0 ≤ l / 512 - 1 := by omega
      go_enter Try.func8, Try.ntmps8
      go_wp2_with (first
        | (go_at_call 30; (with_reducible refine (h1 _).mono ?_); rintro e w1 ⟨rfl, hk1⟩)
        | (go_at_call 30; (with_reducible refine (h2 _).mono ?_); rintro e w2 ⟨rfl, hk2⟩))
      go_ret
      exact ⟨ret_int (by omega), hk1.trans hk2⟩
    · rw [inB_false hl] at h2
      rw [logPlace_no (fun h => hl h.2)]
      go_enter Try.func8, Try.ntmps8
      go_wp2_with (first
        | (go_at_call 30; (with_reducible refine (h1 _).mono ?_); rintro e w1 ⟨rfl, hk1⟩)
        | (go_at_call 30; (with_reducible refine (h2 _).mono ?_); rintro e w2 ⟨rfl, hk2⟩))
      go_ret
      exact ⟨rfl, hk1.trans hk2⟩
  · rw [inB_false hs] at h1
    rw [logPlace_no (fun h => hs h.1)]
    go_enter Try.func8, Try.ntmps8
    go_wp2_with (go_at_call 30; (with_reducible refine (h1 _).mono ?_); rintro e w1 ⟨rfl, hk1⟩)
    go_ret
    exact ⟨rfl, hk1⟩
set_option maxRecDepth 100000 in
theorem isLogSize_any (s : Int) (w : World) : Calls Try.prog 31 #[.int .i64 s] w fun e w' => e = .returned (.bool (inB s 16 800)) ∧ Same w w' := by
  unfold inB
  by_cases h : 16 ≤ s
  · go_enter Try.func31, Try.ntmps31
    go_wp2
    go_ret
    exact ⟨by simp [h], Kept.refl _ _⟩
  · go_enter Try.func31, Try.ntmps31
    go_wp2
    go_ret
    exact ⟨by rw [show decide (16 ≤ s) = false from by simp; omega]; rfl, Kept.refl _ _⟩
set_option maxRecDepth 100000 in
set_option maxHeartbeats 1000000 in
theorem implPlace_any (s l : Int) (w : World) : Calls Try.prog 9 #[.int .i64 s, .int .i64 l] w fun e w' => e = .returned (.int .i64 (logPlace s l)) ∧ Same w w' := by
  have h1 := fun wx => isLogSize_any s wx
  by_cases hs : 16 ≤ s ∧ s ≤ 800
  · rw [inB_true hs] at h1
    by_cases hl : 512 ≤ l ∧ l ≤ 1099511627776
    · rw [logPlace_yes ⟨hs, hl⟩]
      obtain ⟨hs1, hs2⟩ := hs
      obtain ⟨hl1, hl2⟩ := hl
      have hs0 : ¬ s = 0 := by omega
      have hl3 : ¬ l < 512 := by omega
      have hl4 : ¬ 1099511627776 < l := by omega
      have hm1 := Int.emod_nonneg (l / 512 - 1) hs0
      have hm2 := Int.emod_lt_of_pos (l / 512 - 1) (show 0 < s by omega)
      have hq : 0 ≤ l / 512 - 1 := by omega
      go_enter Try.func9, Try.ntmps9
      go_wp2_with (go_at_call 31; (with_reducible refine (h1 _).mono ?_); rintro e w1 ⟨rfl, hk1⟩)
      go_ret
      exact ⟨ret_int (by omega), hk1⟩
    · rw [logPlace_no (fun h => hl h.2)]
      by_cases hl1 : l < 512
      · go_enter Try.func9, Try.ntmps9
        go_wp2_with (go_at_call 31; (with_reducible refine (h1 _).mono ?_); rintro e w1 ⟨rfl, hk1⟩)
        go_ret
        exact ⟨rfl, hk1⟩
      · have hl2 : 1099511627776 < l := by omega
        go_enter Try.func9, Try.ntmps9
        go_wp2_with (go_at_call 31; (with_reducible refine (h1 _).mono ?_); rintro e w1 ⟨rfl, hk1⟩)
        go_ret
        exact ⟨rfl, hk1⟩
  · rw [inB_false hs] at h1
    rw [logPlace_no (fun h => hs h.1)]
    go_enter Try.func9, Try.ntmps9
    go_wp2_with (go_at_call 31; (with_reducible refine (h1 _).mono ?_); rintro e w1 ⟨rfl, hk1⟩)
    go_ret
    exact ⟨rfl, hk1⟩

def logFault (s e st fl : Int) (n : Nat) : Int :=
  if ¬ (16 ≤ s ∧ s ≤ 800) then 1 else if ¬ (1 ≤ e ∧ e ≤ 4294967295) then 2 else if fl < 512 ∨ st < fl ∨ 1099511627776 < st then 3 else if (n : Int) ≠ st - fl + fl % 512 then 4 else 0
def logFd (d : Int × Int × Int × Int × List Int) : Int := logFault d.1 d.2.1 d.2.2.1 d.2.2.2.1 d.2.2.2.2.length
theorem logFault_good {s e st fl : Int} {n : Nat} (h : logFault s e st fl n = 0) : (16 ≤ s ∧ s ≤ 800) ∧ (1 ≤ e ∧ e ≤ 4294967295) ∧ 512 ≤ fl ∧ fl ≤ st ∧ st ≤ 1099511627776 ∧ (n : Int) = st - fl + fl % 512 := by
  unfold logFault at h
  split at h
  · cases h
  · split at h
    · cases h
    · split at h
      · cases h
      · split at h
        · cases h
        · omega
def StLog.isB (x : StLog) : Prop := IsB x.tail.bs
theorem StLog.isB_dat {x y : StLog} (h : y.dat = x.dat) (hx : x.isB) : y.isB := by
  simp only [StLog.dat, Prod.mk.injEq] at h
  obtain ⟨_, _, _, _, h3⟩ := h
  unfold StLog.isB at *
  rw [h3]
  exact hx
theorem StLog.size_rd {w : World} {x : StLog} (h : StLog.rd w x) : x.size ≤ 4 * x.szs := by
  simp only [StLog.size, StLog.szs]
  omega
theorem sectorStart_any (p : Int) (w : World) (h0 : 0 ≤ p) (h1 : p ≤ 1099511627776) : Calls Try.prog 34 #[.int .i64 p] w fun e w' => e = .returned (.int .i64 (p - p % 512)) ∧ Same w w' := by
  go_enter Try.func34, Try.ntmps34
  go_wp2
  go_ret
  exact ⟨ret_int (by omega), Kept.refl _ _⟩
set_option maxRecDepth 100000 in
set_option maxHeartbeats 2000000 in
theorem specLogFault_any (x : StLog) (w : World) (hB : x.isB) (hn : x.szs ≤ 1073741824) (hv : StLog.rd w x) :
    Calls Try.prog 11 #[x.val] w fun e w' => e = .returned (.int .i64 (logFd x.dat)) ∧ Same w w' := by
  obtain ⟨s, ep, st, fl, te, ta, tc, tb⟩ := x
  simp only [StLog.szs] at hn
  clear hB hv
  dsimp only [StLog.val, StLog.dat, logFd, BS.v, logFault]
  have h1 := fun wx => l4In_any s 16 800 wx
  have h2 := fun wx => l4In_any ep 1 4294967295 wx
  have b0 := Blk.new w #[.int .i64 s, .int .i64 ep, .int .i64 st, .int .i64 fl, .slice ta tb.length tc] 29
  by_cases hs : 16 ≤ s ∧ s ≤ 800
  · rw [inB_true hs] at h1
    rw [if_neg (not_not_intro hs)]
    by_cases he : 1 ≤ ep ∧ ep ≤ 4294967295
    · rw [inB_true he] at h2
      rw [if_neg (not_not_intro he)]
      clear hs he
      by_cases hp : fl < 512 ∨ st < fl ∨ 1099511627776 < st
      · rw [if_pos hp]
        by_cases hp1 : fl < 512
        · clear hp
          go_enter Try.func11, Try.ntmps11
          go_wp2_with (first
            | (go_at_call 30; (with_reducible refine (h1 _).mono ?_); rintro e w1 ⟨rfl, hk1⟩; have b1 := b0.same hk1; have c1 : w1.cell? ⟨w.heap.size, 1, none⟩ = some (.int .i64 ep) := b1.cell 1)
            | (go_at_call 30; (with_reducible refine (h2 _).mono ?_); rintro e w2 ⟨rfl, hk2⟩; have b2 := b1.same hk2; have c2 : w2.cell? ⟨w.heap.size, 2, none⟩ = some (.int .i64 st) := b2.cell 2; have c3 : w2.cell? ⟨w.heap.size, 3, none⟩ = some (.int .i64 fl) := b2.cell 3; have c4 : w2.cell? ⟨w.heap.size, 4, none⟩ = some (.slice ta tb.length tc) := b2.cell 4))
          go_ret
          exact ⟨rfl, (((Kept.refl _ _).alloc _).trans hk1).trans hk2⟩
        · by_cases hp2 : st < fl
          · clear hp
            go_enter Try.func11, Try.ntmps11
            go_wp2_with (first
              | (go_at_call 30; (with_reducible refine (h1 _).mono ?_); rintro e w1 ⟨rfl, hk1⟩; have b1 := b0.same hk1; have c1 : w1.cell? ⟨w.heap.size, 1, none⟩ = some (.int .i64 ep) := b1.cell 1)
              | (go_at_call 30; (with_reducible refine (h2 _).mono ?_); rintro e w2 ⟨rfl, hk2⟩; have b2 := b1.same hk2; have c2 : w2.cell? ⟨w.heap.size, 2, none⟩ = some (.int .i64 st) := b2.cell 2; have c3 : w2.cell? ⟨w.heap.size, 3, none⟩ = some (.int .i64 fl) := b2.cell 3; have c4 : w2.cell? ⟨w.heap.size, 4, none⟩ = some (.slice ta tb.length tc) := b2.cell 4))
            go_ret
            exact ⟨rfl, (((Kept.refl _ _).alloc _).trans hk1).trans hk2⟩
          · have hp3 : 1099511627776 < st := by omega
            clear hp
            go_enter Try.func11, Try.ntmps11
            go_wp2_with (first
              | (go_at_call 30; (with_reducible refine (h1 _).mono ?_); rintro e w1 ⟨rfl, hk1⟩; have b1 := b0.same hk1; have c1 : w1.cell? ⟨w.heap.size, 1, none⟩ = some (.int .i64 ep) := b1.cell 1)
              | (go_at_call 30; (with_reducible refine (h2 _).mono ?_); rintro e w2 ⟨rfl, hk2⟩; have b2 := b1.same hk2; have c2 : w2.cell? ⟨w.heap.size, 2, none⟩ = some (.int .i64 st) := b2.cell 2; have c3 : w2.cell? ⟨w.heap.size, 3, none⟩ = some (.int .i64 fl) := b2.cell 3; have c4 : w2.cell? ⟨w.heap.size, 4, none⟩ = some (.slice ta tb.length tc) := b2.cell 4))
            go_ret
            exact ⟨rfl, (((Kept.refl _ _).alloc _).trans hk1).trans hk2⟩
      · rw [if_neg hp]
        have hp1 : ¬ fl < 512 := by omega
        have hp2 : ¬ st < fl := by omega
        have hp3 : ¬ 1099511627776 < st := by omega
        clear hp
        by_cases ht : (tb.length : Int) ≠ st - fl + fl % 512
        · rw [if_pos ht]
          go_enter Try.func11, Try.ntmps11
          go_wp2_with (first
            | (go_at_call 30; (with_reducible refine (h1 _).mono ?_); rintro e w1 ⟨rfl, hk1⟩; have b1 := b0.same hk1; have c1 : w1.cell? ⟨w.heap.size, 1, none⟩ = some (.int .i64 ep) := b1.cell 1)
            | (go_at_call 30; (with_reducible refine (h2 _).mono ?_); rintro e w2 ⟨rfl, hk2⟩; have b2 := b1.same hk2; have c2 : w2.cell? ⟨w.heap.size, 2, none⟩ = some (.int .i64 st) := b2.cell 2; have c3 : w2.cell? ⟨w.heap.size, 3, none⟩ = some (.int .i64 fl) := b2.cell 3; have c4 : w2.cell? ⟨w.heap.size, 4, none⟩ = some (.slice ta tb.length tc) := b2.cell 4))
          go_ret
          exact ⟨rfl, (((Kept.refl _ _).alloc _).trans hk1).trans hk2⟩
        · rw [if_neg ht]
          have ht' : (tb.length : Int) = st - fl + fl % 512 := by omega
          clear ht
          go_enter Try.func11, Try.ntmps11
          go_wp2_with (first
            | (go_at_call 30; (with_reducible refine (h1 _).mono ?_); rintro e w1 ⟨rfl, hk1⟩; have b1 := b0.same hk1; have c1 : w1.cell? ⟨w.heap.size, 1, none⟩ = some (.int .i64 ep) := b1.cell 1)
            | (go_at_call 30; (with_reducible refine (h2 _).mono ?_); rintro e w2 ⟨rfl, hk2⟩; have b2 := b1.same hk2; have c2 : w2.cell? ⟨w.heap.size, 2, none⟩ = some (.int .i64 st) := b2.cell 2; have c3 : w2.cell? ⟨w.heap.size, 3, none⟩ = some (.int .i64 fl) := b2.cell 3; have c4 : w2.cell? ⟨w.heap.size, 4, none⟩ = some (.slice ta tb.length tc) := b2.cell 4))
          go_ret
          exact ⟨rfl, (((Kept.refl _ _).alloc _).trans hk1).trans hk2⟩
    · rw [inB_false he] at h2
      rw [if_pos he]
      clear hs he
      go_enter Try.func11, Try.ntmps11
      go_wp2_with (first
        | (go_at_call 30; (with_reducible refine (h1 _).mono ?_); rintro e w1 ⟨rfl, hk1⟩; have b1 := b0.same hk1; have c1 : w1.cell? ⟨w.heap.size, 1, none⟩ = some (.int .i64 ep) := b1.cell 1)
        | (go_at_call 30; (with_reducible refine (h2 _).mono ?_); rintro e w2 ⟨rfl, hk2⟩))
      go_ret
      exact ⟨rfl, (((Kept.refl _ _).alloc _).trans hk1).trans hk2⟩
  · rw [inB_false hs] at h1
    rw [if_pos hs]
    go_enter Try.func11, Try.ntmps11
    go_wp2_with (go_at_call 30; (with_reducible refine (h1 _).mono ?_); rintro e w1 ⟨rfl, hk1⟩)
    go_ret
    exact ⟨rfl, ((Kept.refl _ _).alloc _).trans hk1⟩
end Go.Proofs.Ytclmdpmelifplaa
