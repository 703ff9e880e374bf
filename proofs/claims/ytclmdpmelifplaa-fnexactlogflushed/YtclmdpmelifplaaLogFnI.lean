/-
  LogFault of the program.
-/
import Derived.Test.YtclmdpmelifplaaLogFn
import Derived.Test.YtclmdpmelifplaaDrawn
namespace Go.Proofs.Ytclmdpmelifplaa
open Go.RowKit
set_option linter.unusedVariables false
set_option linter.unusedSimpArgs false

set_option maxRecDepth 100000 in
set_option maxHeartbeats 2000000 in
theorem implLogFault0 (x : StLog) (w : World) (hn : x.szs ≤ 1073741824) :
    Calls Try.prog 13 #[x.val] w fun e w' => e = .returned (.int .i64 (logFd x.dat)) ∧ Same w w' := by
  obtain ⟨s, ep, st, fl, te, ta, tc, tb⟩ := x
  simp only [StLog.szs] at hn
  dsimp only [StLog.val, StLog.dat, logFd, BS.v, logFault]
  have h1 := fun wx => isLogSize_any s wx
  have b0 := Blk.new w #[.int .i64 s, .int .i64 ep, .int .i64 st, .int .i64 fl, .slice ta tb.length tc] 29
  by_cases hs : 16 ≤ s ∧ s ≤ 800
  · rw [inB_true hs] at h1
    rw [if_neg (not_not_intro hs)]
    by_cases he : 1 ≤ ep ∧ ep ≤ 4294967295
    · rw [if_neg (not_not_intro he)]
      have he1 : ¬ ep < 1 := by omega
      have he2 : ¬ 4294967295 < ep := by omega
      clear hs he
      by_cases hp : fl < 512 ∨ st < fl ∨ 1099511627776 < st
      · rw [if_pos hp]
        by_cases hp1 : fl < 512
        · clear hp
          go_enter Try.func13, Try.ntmps13
          go_wp2_with (go_at_call 31; (with_reducible refine (h1 _).mono ?_); rintro e w1 ⟨rfl, hk1⟩; have b1 := b0.same hk1; have c0 : w1.cell? ⟨w.heap.size, 0, none⟩ = some (.int .i64 s) := b1.cell 0; have c1 : w1.cell? ⟨w.heap.size, 1, none⟩ = some (.int .i64 ep) := b1.cell 1; have c2 : w1.cell? ⟨w.heap.size, 2, none⟩ = some (.int .i64 st) := b1.cell 2; have c3 : w1.cell? ⟨w.heap.size, 3, none⟩ = some (.int .i64 fl) := b1.cell 3; have c4 : w1.cell? ⟨w.heap.size, 4, none⟩ = some (.slice ta tb.length tc) := b1.cell 4)
          go_ret
          exact ⟨rfl, ((Kept.refl _ _).alloc _).trans hk1⟩
        · by_cases hp2 : st < fl
          · clear hp
            go_enter Try.func13, Try.ntmps13
            go_wp2_with (go_at_call 31; (with_reducible refine (h1 _).mono ?_); rintro e w1 ⟨rfl, hk1⟩; have b1 := b0.same hk1; have c0 : w1.cell? ⟨w.heap.size, 0, none⟩ = some (.int .i64 s) := b1.cell 0; have c1 : w1.cell? ⟨w.heap.size, 1, none⟩ = some (.int .i64 ep) := b1.cell 1; have c2 : w1.cell? ⟨w.heap.size, 2, none⟩ = some (.int .i64 st) := b1.cell 2; have c3 : w1.cell? ⟨w.heap.size, 3, none⟩ = some (.int .i64 fl) := b1.cell 3; have c4 : w1.cell? ⟨w.heap.size, 4, none⟩ = some (.slice ta tb.length tc) := b1.cell 4)
            go_ret
            exact ⟨rfl, ((Kept.refl _ _).alloc _).trans hk1⟩
          · have hp3 : 1099511627776 < st := by omega
            clear hp
            go_enter Try.func13, Try.ntmps13
            go_wp2_with (go_at_call 31; (with_reducible refine (h1 _).mono ?_); rintro e w1 ⟨rfl, hk1⟩; have b1 := b0.same hk1; have c0 : w1.cell? ⟨w.heap.size, 0, none⟩ = some (.int .i64 s) := b1.cell 0; have c1 : w1.cell? ⟨w.heap.size, 1, none⟩ = some (.int .i64 ep) := b1.cell 1; have c2 : w1.cell? ⟨w.heap.size, 2, none⟩ = some (.int .i64 st) := b1.cell 2; have c3 : w1.cell? ⟨w.heap.size, 3, none⟩ = some (.int .i64 fl) := b1.cell 3; have c4 : w1.cell? ⟨w.heap.size, 4, none⟩ = some (.slice ta tb.length tc) := b1.cell 4)
            go_ret
            exact ⟨rfl, ((Kept.refl _ _).alloc _).trans hk1⟩
      · rw [if_neg hp]
        have hp1 : ¬ fl < 512 := by omega
        have hp2 : ¬ st < fl := by omega
        have hp3 : ¬ 1099511627776 < st := by omega
        clear hp
        have h3 := fun wx => sectorStart_any fl wx (by omega) (by omega)
        have hwr : IntKind.i64.wrap (st - (fl - fl % 512)) = st - (fl - fl % 512) := by rw [IntKind.wrap_i64]; omega
        by_cases ht : (tb.length : Int) ≠ st - fl + fl % 512
        · rw [if_pos ht]
          go_enter Try.func13, Try.ntmps13
          go_wp2_with (go_at_call 31; (with_reducible refine (h1 _).mono ?_); rintro e w1 ⟨rfl, hk1⟩; have b1 := b0.same hk1; have c0 : w1.cell? ⟨w.heap.size, 0, none⟩ = some (.int .i64 s) := b1.cell 0; have c1 : w1.cell? ⟨w.heap.size, 1, none⟩ = some (.int .i64 ep) := b1.cell 1; have c2 : w1.cell? ⟨w.heap.size, 2, none⟩ = some (.int .i64 st) := b1.cell 2; have c3 : w1.cell? ⟨w.heap.size, 3, none⟩ = some (.int .i64 fl) := b1.cell 3; have c4 : w1.cell? ⟨w.heap.size, 4, none⟩ = some (.slice ta tb.length tc) := b1.cell 4)
          have hS : ((fun wx : World => wx.cell? ⟨w.heap.size, 2, none⟩ = some (.int .i64 st) ∧ wx.cell? ⟨w.heap.size, 3, none⟩ = some (.int .i64 fl) ∧ wx.cell? ⟨w.heap.size, 4, none⟩ = some (.slice ta tb.length tc))) w1.drew := by exact ⟨c2, c3, c4⟩
          refine wp_region_V ((fun wx : World => wx.cell? ⟨w.heap.size, 2, none⟩ = some (.int .i64 st) ∧ wx.cell? ⟨w.heap.size, 3, none⟩ = some (.int .i64 fl) ∧ wx.cell? ⟨w.heap.size, 4, none⟩ = some (.slice ta tb.length tc))) 99 11 rfl (by kernel_rfl) ?_
          refine wpAnyV_take (i := 0) (v := ?vq1) (some 34) rfl rfl (by kernel_rfl) (by kernel_rfl) (by kernel_rfl) (by kernel_rfl) (fun _ _ _ h => h) (Or.inl ⟨by rfl, ?hyq1⟩) hS ?_
          case hyq1 => (intro w hSw; (try dsimp only at hSw); go_simp; (try with_reducible rfl))
          try simp only [Act.put, List.setIfInBounds_toArray, List.set_cons_zero, List.set_cons_succ]
          refine wpAnyV_take (i := 1) (v := ?vq2) (some 35) rfl rfl (by kernel_rfl) (by kernel_rfl) (by kernel_rfl) (by kernel_rfl) (fun _ _ _ h => h) (Or.inl ⟨by rfl, ?hyq2⟩) hS ?_
          case hyq2 => (intro w hSw; (try dsimp only at hSw); go_simp; (try with_reducible rfl))
          try simp only [Act.put, List.setIfInBounds_toArray, List.set_cons_zero, List.set_cons_succ]
          refine wpAnyV_take (i := 2) (v := ?vq3) (some 36) rfl rfl (by kernel_rfl) (by kernel_rfl) (by kernel_rfl) (by kernel_rfl) (fun _ _ _ h => h) (Or.inl ⟨by rfl, ?hyq3⟩) hS ?_
          case hyq3 => (intro w hSw; (try dsimp only at hSw); go_simp; (try with_reducible rfl))
          try simp only [Act.put, List.setIfInBounds_toArray, List.set_cons_zero, List.set_cons_succ]
          refine wpAnyV_take (i := 3) (v := ?vq4) (some 37) rfl rfl (by kernel_rfl) (by kernel_rfl) (by kernel_rfl) (by kernel_rfl) (fun _ _ _ h => h) (Or.inl ⟨by rfl, ?hyq4⟩) hS ?_
          case hyq4 => (intro w hSw; (try dsimp only at hSw); go_simp; (try with_reducible rfl))
          try simp only [Act.put, List.setIfInBounds_toArray, List.set_cons_zero, List.set_cons_succ]
          refine wpAnyV_take (i := 4) (v := ?vq5) (some 38) rfl rfl (by kernel_rfl) (by kernel_rfl) (by kernel_rfl) (by kernel_rfl) (fun _ _ _ h => h) (Or.inl ⟨by rfl, ?hyq5⟩) hS ?_
          case hyq5 => (intro w hSw; (try dsimp only at hSw); go_simp; (try with_reducible rfl))
          try simp only [Act.put, List.setIfInBounds_toArray, List.set_cons_zero, List.set_cons_succ]
          refine wpAnyV_take (i := 5) (v := ?vq6) (some 39) rfl rfl (by kernel_rfl) (by kernel_rfl) (by kernel_rfl) (by kernel_rfl) (fun _ _ _ h => h) (Or.inl ⟨by rfl, ?hyq6⟩) hS ?_
          case hyq6 => (intro w hSw; (try dsimp only at hSw); go_simp; (try with_reducible rfl))
          try simp only [Act.put, List.setIfInBounds_toArray, List.set_cons_zero, List.set_cons_succ]
          refine wpAnyV_take (i := 6) (v := ?vq7) (some 40) rfl rfl (by kernel_rfl) (by kernel_rfl) (by kernel_rfl) (by kernel_rfl) (fun _ _ _ h => h) (Or.inl ⟨by rfl, ?hyq7⟩) hS ?_
          case hyq7 => (intro w hSw; (try dsimp only at hSw); go_simp; (try with_reducible rfl))
          try simp only [Act.put, List.setIfInBounds_toArray, List.set_cons_zero, List.set_cons_succ]
          refine wpAnyV_one (i := 7) (by kernel_rfl) rfl (fun K hK => ?_)
          go_simp
          refine (h3 _).mono ?_
          rintro e w2 ⟨rfl, hk2⟩
          have b2 := b1.same ((Kept.refl _ _).drew.trans hk2)
          have hS : ((fun wx : World => wx.cell? ⟨w.heap.size, 2, none⟩ = some (.int .i64 st) ∧ wx.cell? ⟨w.heap.size, 3, none⟩ = some (.int .i64 fl) ∧ wx.cell? ⟨w.heap.size, 4, none⟩ = some (.slice ta tb.length tc))) w2 := by exact ⟨b2.cell 2, b2.cell 3, b2.cell 4⟩
          refine hK.out _ _ (fun _ => hS) ?_
          clear hK K
          try simp only [Act.put, List.setIfInBounds_toArray, List.set_cons_zero, List.set_cons_succ]
          refine wpAnyV_take (i := 8) (v := ?vq8) (some 42) rfl rfl (by kernel_rfl) (by kernel_rfl) (by kernel_rfl) (by kernel_rfl) (fun _ _ _ h => h) (Or.inl ⟨by rfl, ?hyq8⟩) hS ?_
          case hyq8 => (intro w hSw; (try dsimp only at hSw); go_simp; (try with_reducible rfl))
          try simp only [Act.put, List.setIfInBounds_toArray, List.set_cons_zero, List.set_cons_succ]
          refine wpAnyV_take (i := 9) (v := ?vq9) (some 43) rfl rfl (by kernel_rfl) (by kernel_rfl) (by kernel_rfl) (by kernel_rfl) (fun _ _ _ h => h) (Or.inl ⟨by rfl, ?hyq9⟩) hS ?_
          case hyq9 => (intro w hSw; (try dsimp only at hSw); go_simp; (try with_reducible rfl))
          try simp only [Act.put, List.setIfInBounds_toArray, List.set_cons_zero, List.set_cons_succ]
          refine wpAnyV_take (i := 10) (v := ?vq10) (some 33) rfl rfl (by kernel_rfl) (by kernel_rfl) (by kernel_rfl) (by kernel_rfl) (fun _ _ _ h => h) (Or.inl ⟨by rfl, ?hyq10⟩) hS ?_
          case hyq10 => (intro w hSw; (try dsimp only at hSw); go_simp; (try with_reducible rfl))
          try simp only [Act.put, List.setIfInBounds_toArray, List.set_cons_zero, List.set_cons_succ]
          refine wpAnyV_done (by kernel_rfl) ?_
          go_wp2
          go_ret
          exact ⟨rfl, (((Kept.refl _ _).alloc _).trans hk1).drew.trans hk2⟩
        · rw [if_neg ht]
          have ht' : (tb.length : Int) = st - fl + fl % 512 := by omega
          clear ht
          go_enter Try.func13, Try.ntmps13
          go_wp2_with (go_at_call 31; (with_reducible refine (h1 _).mono ?_); rintro e w1 ⟨rfl, hk1⟩; have b1 := b0.same hk1; have c0 : w1.cell? ⟨w.heap.size, 0, none⟩ = some (.int .i64 s) := b1.cell 0; have c1 : w1.cell? ⟨w.heap.size, 1, none⟩ = some (.int .i64 ep) := b1.cell 1; have c2 : w1.cell? ⟨w.heap.size, 2, none⟩ = some (.int .i64 st) := b1.cell 2; have c3 : w1.cell? ⟨w.heap.size, 3, none⟩ = some (.int .i64 fl) := b1.cell 3; have c4 : w1.cell? ⟨w.heap.size, 4, none⟩ = some (.slice ta tb.length tc) := b1.cell 4)
          have hS : ((fun wx : World => wx.cell? ⟨w.heap.size, 2, none⟩ = some (.int .i64 st) ∧ wx.cell? ⟨w.heap.size, 3, none⟩ = some (.int .i64 fl) ∧ wx.cell? ⟨w.heap.size, 4, none⟩ = some (.slice ta tb.length tc))) w1.drew := by exact ⟨c2, c3, c4⟩
          refine wp_region_V ((fun wx : World => wx.cell? ⟨w.heap.size, 2, none⟩ = some (.int .i64 st) ∧ wx.cell? ⟨w.heap.size, 3, none⟩ = some (.int .i64 fl) ∧ wx.cell? ⟨w.heap.size, 4, none⟩ = some (.slice ta tb.length tc))) 99 11 rfl (by kernel_rfl) ?_
          refine wpAnyV_take (i := 0) (v := ?vq11) (some 34) rfl rfl (by kernel_rfl) (by kernel_rfl) (by kernel_rfl) (by kernel_rfl) (fun _ _ _ h => h) (Or.inl ⟨by rfl, ?hyq11⟩) hS ?_
          case hyq11 => (intro w hSw; (try dsimp only at hSw); go_simp; (try with_reducible rfl))
          try simp only [Act.put, List.setIfInBounds_toArray, List.set_cons_zero, List.set_cons_succ]
          refine wpAnyV_take (i := 1) (v := ?vq12) (some 35) rfl rfl (by kernel_rfl) (by kernel_rfl) (by kernel_rfl) (by kernel_rfl) (fun _ _ _ h => h) (Or.inl ⟨by rfl, ?hyq12⟩) hS ?_
          case hyq12 => (intro w hSw; (try dsimp only at hSw); go_simp; (try with_reducible rfl))
          try simp only [Act.put, List.setIfInBounds_toArray, List.set_cons_zero, List.set_cons_succ]
          refine wpAnyV_take (i := 2) (v := ?vq13) (some 36) rfl rfl (by kernel_rfl) (by kernel_rfl) (by kernel_rfl) (by kernel_rfl) (fun _ _ _ h => h) (Or.inl ⟨by rfl, ?hyq13⟩) hS ?_
          case hyq13 => (intro w hSw; (try dsimp only at hSw); go_simp; (try with_reducible rfl))
          try simp only [Act.put, List.setIfInBounds_toArray, List.set_cons_zero, List.set_cons_succ]
          refine wpAnyV_take (i := 3) (v := ?vq14) (some 37) rfl rfl (by kernel_rfl) (by kernel_rfl) (by kernel_rfl) (by kernel_rfl) (fun _ _ _ h => h) (Or.inl ⟨by rfl, ?hyq14⟩) hS ?_
          case hyq14 => (intro w hSw; (try dsimp only at hSw); go_simp; (try with_reducible rfl))
          try simp only [Act.put, List.setIfInBounds_toArray, List.set_cons_zero, List.set_cons_succ]
          refine wpAnyV_take (i := 4) (v := ?vq15) (some 38) rfl rfl (by kernel_rfl) (by kernel_rfl) (by kernel_rfl) (by kernel_rfl) (fun _ _ _ h => h) (Or.inl ⟨by rfl, ?hyq15⟩) hS ?_
          case hyq15 => (intro w hSw; (try dsimp only at hSw); go_simp; (try with_reducible rfl))
          try simp only [Act.put, List.setIfInBounds_toArray, List.set_cons_zero, List.set_cons_succ]
          refine wpAnyV_take (i := 5) (v := ?vq16) (some 39) rfl rfl (by kernel_rfl) (by kernel_rfl) (by kernel_rfl) (by kernel_rfl) (fun _ _ _ h => h) (Or.inl ⟨by rfl, ?hyq16⟩) hS ?_
          case hyq16 => (intro w hSw; (try dsimp only at hSw); go_simp; (try with_reducible rfl))
          try simp only [Act.put, List.setIfInBounds_toArray, List.set_cons_zero, List.set_cons_succ]
          refine wpAnyV_take (i := 6) (v := ?vq17) (some 40) rfl rfl (by kernel_rfl) (by kernel_rfl) (by kernel_rfl) (by kernel_rfl) (fun _ _ _ h => h) (Or.inl ⟨by rfl, ?hyq17⟩) hS ?_
          case hyq17 => (intro w hSw; (try dsimp only at hSw); go_simp; (try with_reducible rfl))
          try simp only [Act.put, List.setIfInBounds_toArray, List.set_cons_zero, List.set_cons_succ]
          refine wpAnyV_one (i := 7) (by kernel_rfl) rfl (fun K hK => ?_)
          go_simp
          refine (h3 _).mono ?_
          rintro e w2 ⟨rfl, hk2⟩
          have b2 := b1.same ((Kept.refl _ _).drew.trans hk2)
          have hS : ((fun wx : World => wx.cell? ⟨w.heap.size, 2, none⟩ = some (.int .i64 st) ∧ wx.cell? ⟨w.heap.size, 3, none⟩ = some (.int .i64 fl) ∧ wx.cell? ⟨w.heap.size, 4, none⟩ = some (.slice ta tb.length tc))) w2 := by exact ⟨b2.cell 2, b2.cell 3, b2.cell 4⟩
          refine hK.out _ _ (fun _ => hS) ?_
          clear hK K
          try simp only [Act.put, List.setIfInBounds_toArray, List.set_cons_zero, List.set_cons_succ]
          refine wpAnyV_take (i := 8) (v := ?vq18) (some 42) rfl rfl (by kernel_rfl) (by kernel_rfl) (by kernel_rfl) (by kernel_rfl) (fun _ _ _ h => h) (Or.inl ⟨by rfl, ?hyq18⟩) hS ?_
          case hyq18 => (intro w hSw; (try dsimp only at hSw); go_simp; (try with_reducible rfl))
          try simp only [Act.put, List.setIfInBounds_toArray, List.set_cons_zero, List.set_cons_succ]
          refine wpAnyV_take (i := 9) (v := ?vq19) (some 43) rfl rfl (by kernel_rfl) (by kernel_rfl) (by kernel_rfl) (by kernel_rfl) (fun _ _ _ h => h) (Or.inl ⟨by rfl, ?hyq19⟩) hS ?_
          case hyq19 => (intro w hSw; (try dsimp only at hSw); go_simp; (try with_reducible rfl))
          try simp only [Act.put, List.setIfInBounds_toArray, List.set_cons_zero, List.set_cons_succ]
          refine wpAnyV_take (i := 10) (v := ?vq20) (some 33) rfl rfl (by kernel_rfl) (by kernel_rfl) (by kernel_rfl) (by kernel_rfl) (fun _ _ _ h => h) (Or.inl ⟨by rfl, ?hyq20⟩) hS ?_
          case hyq20 => (intro w hSw; (try dsimp only at hSw); go_simp; (try with_reducible rfl))
          try simp only [Act.put, List.setIfInBounds_toArray, List.set_cons_zero, List.set_cons_succ]
          refine wpAnyV_done (by kernel_rfl) ?_
          go_wp2
          go_ret
          exact ⟨rfl, (((Kept.refl _ _).alloc _).trans hk1).drew.trans hk2⟩
    · rw [if_pos he]
      by_cases he1 : ep < 1
      · clear hs he
        go_enter Try.func13, Try.ntmps13
        go_wp2_with (go_at_call 31; (with_reducible refine (h1 _).mono ?_); rintro e w1 ⟨rfl, hk1⟩; have b1 := b0.same hk1; have c0 : w1.cell? ⟨w.heap.size, 0, none⟩ = some (.int .i64 s) := b1.cell 0; have c1 : w1.cell? ⟨w.heap.size, 1, none⟩ = some (.int .i64 ep) := b1.cell 1; have c2 : w1.cell? ⟨w.heap.size, 2, none⟩ = some (.int .i64 st) := b1.cell 2; have c3 : w1.cell? ⟨w.heap.size, 3, none⟩ = some (.int .i64 fl) := b1.cell 3; have c4 : w1.cell? ⟨w.heap.size, 4, none⟩ = some (.slice ta tb.length tc) := b1.cell 4)
        go_ret
        exact ⟨rfl, ((Kept.refl _ _).alloc _).trans hk1⟩
      · have he2 : 4294967295 < ep := by omega
        clear hs he
        go_enter Try.func13, Try.ntmps13
        go_wp2_with (go_at_call 31; (with_reducible refine (h1 _).mono ?_); rintro e w1 ⟨rfl, hk1⟩; have b1 := b0.same hk1; have c0 : w1.cell? ⟨w.heap.size, 0, none⟩ = some (.int .i64 s) := b1.cell 0; have c1 : w1.cell? ⟨w.heap.size, 1, none⟩ = some (.int .i64 ep) := b1.cell 1; have c2 : w1.cell? ⟨w.heap.size, 2, none⟩ = some (.int .i64 st) := b1.cell 2; have c3 : w1.cell? ⟨w.heap.size, 3, none⟩ = some (.int .i64 fl) := b1.cell 3; have c4 : w1.cell? ⟨w.heap.size, 4, none⟩ = some (.slice ta tb.length tc) := b1.cell 4)
        go_ret
        exact ⟨rfl, ((Kept.refl _ _).alloc _).trans hk1⟩
  · rw [inB_false hs] at h1
    rw [if_pos hs]
    go_enter Try.func13, Try.ntmps13
    go_wp2_with (go_at_call 31; (with_reducible refine (h1 _).mono ?_); rintro e w1 ⟨rfl, hk1⟩; have b1 := b0.same hk1; have c0 : w1.cell? ⟨w.heap.size, 0, none⟩ = some (.int .i64 s) := b1.cell 0; have c1 : w1.cell? ⟨w.heap.size, 1, none⟩ = some (.int .i64 ep) := b1.cell 1; have c2 : w1.cell? ⟨w.heap.size, 2, none⟩ = some (.int .i64 st) := b1.cell 2; have c3 : w1.cell? ⟨w.heap.size, 3, none⟩ = some (.int .i64 fl) := b1.cell 3; have c4 : w1.cell? ⟨w.heap.size, 4, none⟩ = some (.slice ta tb.length tc) := b1.cell 4)
    go_ret
    exact ⟨rfl, ((Kept.refl _ _).alloc _).trans hk1⟩
theorem implLogFault_any (x : StLog) (w : World) (hB : x.isB) (hn : x.szs ≤ 1073741824) (hv : StLog.rd w x) :
    Calls Try.prog 13 #[x.val] w fun e w' => e = .returned (.int .i64 (logFd x.dat)) ∧ Same w w' := implLogFault0 x w hn
end Go.Proofs.Ytclmdpmelifplaa
