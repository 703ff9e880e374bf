/-
  LogLoad of the program (by tools/gen/logload3.py).
-/
import Derived.Test.YtclmdpmelifplaaLogLoadS
namespace Go.Proofs.Ytclmdpmelifplaa
open Go.RowKit
set_option linter.unusedVariables false
set_option linter.unusedSimpArgs false

set_option maxRecDepth 100000 in
set_option maxHeartbeats 4000000 in
theorem implLoad_any (dv pv : Value) (dur : List Int) (ps : List PW) (s st ep : Int) (w : World) (hd : dur.length ≤ 1099511627776) (hn : ps.length ≤ 1073741824) (hs : ∀ p ∈ ps, p.bs.length ≤ 1099511627776) (hv : RdD w dv pv dur ps) :
    Calls Try.prog 27 #[.agg #[dv, pv], .int .i64 s, .int .i64 st, .int .i64 ep] w fun e w' => ∃ y : StLog, e = .returned y.val ∧ y.dat = loadD dur (dataP ps) s st ep ∧ (∀ b, FootL y.rows b → w.heap.size ≤ b) ∧ OwnL w' y.rows ∧ Same w w' := by
  obtain ⟨a1, c1, rfl⟩ := hv.dur.form
  obtain ⟨a2, c2, rfl⟩ := hv.pend.form
  have HV := (show Hid (RdD w (.slice a1 dur.length c1) (.slice a2 ps.length c2) dur ps) from hv)
  have HS := (show Hid (∀ p ∈ ps, p.bs.length ≤ 1099511627776) from hs)
  clear hv hs hn
  dsimp only [StLog.val, BS.v]
  have b0 : Blk ((w.alloc (.cells #[.slice a1 dur.length c1, .slice a2 ps.length c2] 46)).alloc (.cells #[.int .i64 0, .int .i64 0, .int .i64 0, .int .i64 0, .slice none 0 0] 29)) w.heap.size 46 [.slice a1 dur.length c1, .slice a2 ps.length c2] := (Blk.new w #[.slice a1 dur.length c1, .slice a2 ps.length c2] 46).same ((Kept.refl _ _).alloc _)
  have z0 : Blk ((w.alloc (.cells #[.slice a1 dur.length c1, .slice a2 ps.length c2] 46)).alloc (.cells #[.int .i64 0, .int .i64 0, .int .i64 0, .int .i64 0, .slice none 0 0] 29)) (w.heap.size + 1) 29 [.int .i64 0, .int .i64 0, .int .i64 0, .int .i64 0, .slice none 0 0] := by have h := Blk.new (w.alloc (.cells #[.slice a1 dur.length c1, .slice a2 ps.length c2] 46)) #[.int .i64 0, .int .i64 0, .int .i64 0, .int .i64 0, .slice none 0 0] 29; rwa [World.size_alloc] at h
  have hk0 : Same w ((w.alloc (.cells #[.slice a1 dur.length c1, .slice a2 ps.length c2] 46)).alloc (.cells #[.int .i64 0, .int .i64 0, .int .i64 0, .int .i64 0, .slice none 0 0] 29)) := ((Kept.refl _ _).alloc _).alloc _
  have HK0 := (show Hid (Same w ((w.alloc (.cells #[.slice a1 dur.length c1, .slice a2 ps.length c2] 46)).alloc (.cells #[.int .i64 0, .int .i64 0, .int .i64 0, .int .i64 0, .slice none 0 0] 29))) from hk0)
  clear hk0
  have hP := fun wx => implPlace_any s st wx
  by_cases hh : (16 ≤ s ∧ s ≤ 800) ∧ Room dur.length (dataP ps) s
  · have hH := fun wx (hk : Same w wx) => said_true hh (holdsLog_any _ _ dur ps s wx (HV.out.same hk))
    by_cases hst : 512 ≤ st ∧ st ≤ 1099511627776
    · obtain ⟨pl, hpl⟩ : ∃ pl, logPlace s st = pl := ⟨_, rfl⟩
      have hpb := logPlace_bound ⟨hh.1, hst⟩
      rw [hpl] at hP hpb
      obtain ⟨hpb1, hpb2⟩ := hpb
      have hp0 : ¬ pl < 0 := by omega
      have hplt : pl < (dur.length / 512 : Nat) := by have := hh.2.2; omega
      have hsl := seeD_length hh.2.1 (by omega) hplt
      obtain ⟨m, hm⟩ : ∃ m : Nat, st % 512 = m := ⟨(st % 512).toNat, by omega⟩
      have hm5 : m < 512 := by omega
      have hst0 : 0 ≤ st := by omega
      have hst1 : st ≤ 1099511627776 := by omega
      have hm0 : (0 : Int) ≤ (m : Int) := by omega
      have htm : st.tmod 512 = (m : Int) := by rw [Int.tmod_eq_emod_of_nonneg hst0]; exact hm
      obtain ⟨sec, hsec⟩ : ∃ sec, seeD pl dur (dataP ps) = sec := ⟨_, rfl⟩
      rw [hsec] at hsl
      have HSec := (show Hid (seeD pl dur (dataP ps) = sec) from hsec)
      have HRd := (show Hid (IsRead pl dur (dataP ps) sec) from .inl ⟨hh.2.1, by omega, hplt, hsec.symm⟩)
      have hF : ∀ (g5 c5 : Nat) (wx : World), Calls Try.prog 13 #[.agg #[.int .i64 s, .int .i64 ep, .int .i64 st, .int .i64 st, .slice (some ⟨g5, 0, none⟩) m c5]] wx fun e w' => e = .returned (.int .i64 (if 1 ≤ ep ∧ ep ≤ 4294967295 then 0 else 2)) ∧ Same wx w' := fun g5 c5 wx => by
        have hlm : (sec.take m).length = m := by simp; omega
        have h := implLogFault0 ⟨s, ep, st, st, ⟨0, some ⟨g5, 0, none⟩, c5, sec.take m⟩⟩ wx (by simp only [StLog.szs]; omega)
        dsimp only [StLog.val, BS.v, StLog.dat, logFd, logFault] at h
        rw [hlm, if_neg (not_not_intro hh.1), if_neg (show ¬ (st < 512 ∨ st < st ∨ 1099511627776 < st) from by omega), if_neg (show ¬ ((m : Int) ≠ st - st + st % 512) from by omega)] at h
        by_cases he : 1 ≤ ep ∧ ep ≤ 4294967295
        · rw [if_neg (not_not_intro he)] at h
          rw [if_pos he]
          exact h
        · rw [if_pos he] at h
          rw [if_neg he]
          exact h
      by_cases he : 1 ≤ ep ∧ ep ≤ 4294967295
      · rw [loadD_yes ⟨⟨hh.1, hst⟩, he, hh.2⟩, hpl, hsec, hm, Int.toNat_natCast]
        rw [if_pos he] at hF
        clear hh hst he hplt hsec hpl
        go_enter Try.func27, Try.ntmps27
        go_wp2_with (first
          | (go_at_call 46; refine (hH _ HK0.out).mono ?_; rintro e w1 ⟨rfl, hk⟩; have b1 := b0.same hk; have z1 := z0.same hk; have HK1 := (show Hid (Same w w1) from HK0.out.trans hk); clear hk; have c1_0 : w1.cell? ⟨w.heap.size, 0, none⟩ = some (.slice a1 dur.length c1) := b1.cell 0; have c1_1 : w1.cell? ⟨w.heap.size, 1, none⟩ = some (.slice a2 ps.length c2) := b1.cell 1; have y1_0 : w1.cell? ⟨w.heap.size + 1, 0, none⟩ = some (.int .i64 0) := z1.cell 0; have y1_1 : w1.cell? ⟨w.heap.size + 1, 1, none⟩ = some (.int .i64 0) := z1.cell 1; have y1_2 : w1.cell? ⟨w.heap.size + 1, 2, none⟩ = some (.int .i64 0) := z1.cell 2; have y1_3 : w1.cell? ⟨w.heap.size + 1, 3, none⟩ = some (.int .i64 0) := z1.cell 3; have y1_4 : w1.cell? ⟨w.heap.size + 1, 4, none⟩ = some (.slice none 0 0) := z1.cell 4; have f1 := z1.frozen)
          | (go_at_call 9; refine (hP _).mono ?_; rintro e w2 ⟨rfl, hk⟩; have b2 := b1.same hk; have z2 := z1.same hk; have HK2 := (show Hid (Same w w2) from HK1.out.trans hk); clear hk; have c2_0 : w2.cell? ⟨w.heap.size, 0, none⟩ = some (.slice a1 dur.length c1) := b2.cell 0; have c2_1 : w2.cell? ⟨w.heap.size, 1, none⟩ = some (.slice a2 ps.length c2) := b2.cell 1; have y2_0 : w2.cell? ⟨w.heap.size + 1, 0, none⟩ = some (.int .i64 0) := z2.cell 0; have y2_1 : w2.cell? ⟨w.heap.size + 1, 1, none⟩ = some (.int .i64 0) := z2.cell 1; have y2_2 : w2.cell? ⟨w.heap.size + 1, 2, none⟩ = some (.int .i64 0) := z2.cell 2; have y2_3 : w2.cell? ⟨w.heap.size + 1, 3, none⟩ = some (.int .i64 0) := z2.cell 3; have y2_4 : w2.cell? ⟨w.heap.size + 1, 4, none⟩ = some (.slice none 0 0) := z2.cell 4; have f2 := z2.frozen))
        have hb2 := b2.lt
        have hz2 := z2.lt
        have k3 : Same w2 (w2.alloc (.cells #[.int .i64 s, .int .i64 ep, .int .i64 st, .int .i64 st, .slice none 0 0] 29)) := (Kept.refl _ _).alloc _
        have l3 : Blk (w2.alloc (.cells #[.int .i64 s, .int .i64 ep, .int .i64 st, .int .i64 st, .slice none 0 0] 29)) w2.heap.size 29 [.int .i64 s, .int .i64 ep, .int .i64 st, .int .i64 st, .slice none 0 0] := Blk.new w2 #[.int .i64 s, .int .i64 ep, .int .i64 st, .int .i64 st, .slice none 0 0] 29
        have b3 := b2.same k3
        have z3 := z2.same k3
        have HK3 := (show Hid (Same w _) from HK2.out.trans k3)
        obtain ⟨w3, hw3⟩ : ∃ w3, (w2.alloc (.cells #[.int .i64 s, .int .i64 ep, .int .i64 st, .int .i64 st, .slice none 0 0] 29)) = w3 := ⟨_, rfl⟩
        rw [hw3] at k3 l3 b3 z3 HK3 ⊢
        clear hw3 k3
        have c3_0 : w3.cell? ⟨w.heap.size, 0, none⟩ = some (.slice a1 dur.length c1) := b3.cell 0; have c3_1 : w3.cell? ⟨w.heap.size, 1, none⟩ = some (.slice a2 ps.length c2) := b3.cell 1
        have hS : ((fun wx : World => wx.cell? ⟨w.heap.size, 0, none⟩ = some (.slice a1 dur.length c1) ∧ wx.cell? ⟨w.heap.size, 1, none⟩ = some (.slice a2 ps.length c2))) w3.drew := by exact ⟨c3_0, c3_1⟩
        refine wp_region_V ((fun wx : World => wx.cell? ⟨w.heap.size, 0, none⟩ = some (.slice a1 dur.length c1) ∧ wx.cell? ⟨w.heap.size, 1, none⟩ = some (.slice a2 ps.length c2))) 9 10 rfl (by kernel_rfl) ?_
        refine wpAnyV_take (i := 0) (v := ?vq5) (some 26) rfl rfl (by kernel_rfl) (by kernel_rfl) (by kernel_rfl) (by kernel_rfl) (fun _ _ _ h => h) (Or.inl ⟨by rfl, ?hyq5⟩) hS ?_
        case hyq5 => (intro w hSw; (try dsimp only at hSw); go_simp; (try with_reducible rfl))
        try simp only [Act.put, List.setIfInBounds_toArray, List.set_cons_zero, List.set_cons_succ]
        refine wpAnyV_take (i := 1) (v := ?vq6) (some 27) rfl rfl (by kernel_rfl) (by kernel_rfl) (by kernel_rfl) (by kernel_rfl) (fun _ _ _ h => h) (Or.inl ⟨by rfl, ?hyq6⟩) hS ?_
        case hyq6 => (intro w hSw; (try dsimp only at hSw); go_simp; (try with_reducible rfl))
        try simp only [Act.put, List.setIfInBounds_toArray, List.set_cons_zero, List.set_cons_succ]
        refine wpAnyV_take (i := 2) (v := ?vq7) (some 28) rfl rfl (by kernel_rfl) (by kernel_rfl) (by kernel_rfl) (by kernel_rfl) (fun _ _ _ h => h) (Or.inl ⟨by rfl, ?hyq7⟩) hS ?_
        case hyq7 => (intro w hSw; (try dsimp only at hSw); go_simp; (try with_reducible rfl))
        try simp only [Act.put, List.setIfInBounds_toArray, List.set_cons_zero, List.set_cons_succ]
        refine wpAnyV_take (i := 5) (v := ?vq8) (some 31) rfl rfl (by kernel_rfl) (by kernel_rfl) (by kernel_rfl) (by kernel_rfl) (fun _ _ _ h => h) (Or.inl ⟨by rfl, ?hyq8⟩) hS ?_
        case hyq8 => (intro w hSw; (try dsimp only at hSw); go_simp; (try with_reducible rfl))
        try simp only [Act.put, List.setIfInBounds_toArray, List.set_cons_zero, List.set_cons_succ]
        refine wpAnyV_take (i := 6) (v := ?vq9) (some 32) rfl rfl (by kernel_rfl) (by kernel_rfl) (by kernel_rfl) (by kernel_rfl) (fun _ _ _ h => h) (Or.inl ⟨by rfl, ?hyq9⟩) hS ?_
        case hyq9 => (intro w hSw; (try dsimp only at hSw); go_simp; (try with_reducible rfl))
        try simp only [Act.put, List.setIfInBounds_toArray, List.set_cons_zero, List.set_cons_succ]
        refine wpAnyV_one (i := 3) (by kernel_rfl) rfl (fun K hK => ?_)
        go_simp
        refine (hP _).mono ?_
        rintro e w4 ⟨rfl, hk⟩
        have b4 := b3.same ((Kept.refl _ _).drew.trans hk)
        have z4 := z3.same ((Kept.refl _ _).drew.trans hk)
        have l4 := l3.same ((Kept.refl _ _).drew.trans hk)
        have HK4 := (show Hid (Same w w4) from HK3.out.drew.trans hk)
        clear hk
        have hS : ((fun wx : World => wx.cell? ⟨w.heap.size, 0, none⟩ = some (.slice a1 dur.length c1) ∧ wx.cell? ⟨w.heap.size, 1, none⟩ = some (.slice a2 ps.length c2))) w4 := by exact ⟨b4.cell 0, b4.cell 1⟩
        refine hK.out _ _ (fun _ => hS) ?_
        clear hK K
        try simp only [Act.put, List.setIfInBounds_toArray, List.set_cons_zero, List.set_cons_succ]
        refine wpAnyV_one (i := 4) (by kernel_rfl) rfl (fun K hK => ?_)
        go_simp
        refine (implRead_any _ _ dur ps pl _ hd HS.out (HV.out.same HK4.out)).mono ?_
        rintro e w5 ⟨a5, n5, c5, bs5, rfl, hir, hown, hfr, hk⟩
        obtain rfl : sec = bs5 := HRd.out.one hir
        obtain ⟨g5, rfl, rfl, hc5⟩ := own_form512 hown hsl
        have b5 := b4.same hk
        have z5 := z4.same hk
        have l5 := l4.same hk
        have HK5 := (show Hid (Same w w5) from HK4.out.trans hk)
        have HO5 := (show Hid (Own 0 5 .u8 w5 (.slice (some ⟨g5, 0, none⟩) m c5) (sec.take m)) from hown.take m (by omega))
        have hg5 := hfr g5 rfl
        have hl4 := l4.lt
        have hz4 := z4.lt
        have hmc : (m : Int) ≤ (c5 : Int) := by omega
        clear hk hown hfr hir
        have l5_0 : w5.cell? ⟨w2.heap.size, 0, none⟩ = some (.int .i64 s) := l5.cell 0; have l5_1 : w5.cell? ⟨w2.heap.size, 1, none⟩ = some (.int .i64 ep) := l5.cell 1; have l5_2 : w5.cell? ⟨w2.heap.size, 2, none⟩ = some (.int .i64 st) := l5.cell 2; have l5_3 : w5.cell? ⟨w2.heap.size, 3, none⟩ = some (.int .i64 st) := l5.cell 3; have l5_4 : w5.cell? ⟨w2.heap.size, 4, none⟩ = some (.slice none 0 0) := l5.cell 4
        have fl5 := l5.frozen
        have hS : ((fun wx : World => wx.cell? ⟨w.heap.size, 0, none⟩ = some (.slice a1 dur.length c1) ∧ wx.cell? ⟨w.heap.size, 1, none⟩ = some (.slice a2 ps.length c2))) w5 := by exact ⟨b5.cell 0, b5.cell 1⟩
        refine hK.out _ _ (fun _ => hS) ?_
        clear hK K
        try simp only [Act.put, List.setIfInBounds_toArray, List.set_cons_zero, List.set_cons_succ]
        refine wpAnyV_take (i := 7) (v := ?vq10) (some 33) rfl rfl (by kernel_rfl) (by kernel_rfl) (by kernel_rfl) (by kernel_rfl) (fun _ _ _ h => h) (Or.inl ⟨by rfl, ?hyq10⟩) hS ?_
        case hyq10 => (intro w hSw; (try dsimp only at hSw); go_simp; (try with_reducible rfl))
        try simp only [Act.put, List.setIfInBounds_toArray, List.set_cons_zero, List.set_cons_succ]
        refine wpAnyV_take (i := 8) (v := ?vq11) (some 34) rfl rfl (by kernel_rfl) (by kernel_rfl) (by kernel_rfl) (by kernel_rfl) (fun _ _ _ h => h) (Or.inl ⟨by rfl, ?hyq11⟩) hS ?_
        case hyq11 => (intro w hSw; (try dsimp only at hSw); go_simp; (try with_reducible rfl))
        try simp only [Act.put, List.setIfInBounds_toArray, List.set_cons_zero, List.set_cons_succ]
        refine wpAnyV_one (i := 9) (by kernel_rfl) rfl (fun K hK => ?_)
        go_simp
        refine hK.out _ _ (fun h => absurd rfl h) ?_
        clear hK K
        refine wpAnyV_done (by kernel_rfl) ?_
        try simp only [Act.put, List.setIfInBounds_toArray, List.set_cons_zero, List.set_cons_succ]
        have l6 : Blk (w5.setCell ⟨w2.heap.size, 4, none⟩ (.slice (some ⟨g5, 0, none⟩) m c5)) w2.heap.size 29 [.int .i64 s, .int .i64 ep, .int .i64 st, .int .i64 st, .slice (some ⟨g5, 0, none⟩) m c5] := l5.stored 4 _
        have z6 : Blk (w5.setCell ⟨w2.heap.size, 4, none⟩ (.slice (some ⟨g5, 0, none⟩) m c5)) (w.heap.size + 1) 29 [.int .i64 0, .int .i64 0, .int .i64 0, .int .i64 0, .slice none 0 0] := z5.other (by intro e; have e : w2.heap.size = w.heap.size + 1 := e; omega) _
        have HO6 := (show Hid (Own 0 5 .u8 (w5.setCell ⟨w2.heap.size, 4, none⟩ (.slice (some ⟨g5, 0, none⟩) m c5)) (.slice (some ⟨g5, 0, none⟩) m c5) (sec.take m)) from Own.kept HO5.out (R := fun b => b = w2.heap.size) ((Kept.refl (fun b => b = w2.heap.size) w5).setCell (p := ⟨w2.heap.size, 4, none⟩) (.inr rfl) _) (fun b hb e => by have hb : g5 = b := Option.some.inj hb; omega))
        have HK6 := (show Hid (Same w (w5.setCell ⟨w2.heap.size, 4, none⟩ (.slice (some ⟨g5, 0, none⟩) m c5))) from HK5.out.setCell (.inl (by show w.heap.size ≤ w2.heap.size; omega)) _)
        obtain ⟨w6, hw6⟩ : ∃ w6, (w5.setCell ⟨w2.heap.size, 4, none⟩ (.slice (some ⟨g5, 0, none⟩) m c5)) = w6 := ⟨_, rfl⟩
        rw [hw6] at l6 z6 HO6 HK6 ⊢
        clear hw6 l5_0 l5_1 l5_2 l5_3 l5_4 fl5 l5 z5 b5
        have l6_0 : w6.cell? ⟨w2.heap.size, 0, none⟩ = some (.int .i64 s) := l6.cell 0; have l6_1 : w6.cell? ⟨w2.heap.size, 1, none⟩ = some (.int .i64 ep) := l6.cell 1; have l6_2 : w6.cell? ⟨w2.heap.size, 2, none⟩ = some (.int .i64 st) := l6.cell 2; have l6_3 : w6.cell? ⟨w2.heap.size, 3, none⟩ = some (.int .i64 st) := l6.cell 3; have l6_4 : w6.cell? ⟨w2.heap.size, 4, none⟩ = some (.slice (some ⟨g5, 0, none⟩) m c5) := l6.cell 4
        go_wp2_with (go_at_call 13; refine (hF g5 c5 w6).mono ?_; rintro e w7 ⟨rfl, hk⟩; have l7 := l6.same hk; have z7 := z6.same hk; have HO7 := (show Hid (Own 0 5 .u8 w7 (.slice (some ⟨g5, 0, none⟩) m c5) (sec.take m)) from HO6.out.same hk); have HK7 := (show Hid (Same w w7) from HK6.out.trans hk); clear hk; have l7_0 : w7.cell? ⟨w2.heap.size, 0, none⟩ = some (.int .i64 s) := l7.cell 0; have l7_1 : w7.cell? ⟨w2.heap.size, 1, none⟩ = some (.int .i64 ep) := l7.cell 1; have l7_2 : w7.cell? ⟨w2.heap.size, 2, none⟩ = some (.int .i64 st) := l7.cell 2; have l7_3 : w7.cell? ⟨w2.heap.size, 3, none⟩ = some (.int .i64 st) := l7.cell 3; have l7_4 : w7.cell? ⟨w2.heap.size, 4, none⟩ = some (.slice (some ⟨g5, 0, none⟩) m c5) := l7.cell 4; have y7_0 : w7.cell? ⟨w.heap.size + 1, 0, none⟩ = some (.int .i64 0) := z7.cell 0; have y7_1 : w7.cell? ⟨w.heap.size + 1, 1, none⟩ = some (.int .i64 0) := z7.cell 1; have y7_2 : w7.cell? ⟨w.heap.size + 1, 2, none⟩ = some (.int .i64 0) := z7.cell 2; have y7_3 : w7.cell? ⟨w.heap.size + 1, 3, none⟩ = some (.int .i64 0) := z7.cell 3; have y7_4 : w7.cell? ⟨w.heap.size + 1, 4, none⟩ = some (.slice none 0 0) := z7.cell 4; have f7 := z7.frozen)
        have hz7 := z7.lt
        have hlm : (sec.take m).length = m := by simp; omega
        refine bodyPost_ret (v := .agg #[.int .i64 s, .int .i64 ep, .int .i64 st, .int .i64 st, .slice (some ⟨g5, 0, none⟩) m c5]) (by simp [results, Try.results27, go_sem, y7_0, y7_1, y7_2, y7_3, y7_4]) rfl ⟨⟨s, ep, st, st, ⟨5, some ⟨g5, 0, none⟩, c5, sec.take m⟩⟩, by rw [hlm], (by first | rfl | exact ⟨rfl, rfl, rfl, rfl, rfl⟩), fun b hb => ?_, OwnL.one ?_, ?_⟩
        · have hb := (footL_ints _ _ _ _ _).1 hb
          have hb : g5 = b := Option.some.inj hb
          omega
        · dsimp only [BS.v]
          rw [hlm]
          refine Own.kept HO7.out (R := fun b => b = w.heap.size + 1) ?_ (fun b hb e => ?_)
          · (iterate 5 refine Kept.setCell ?_ (.inr (by simp)) _); exact Kept.refl _ _
          · have hb : g5 = b := Option.some.inj hb
            omega
        · (iterate 5 refine Kept.setCell ?_ (.inl (by first | exact Nat.le_refl _ | exact Nat.le_succ _)) _); exact HK7.out
      · rw [loadD_no (fun h => he h.2.1)]
        rw [if_neg he] at hF
        clear hh hst he hplt hsec hpl
        go_enter Try.func27, Try.ntmps27
        go_wp2_with (first
          | (go_at_call 46; refine (hH _ HK0.out).mono ?_; rintro e w1 ⟨rfl, hk⟩; have b1 := b0.same hk; have z1 := z0.same hk; have HK1 := (show Hid (Same w w1) from HK0.out.trans hk); clear hk; have c1_0 : w1.cell? ⟨w.heap.size, 0, none⟩ = some (.slice a1 dur.length c1) := b1.cell 0; have c1_1 : w1.cell? ⟨w.heap.size, 1, none⟩ = some (.slice a2 ps.length c2) := b1.cell 1; have y1_0 : w1.cell? ⟨w.heap.size + 1, 0, none⟩ = some (.int .i64 0) := z1.cell 0; have y1_1 : w1.cell? ⟨w.heap.size + 1, 1, none⟩ = some (.int .i64 0) := z1.cell 1; have y1_2 : w1.cell? ⟨w.heap.size + 1, 2, none⟩ = some (.int .i64 0) := z1.cell 2; have y1_3 : w1.cell? ⟨w.heap.size + 1, 3, none⟩ = some (.int .i64 0) := z1.cell 3; have y1_4 : w1.cell? ⟨w.heap.size + 1, 4, none⟩ = some (.slice none 0 0) := z1.cell 4; have f1 := z1.frozen)
          | (go_at_call 9; refine (hP _).mono ?_; rintro e w2 ⟨rfl, hk⟩; have b2 := b1.same hk; have z2 := z1.same hk; have HK2 := (show Hid (Same w w2) from HK1.out.trans hk); clear hk; have c2_0 : w2.cell? ⟨w.heap.size, 0, none⟩ = some (.slice a1 dur.length c1) := b2.cell 0; have c2_1 : w2.cell? ⟨w.heap.size, 1, none⟩ = some (.slice a2 ps.length c2) := b2.cell 1; have y2_0 : w2.cell? ⟨w.heap.size + 1, 0, none⟩ = some (.int .i64 0) := z2.cell 0; have y2_1 : w2.cell? ⟨w.heap.size + 1, 1, none⟩ = some (.int .i64 0) := z2.cell 1; have y2_2 : w2.cell? ⟨w.heap.size + 1, 2, none⟩ = some (.int .i64 0) := z2.cell 2; have y2_3 : w2.cell? ⟨w.heap.size + 1, 3, none⟩ = some (.int .i64 0) := z2.cell 3; have y2_4 : w2.cell? ⟨w.heap.size + 1, 4, none⟩ = some (.slice none 0 0) := z2.cell 4; have f2 := z2.frozen))
        have hb2 := b2.lt
        have hz2 := z2.lt
        have k3 : Same w2 (w2.alloc (.cells #[.int .i64 s, .int .i64 ep, .int .i64 st, .int .i64 st, .slice none 0 0] 29)) := (Kept.refl _ _).alloc _
        have l3 : Blk (w2.alloc (.cells #[.int .i64 s, .int .i64 ep, .int .i64 st, .int .i64 st, .slice none 0 0] 29)) w2.heap.size 29 [.int .i64 s, .int .i64 ep, .int .i64 st, .int .i64 st, .slice none 0 0] := Blk.new w2 #[.int .i64 s, .int .i64 ep, .int .i64 st, .int .i64 st, .slice none 0 0] 29
        have b3 := b2.same k3
        have z3 := z2.same k3
        have HK3 := (show Hid (Same w _) from HK2.out.trans k3)
        obtain ⟨w3, hw3⟩ : ∃ w3, (w2.alloc (.cells #[.int .i64 s, .int .i64 ep, .int .i64 st, .int .i64 st, .slice none 0 0] 29)) = w3 := ⟨_, rfl⟩
        rw [hw3] at k3 l3 b3 z3 HK3 ⊢
        clear hw3 k3
        have c3_0 : w3.cell? ⟨w.heap.size, 0, none⟩ = some (.slice a1 dur.length c1) := b3.cell 0; have c3_1 : w3.cell? ⟨w.heap.size, 1, none⟩ = some (.slice a2 ps.length c2) := b3.cell 1
        have hS : ((fun wx : World => wx.cell? ⟨w.heap.size, 0, none⟩ = some (.slice a1 dur.length c1) ∧ wx.cell? ⟨w.heap.size, 1, none⟩ = some (.slice a2 ps.length c2))) w3.drew := by exact ⟨c3_0, c3_1⟩
        refine wp_region_V ((fun wx : World => wx.cell? ⟨w.heap.size, 0, none⟩ = some (.slice a1 dur.length c1) ∧ wx.cell? ⟨w.heap.size, 1, none⟩ = some (.slice a2 ps.length c2))) 9 10 rfl (by kernel_rfl) ?_
        refine wpAnyV_take (i := 0) (v := ?vq12) (some 26) rfl rfl (by kernel_rfl) (by kernel_rfl) (by kernel_rfl) (by kernel_rfl) (fun _ _ _ h => h) (Or.inl ⟨by rfl, ?hyq12⟩) hS ?_
        case hyq12 => (intro w hSw; (try dsimp only at hSw); go_simp; (try with_reducible rfl))
        try simp only [Act.put, List.setIfInBounds_toArray, List.set_cons_zero, List.set_cons_succ]
        refine wpAnyV_take (i := 1) (v := ?vq13) (some 27) rfl rfl (by kernel_rfl) (by kernel_rfl) (by kernel_rfl) (by kernel_rfl) (fun _ _ _ h => h) (Or.inl ⟨by rfl, ?hyq13⟩) hS ?_
        case hyq13 => (intro w hSw; (try dsimp only at hSw); go_simp; (try with_reducible rfl))
        try simp only [Act.put, List.setIfInBounds_toArray, List.set_cons_zero, List.set_cons_succ]
        refine wpAnyV_take (i := 2) (v := ?vq14) (some 28) rfl rfl (by kernel_rfl) (by kernel_rfl) (by kernel_rfl) (by kernel_rfl) (fun _ _ _ h => h) (Or.inl ⟨by rfl, ?hyq14⟩) hS ?_
        case hyq14 => (intro w hSw; (try dsimp only at hSw); go_simp; (try with_reducible rfl))
        try simp only [Act.put, List.setIfInBounds_toArray, List.set_cons_zero, List.set_cons_succ]
        refine wpAnyV_take (i := 5) (v := ?vq15) (some 31) rfl rfl (by kernel_rfl) (by kernel_rfl) (by kernel_rfl) (by kernel_rfl) (fun _ _ _ h => h) (Or.inl ⟨by rfl, ?hyq15⟩) hS ?_
        case hyq15 => (intro w hSw; (try dsimp only at hSw); go_simp; (try with_reducible rfl))
        try simp only [Act.put, List.setIfInBounds_toArray, List.set_cons_zero, List.set_cons_succ]
        refine wpAnyV_take (i := 6) (v := ?vq16) (some 32) rfl rfl (by kernel_rfl) (by kernel_rfl) (by kernel_rfl) (by kernel_rfl) (fun _ _ _ h => h) (Or.inl ⟨by rfl, ?hyq16⟩) hS ?_
        case hyq16 => (intro w hSw; (try dsimp only at hSw); go_simp; (try with_reducible rfl))
        try simp only [Act.put, List.setIfInBounds_toArray, List.set_cons_zero, List.set_cons_succ]
        refine wpAnyV_one (i := 3) (by kernel_rfl) rfl (fun K hK => ?_)
        go_simp
        refine (hP _).mono ?_
        rintro e w4 ⟨rfl, hk⟩
        have b4 := b3.same ((Kept.refl _ _).drew.trans hk)
        have z4 := z3.same ((Kept.refl _ _).drew.trans hk)
        have l4 := l3.same ((Kept.refl _ _).drew.trans hk)
        have HK4 := (show Hid (Same w w4) from HK3.out.drew.trans hk)
        clear hk
        have hS : ((fun wx : World => wx.cell? ⟨w.heap.size, 0, none⟩ = some (.slice a1 dur.length c1) ∧ wx.cell? ⟨w.heap.size, 1, none⟩ = some (.slice a2 ps.length c2))) w4 := by exact ⟨b4.cell 0, b4.cell 1⟩
        refine hK.out _ _ (fun _ => hS) ?_
        clear hK K
        try simp only [Act.put, List.setIfInBounds_toArray, List.set_cons_zero, List.set_cons_succ]
        refine wpAnyV_one (i := 4) (by kernel_rfl) rfl (fun K hK => ?_)
        go_simp
        refine (implRead_any _ _ dur ps pl _ hd HS.out (HV.out.same HK4.out)).mono ?_
        rintro e w5 ⟨a5, n5, c5, bs5, rfl, hir, hown, hfr, hk⟩
        obtain rfl : sec = bs5 := HRd.out.one hir
        obtain ⟨g5, rfl, rfl, hc5⟩ := own_form512 hown hsl
        have b5 := b4.same hk
        have z5 := z4.same hk
        have l5 := l4.same hk
        have HK5 := (show Hid (Same w w5) from HK4.out.trans hk)
        have HO5 := (show Hid (Own 0 5 .u8 w5 (.slice (some ⟨g5, 0, none⟩) m c5) (sec.take m)) from hown.take m (by omega))
        have hg5 := hfr g5 rfl
        have hl4 := l4.lt
        have hz4 := z4.lt
        have hmc : (m : Int) ≤ (c5 : Int) := by omega
        clear hk hown hfr hir
        have l5_0 : w5.cell? ⟨w2.heap.size, 0, none⟩ = some (.int .i64 s) := l5.cell 0; have l5_1 : w5.cell? ⟨w2.heap.size, 1, none⟩ = some (.int .i64 ep) := l5.cell 1; have l5_2 : w5.cell? ⟨w2.heap.size, 2, none⟩ = some (.int .i64 st) := l5.cell 2; have l5_3 : w5.cell? ⟨w2.heap.size, 3, none⟩ = some (.int .i64 st) := l5.cell 3; have l5_4 : w5.cell? ⟨w2.heap.size, 4, none⟩ = some (.slice none 0 0) := l5.cell 4
        have fl5 := l5.frozen
        have hS : ((fun wx : World => wx.cell? ⟨w.heap.size, 0, none⟩ = some (.slice a1 dur.length c1) ∧ wx.cell? ⟨w.heap.size, 1, none⟩ = some (.slice a2 ps.length c2))) w5 := by exact ⟨b5.cell 0, b5.cell 1⟩
        refine hK.out _ _ (fun _ => hS) ?_
        clear hK K
        try simp only [Act.put, List.setIfInBounds_toArray, List.set_cons_zero, List.set_cons_succ]
        refine wpAnyV_take (i := 7) (v := ?vq17) (some 33) rfl rfl (by kernel_rfl) (by kernel_rfl) (by kernel_rfl) (by kernel_rfl) (fun _ _ _ h => h) (Or.inl ⟨by rfl, ?hyq17⟩) hS ?_
        case hyq17 => (intro w hSw; (try dsimp only at hSw); go_simp; (try with_reducible rfl))
        try simp only [Act.put, List.setIfInBounds_toArray, List.set_cons_zero, List.set_cons_succ]
        refine wpAnyV_take (i := 8) (v := ?vq18) (some 34) rfl rfl (by kernel_rfl) (by kernel_rfl) (by kernel_rfl) (by kernel_rfl) (fun _ _ _ h => h) (Or.inl ⟨by rfl, ?hyq18⟩) hS ?_
        case hyq18 => (intro w hSw; (try dsimp only at hSw); go_simp; (try with_reducible rfl))
        try simp only [Act.put, List.setIfInBounds_toArray, List.set_cons_zero, List.set_cons_succ]
        refine wpAnyV_one (i := 9) (by kernel_rfl) rfl (fun K hK => ?_)
        go_simp
        refine hK.out _ _ (fun h => absurd rfl h) ?_
        clear hK K
        refine wpAnyV_done (by kernel_rfl) ?_
        try simp only [Act.put, List.setIfInBounds_toArray, List.set_cons_zero, List.set_cons_succ]
        have l6 : Blk (w5.setCell ⟨w2.heap.size, 4, none⟩ (.slice (some ⟨g5, 0, none⟩) m c5)) w2.heap.size 29 [.int .i64 s, .int .i64 ep, .int .i64 st, .int .i64 st, .slice (some ⟨g5, 0, none⟩) m c5] := l5.stored 4 _
        have z6 : Blk (w5.setCell ⟨w2.heap.size, 4, none⟩ (.slice (some ⟨g5, 0, none⟩) m c5)) (w.heap.size + 1) 29 [.int .i64 0, .int .i64 0, .int .i64 0, .int .i64 0, .slice none 0 0] := z5.other (by intro e; have e : w2.heap.size = w.heap.size + 1 := e; omega) _
        have HO6 := (show Hid (Own 0 5 .u8 (w5.setCell ⟨w2.heap.size, 4, none⟩ (.slice (some ⟨g5, 0, none⟩) m c5)) (.slice (some ⟨g5, 0, none⟩) m c5) (sec.take m)) from Own.kept HO5.out (R := fun b => b = w2.heap.size) ((Kept.refl (fun b => b = w2.heap.size) w5).setCell (p := ⟨w2.heap.size, 4, none⟩) (.inr rfl) _) (fun b hb e => by have hb : g5 = b := Option.some.inj hb; omega))
        have HK6 := (show Hid (Same w (w5.setCell ⟨w2.heap.size, 4, none⟩ (.slice (some ⟨g5, 0, none⟩) m c5))) from HK5.out.setCell (.inl (by show w.heap.size ≤ w2.heap.size; omega)) _)
        obtain ⟨w6, hw6⟩ : ∃ w6, (w5.setCell ⟨w2.heap.size, 4, none⟩ (.slice (some ⟨g5, 0, none⟩) m c5)) = w6 := ⟨_, rfl⟩
        rw [hw6] at l6 z6 HO6 HK6 ⊢
        clear hw6 l5_0 l5_1 l5_2 l5_3 l5_4 fl5 l5 z5 b5
        have l6_0 : w6.cell? ⟨w2.heap.size, 0, none⟩ = some (.int .i64 s) := l6.cell 0; have l6_1 : w6.cell? ⟨w2.heap.size, 1, none⟩ = some (.int .i64 ep) := l6.cell 1; have l6_2 : w6.cell? ⟨w2.heap.size, 2, none⟩ = some (.int .i64 st) := l6.cell 2; have l6_3 : w6.cell? ⟨w2.heap.size, 3, none⟩ = some (.int .i64 st) := l6.cell 3; have l6_4 : w6.cell? ⟨w2.heap.size, 4, none⟩ = some (.slice (some ⟨g5, 0, none⟩) m c5) := l6.cell 4
        go_wp2_with (go_at_call 13; refine (hF g5 c5 w6).mono ?_; rintro e w7 ⟨rfl, hk⟩; have l7 := l6.same hk; have z7 := z6.same hk; have HO7 := (show Hid (Own 0 5 .u8 w7 (.slice (some ⟨g5, 0, none⟩) m c5) (sec.take m)) from HO6.out.same hk); have HK7 := (show Hid (Same w w7) from HK6.out.trans hk); clear hk; have l7_0 : w7.cell? ⟨w2.heap.size, 0, none⟩ = some (.int .i64 s) := l7.cell 0; have l7_1 : w7.cell? ⟨w2.heap.size, 1, none⟩ = some (.int .i64 ep) := l7.cell 1; have l7_2 : w7.cell? ⟨w2.heap.size, 2, none⟩ = some (.int .i64 st) := l7.cell 2; have l7_3 : w7.cell? ⟨w2.heap.size, 3, none⟩ = some (.int .i64 st) := l7.cell 3; have l7_4 : w7.cell? ⟨w2.heap.size, 4, none⟩ = some (.slice (some ⟨g5, 0, none⟩) m c5) := l7.cell 4; have y7_0 : w7.cell? ⟨w.heap.size + 1, 0, none⟩ = some (.int .i64 0) := z7.cell 0; have y7_1 : w7.cell? ⟨w.heap.size + 1, 1, none⟩ = some (.int .i64 0) := z7.cell 1; have y7_2 : w7.cell? ⟨w.heap.size + 1, 2, none⟩ = some (.int .i64 0) := z7.cell 2; have y7_3 : w7.cell? ⟨w.heap.size + 1, 3, none⟩ = some (.int .i64 0) := z7.cell 3; have y7_4 : w7.cell? ⟨w.heap.size + 1, 4, none⟩ = some (.slice none 0 0) := z7.cell 4; have f7 := z7.frozen)
        refine bodyPost_ret (v := .agg #[.int .i64 0, .int .i64 0, .int .i64 0, .int .i64 0, .slice none 0 0]) (by simp [results, Try.results27, go_sem, y7_0, y7_1, y7_2, y7_3, y7_4]) rfl ⟨⟨0, 0, 0, 0, ⟨0, none, 0, []⟩⟩, rfl, rfl, fun b hb => absurd hb (zeroLog_foot b), zeroLog_own _, ?_⟩
        (iterate 5 refine Kept.setCell ?_ (.inl (by first | exact Nat.le_refl _ | exact Nat.le_succ _)) _); exact HK7.out
    · rw [logPlace_no (fun h => hst h.2)] at hP
      rw [loadD_no (fun h => hst h.1.2)]
      clear hh hst
      go_enter Try.func27, Try.ntmps27
      go_wp2_with (first
        | (go_at_call 46; refine (hH _ HK0.out).mono ?_; rintro e w1 ⟨rfl, hk⟩; have b1 := b0.same hk; have z1 := z0.same hk; have HK1 := (show Hid (Same w w1) from HK0.out.trans hk); clear hk; have c1_0 : w1.cell? ⟨w.heap.size, 0, none⟩ = some (.slice a1 dur.length c1) := b1.cell 0; have c1_1 : w1.cell? ⟨w.heap.size, 1, none⟩ = some (.slice a2 ps.length c2) := b1.cell 1; have y1_0 : w1.cell? ⟨w.heap.size + 1, 0, none⟩ = some (.int .i64 0) := z1.cell 0; have y1_1 : w1.cell? ⟨w.heap.size + 1, 1, none⟩ = some (.int .i64 0) := z1.cell 1; have y1_2 : w1.cell? ⟨w.heap.size + 1, 2, none⟩ = some (.int .i64 0) := z1.cell 2; have y1_3 : w1.cell? ⟨w.heap.size + 1, 3, none⟩ = some (.int .i64 0) := z1.cell 3; have y1_4 : w1.cell? ⟨w.heap.size + 1, 4, none⟩ = some (.slice none 0 0) := z1.cell 4; have f1 := z1.frozen)
        | (go_at_call 9; refine (hP _).mono ?_; rintro e w2 ⟨rfl, hk⟩; have b2 := b1.same hk; have z2 := z1.same hk; have HK2 := (show Hid (Same w w2) from HK1.out.trans hk); clear hk; have c2_0 : w2.cell? ⟨w.heap.size, 0, none⟩ = some (.slice a1 dur.length c1) := b2.cell 0; have c2_1 : w2.cell? ⟨w.heap.size, 1, none⟩ = some (.slice a2 ps.length c2) := b2.cell 1; have y2_0 : w2.cell? ⟨w.heap.size + 1, 0, none⟩ = some (.int .i64 0) := z2.cell 0; have y2_1 : w2.cell? ⟨w.heap.size + 1, 1, none⟩ = some (.int .i64 0) := z2.cell 1; have y2_2 : w2.cell? ⟨w.heap.size + 1, 2, none⟩ = some (.int .i64 0) := z2.cell 2; have y2_3 : w2.cell? ⟨w.heap.size + 1, 3, none⟩ = some (.int .i64 0) := z2.cell 3; have y2_4 : w2.cell? ⟨w.heap.size + 1, 4, none⟩ = some (.slice none 0 0) := z2.cell 4; have f2 := z2.frozen))
      refine bodyPost_ret (v := .agg #[.int .i64 0, .int .i64 0, .int .i64 0, .int .i64 0, .slice none 0 0]) (by simp [results, Try.results27, go_sem, y2_0, y2_1, y2_2, y2_3, y2_4]) rfl ⟨⟨0, 0, 0, 0, ⟨0, none, 0, []⟩⟩, rfl, rfl, fun b hb => absurd hb (zeroLog_foot b), zeroLog_own _, ?_⟩
      (iterate 5 refine Kept.setCell ?_ (.inl (by first | exact Nat.le_refl _ | exact Nat.le_succ _)) _); exact HK2.out
  · have hH := fun wx (hk : Same w wx) => said_false hh (holdsLog_any _ _ dur ps s wx (HV.out.same hk))
    rw [loadD_no (fun h => hh ⟨h.1.1, h.2.2⟩)]
    clear hh
    go_enter Try.func27, Try.ntmps27
    go_wp2_with (go_at_call 46; refine (hH _ HK0.out).mono ?_; rintro e w1 ⟨rfl, hk⟩; have b1 := b0.same hk; have z1 := z0.same hk; have HK1 := (show Hid (Same w w1) from HK0.out.trans hk); clear hk; have c1_0 : w1.cell? ⟨w.heap.size, 0, none⟩ = some (.slice a1 dur.length c1) := b1.cell 0; have c1_1 : w1.cell? ⟨w.heap.size, 1, none⟩ = some (.slice a2 ps.length c2) := b1.cell 1; have y1_0 : w1.cell? ⟨w.heap.size + 1, 0, none⟩ = some (.int .i64 0) := z1.cell 0; have y1_1 : w1.cell? ⟨w.heap.size + 1, 1, none⟩ = some (.int .i64 0) := z1.cell 1; have y1_2 : w1.cell? ⟨w.heap.size + 1, 2, none⟩ = some (.int .i64 0) := z1.cell 2; have y1_3 : w1.cell? ⟨w.heap.size + 1, 3, none⟩ = some (.int .i64 0) := z1.cell 3; have y1_4 : w1.cell? ⟨w.heap.size + 1, 4, none⟩ = some (.slice none 0 0) := z1.cell 4; have f1 := z1.frozen)
    refine bodyPost_ret (v := .agg #[.int .i64 0, .int .i64 0, .int .i64 0, .int .i64 0, .slice none 0 0]) (by simp [results, Try.results27, go_sem, y1_0, y1_1, y1_2, y1_3, y1_4]) rfl ⟨⟨0, 0, 0, 0, ⟨0, none, 0, []⟩⟩, rfl, rfl, fun b hb => absurd hb (zeroLog_foot b), zeroLog_own _, ?_⟩
    (iterate 5 refine Kept.setCell ?_ (.inl (by first | exact Nat.le_refl _ | exact Nat.le_succ _)) _); exact HK1.out
end Go.Proofs.Ytclmdpmelifplaa
