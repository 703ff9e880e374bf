import Derived.Test.YtfhdkbibcndmjaaG20
import Derived.Test.YtfhdkbibcndmjaaOpen
import Derived.Deep.DeepCutAuto
namespace Go.Proofs.Ytfhdkbibcndmjaa
set_option maxRecDepth 100000
set_option maxHeartbeats 4000000
open Go.RowKit
set_option linter.unusedVariables false
set_option linter.unusedSimpArgs false
theorem implLoad_any (dv pv : Value) (dur : List Int) (ps : List PW) (s st ep : Int) (w : World) (hd : dur.length ≤ 1099511627776) (hn : ps.length ≤ 1073741824) (hs : ∀ p ∈ ps, p.bs.length ≤ 1099511627776) (hv : RdD w dv pv dur ps) :
    Calls Try.prog 42 #[.agg #[dv, pv], .int .i64 s, .int .i64 st, .int .i64 ep] w fun e w' => ∃ y : StLog, e = .returned y.val ∧ y.dat = loadD dur (dataP ps) s st ep ∧ (∀ b, FootL y.rows b → w.heap.size ≤ b) ∧ OwnL w' y.rows ∧ Same w w' := by
  obtain ⟨a1, c1, rfl⟩ := hv.dur.form
  obtain ⟨a2, c2, rfl⟩ := hv.pend.form
  have HV := (show Hid (RdD w (.slice a1 dur.length c1) (.slice a2 ps.length c2) dur ps) from hv)
  have HS := (show Hid (∀ p ∈ ps, p.bs.length ≤ 1099511627776) from hs)
  clear hv hs hn
  dsimp only [StLog.val, BS.v]
  have b0 : Blk ((w.alloc (.cells #[.slice a1 dur.length c1, .slice a2 ps.length c2] 25)).alloc (.cells #[.int .i64 0, .int .i64 0, .int .i64 0, .int .i64 0, .slice none 0 0] 66)) w.heap.size 25 [.slice a1 dur.length c1, .slice a2 ps.length c2] := (Blk.new w #[.slice a1 dur.length c1, .slice a2 ps.length c2] 25).same ((Kept.refl _ _).alloc _)
  have z0 := Blk.newB w [.slice a1 dur.length c1, .slice a2 ps.length c2] 25 [.int .i64 0, .int .i64 0, .int .i64 0, .int .i64 0, .slice none 0 0] 66
  have hk0 : Same w ((w.alloc (.cells #[.slice a1 dur.length c1, .slice a2 ps.length c2] 25)).alloc (.cells #[.int .i64 0, .int .i64 0, .int .i64 0, .int .i64 0, .slice none 0 0] 66)) := ((Kept.refl _ _).alloc _).alloc _
  have HK0 := (show Hid (Same w ((w.alloc (.cells #[.slice a1 dur.length c1, .slice a2 ps.length c2] 25)).alloc (.cells #[.int .i64 0, .int .i64 0, .int .i64 0, .int .i64 0, .slice none 0 0] 66))) from hk0)
  clear hk0
  have hP := fun wx => implPlace_any s st wx
  by_cases hh : (16 ≤ s ∧ s ≤ 800) ∧ Room dur.length (dataP ps) s
  · have hH := fun wx (hk : Same w wx) => said_true hh (holdsLog_any _ _ dur ps s wx (HV.out.same hk))
    by_cases hst : 512 ≤ st ∧ st ≤ 1099511627776
    · obtain ⟨pl, hpl⟩ : ∃ pl, logPlace s st = pl := ⟨_, rfl⟩
      have hpb := logPlace_bound ⟨hh.1, hst⟩
      rw [hpl] at hP hpb
      obtain ⟨hpb1, hpb2⟩ := hpb
      have hp0 : ¬ pl < 0 := by omega
      have hplt : pl < (dur.length / 512 : Nat) := by have := hh.2.2; omega
      have hsl := seeD_length hh.2.1 (by omega) hplt
      obtain ⟨m, hm⟩ : ∃ m : Nat, st % 512 = m := ⟨(st % 512).toNat, by omega⟩
      have hm5 : m < 512 := by omega
      have hst0 : 0 ≤ st := by omega
      have hst1 : st ≤ 1099511627776 := by omega
      have hm0 : (0 : Int) ≤ (m : Int) := by omega
      have htm : st.tmod 512 = (m : Int) := by rw [Int.tmod_eq_emod_of_nonneg hst0]; exact hm
      obtain ⟨sec, hsec⟩ : ∃ sec, seeD pl dur (dataP ps) = sec := ⟨_, rfl⟩
      rw [hsec] at hsl
      have HSec := (show Hid (seeD pl dur (dataP ps) = sec) from hsec)
      have HRd := (show Hid (IsRead pl dur (dataP ps) sec) from .inl ⟨hh.2.1, by omega, hplt, hsec.symm⟩)
      have hF : ∀ (g5 c5 : Nat) (wx : World), Calls Try.prog 81 #[.agg #[.int .i64 s, .int .i64 ep, .int .i64 st, .int .i64 st, .slice (some ⟨g5, 0, none⟩) m c5]] wx fun e w' => e = .returned (.int .i64 (if 1 ≤ ep ∧ ep ≤ 4294967295 then 0 else 2)) ∧ Same wx w' := fun g5 c5 wx => by
        have hlm : (sec.take m).length = m := by simp; omega
        have h := implLogFault0 ⟨s, ep, st, st, ⟨0, some ⟨g5, 0, none⟩, c5, sec.take m⟩⟩ wx (by simp only [StLog.szs]; omega)
        dsimp only [StLog.val, BS.v, StLog.dat, logFd, logFault] at h
        rw [hlm, if_neg (not_not_intro hh.1), if_neg (show ¬ (st < 512 ∨ st < st ∨ 1099511627776 < st) from by omega), if_neg (show ¬ ((m : Int) ≠ st - st + st % 512) from by omega)] at h
        by_cases he : 1 ≤ ep ∧ ep ≤ 4294967295
        · rw [if_neg (not_not_intro he)] at h
          rw [if_pos he]
          exact h
        · rw [if_pos he] at h
          rw [if_neg he]
          exact h
      by_cases he : 1 ≤ ep ∧ ep ≤ 4294967295
      · rw [loadD_yes ⟨⟨hh.1, hst⟩, he, hh.2⟩, hpl, hsec, hm, Int.toNat_natCast]
        rw [if_pos he] at hF
        clear hh hst he hplt hsec hpl
        go_enter Try.func42, Try.ntmps42
        go_wp2_with (first
          | (go_at_call 79; refine (hH _ HK0.out).mono ?_; rintro e w1 ⟨rfl, hk⟩; have b1 := b0.same hk; have z1 := z0.same hk; have HK1 := (show Hid (Same w w1) from HK0.out.trans hk); clear hk; have c1_0 : w1.cell? ⟨w.heap.size, 0, none⟩ = some (.slice a1 dur.length c1) := b1.cell 0; have c1_1 : w1.cell? ⟨w.heap.size, 1, none⟩ = some (.slice a2 ps.length c2) := b1.cell 1; have y1_0 : w1.cell? ⟨w.heap.size + 1, 0, none⟩ = some (.int .i64 0) := z1.cell 0; have y1_1 : w1.cell? ⟨w.heap.size + 1, 1, none⟩ = some (.int .i64 0) := z1.cell 1; have y1_2 : w1.cell? ⟨w.heap.size + 1, 2, none⟩ = some (.int .i64 0) := z1.cell 2; have y1_3 : w1.cell? ⟨w.heap.size + 1, 3, none⟩ = some (.int .i64 0) := z1.cell 3; have y1_4 : w1.cell? ⟨w.heap.size + 1, 4, none⟩ = some (.slice none 0 0) := z1.cell 4; have f1 := z1.frozen)
          | (go_at_call 80; refine (hP _).mono ?_; rintro e w2 ⟨rfl, hk⟩; have b2 := b1.same hk; have z2 := z1.same hk; have HK2 := (show Hid (Same w w2) from HK1.out.trans hk); clear hk; have c2_0 : w2.cell? ⟨w.heap.size, 0, none⟩ = some (.slice a1 dur.length c1) := b2.cell 0; have c2_1 : w2.cell? ⟨w.heap.size, 1, none⟩ = some (.slice a2 ps.length c2) := b2.cell 1; have y2_0 : w2.cell? ⟨w.heap.size + 1, 0, none⟩ = some (.int .i64 0) := z2.cell 0; have y2_1 : w2.cell? ⟨w.heap.size + 1, 1, none⟩ = some (.int .i64 0) := z2.cell 1; have y2_2 : w2.cell? ⟨w.heap.size + 1, 2, none⟩ = some (.int .i64 0) := z2.cell 2; have y2_3 : w2.cell? ⟨w.heap.size + 1, 3, none⟩ = some (.int .i64 0) := z2.cell 3; have y2_4 : w2.cell? ⟨w.heap.size + 1, 4, none⟩ = some (.slice none 0 0) := z2.cell 4; have f2 := z2.frozen))
        have hb2 := b2.lt
        have hz2 := z2.lt
        have k3 : Same w2 (w2.alloc (.cells #[.int .i64 s, .int .i64 ep, .int .i64 st, .int .i64 st, .slice none 0 0] 66)) := (Kept.refl _ _).alloc _
        have l3 := Blk.newL w2 [.int .i64 s, .int .i64 ep, .int .i64 st, .int .i64 st, .slice none 0 0] 66
        have b3 := b2.same k3
        have z3 := z2.same k3
        have HK3 := (show Hid (Same w _) from HK2.out.trans k3)
        obtain ⟨w3, hw3⟩ : ∃ w3, (w2.alloc (.cells #[.int .i64 s, .int .i64 ep, .int .i64 st, .int .i64 st, .slice none 0 0] 66)) = w3 := ⟨_, rfl⟩
        rw [hw3] at k3 l3 b3 z3 HK3 ⊢
        clear hw3 k3
        have c3_0 : w3.cell? ⟨w.heap.size, 0, none⟩ = some (.slice a1 dur.length c1) := b3.cell 0; have c3_1 : w3.cell? ⟨w.heap.size, 1, none⟩ = some (.slice a2 ps.length c2) := b3.cell 1
        have hS : ((fun wx : World => wx.cell? ⟨w.heap.size, 0, none⟩ = some (.slice a1 dur.length c1) ∧ wx.cell? ⟨w.heap.size, 1, none⟩ = some (.slice a2 ps.length c2))) w3.drew := by exact ⟨c3_0, c3_1⟩
        refine wp_region_V ((fun wx : World => wx.cell? ⟨w.heap.size, 0, none⟩ = some (.slice a1 dur.length c1) ∧ wx.cell? ⟨w.heap.size, 1, none⟩ = some (.slice a2 ps.length c2))) 9 10 rfl (by kernel_rfl) ?_
        refine tk 0 26 hS ?_
        refine tk 1 27 hS ?_
        refine tk 2 28 hS ?_
        refine tk 5 31 hS ?_
        refine tk 6 32 hS ?_
        refine wpAnyV_one (i := 3) (by kernel_rfl) rfl (fun K hK => ?_)
        go_simp
        refine (hP _).mono ?_
        rintro e w4 ⟨rfl, hk⟩
        have b4 := b3.same ((Kept.refl _ _).drew.trans hk)
        have z4 := z3.same ((Kept.refl _ _).drew.trans hk)
        have l4 := l3.same ((Kept.refl _ _).drew.trans hk)
        have HK4 := (show Hid (Same w w4) from HK3.out.drew.trans hk)
        clear hk
        have hS : ((fun wx : World => wx.cell? ⟨w.heap.size, 0, none⟩ = some (.slice a1 dur.length c1) ∧ wx.cell? ⟨w.heap.size, 1, none⟩ = some (.slice a2 ps.length c2))) w4 := by exact ⟨b4.cell 0, b4.cell 1⟩
        refine hK.out _ _ (fun _ => hS) ?_
        clear hK K
        try simp only [Act.put, sA, s0, sS]
        refine wpAnyV_one (i := 4) (by kernel_rfl) rfl (fun K hK => ?_)
        go_simp
        refine (implRead_any _ _ dur ps pl _ hd HS.out (HV.out.same HK4.out)).mono ?_
        rintro e w5 ⟨a5, n5, c5, bs5, rfl, hir, hown, hfr, hk⟩
        obtain rfl : sec = bs5 := HRd.out.one hir
        obtain ⟨g5, rfl, rfl, hc5⟩ := own_form512 hown hsl
        have b5 := b4.same hk
        have z5 := z4.same hk
        have l5 := l4.same hk
        have HK5 := (show Hid (Same w w5) from HK4.out.trans hk)
        have HO5 := (show Hid (Own 0 5 .u8 w5 (.slice (some ⟨g5, 0, none⟩) m c5) (sec.take m)) from hown.take m (by omega))
        have hg5 := hfr g5 rfl
        have hl4 := l4.lt
        have hz4 := z4.lt
        have hmc : (m : Int) ≤ (c5 : Int) := by omega
        clear hk hown hfr hir
        have l5_0 : w5.cell? ⟨w2.heap.size, 0, none⟩ = some (.int .i64 s) := l5.cell 0; have l5_1 : w5.cell? ⟨w2.heap.size, 1, none⟩ = some (.int .i64 ep) := l5.cell 1; have l5_2 : w5.cell? ⟨w2.heap.size, 2, none⟩ = some (.int .i64 st) := l5.cell 2; have l5_3 : w5.cell? ⟨w2.heap.size, 3, none⟩ = some (.int .i64 st) := l5.cell 3; have l5_4 : w5.cell? ⟨w2.heap.size, 4, none⟩ = some (.slice none 0 0) := l5.cell 4
        have fl5 := l5.frozen
        have hS : ((fun wx : World => wx.cell? ⟨w.heap.size, 0, none⟩ = some (.slice a1 dur.length c1) ∧ wx.cell? ⟨w.heap.size, 1, none⟩ = some (.slice a2 ps.length c2))) w5 := by exact ⟨b5.cell 0, b5.cell 1⟩
        refine hK.out _ _ (fun _ => hS) ?_
        clear hK K
        try simp only [Act.put, sA, s0, sS]
        refine tk 7 33 hS ?_
        refine tk 8 34 hS ?_
        refine wpAnyV_one (i := 9) (by kernel_rfl) rfl (fun K hK => ?_)
        go_simp
        refine hK.out _ _ (fun h => absurd rfl h) ?_
        clear hK K
        refine wpAnyV_done (by kernel_rfl) ?_
        try simp only [Act.put, sA, s0, sS]
        have l6 : Blk (w5.setCell ⟨w2.heap.size, 4, none⟩ (.slice (some ⟨g5, 0, none⟩) m c5)) w2.heap.size 66 [.int .i64 s, .int .i64 ep, .int .i64 st, .int .i64 st, .slice (some ⟨g5, 0, none⟩) m c5] := l5.stored 4 _
        have z6 : Blk (w5.setCell ⟨w2.heap.size, 4, none⟩ (.slice (some ⟨g5, 0, none⟩) m c5)) (w.heap.size + 1) 66 [.int .i64 0, .int .i64 0, .int .i64 0, .int .i64 0, .slice none 0 0] := z5.other (by intro e; have e : w2.heap.size = w.heap.size + 1 := e; omega) _
        have HO6 := (show Hid (Own 0 5 .u8 (w5.setCell ⟨w2.heap.size, 4, none⟩ (.slice (some ⟨g5, 0, none⟩) m c5)) (.slice (some ⟨g5, 0, none⟩) m c5) (sec.take m)) from Own.kept HO5.out (R := fun b => b = w2.heap.size) ((Kept.refl (fun b => b = w2.heap.size) w5).setCell (p := ⟨w2.heap.size, 4, none⟩) (.inr rfl) _) (fun b hb e => by have hb : g5 = b := Option.some.inj hb; omega))
        have HK6 := (show Hid (Same w (w5.setCell ⟨w2.heap.size, 4, none⟩ (.slice (some ⟨g5, 0, none⟩) m c5))) from HK5.out.setCell (.inl (by show w.heap.size ≤ w2.heap.size; omega)) _)
        obtain ⟨w6, hw6⟩ : ∃ w6, (w5.setCell ⟨w2.heap.size, 4, none⟩ (.slice (some ⟨g5, 0, none⟩) m c5)) = w6 := ⟨_, rfl⟩
        rw [hw6] at l6 z6 HO6 HK6 ⊢
        clear hw6 l5_0 l5_1 l5_2 l5_3 l5_4 fl5 l5 z5 b5
        have l6_0 : w6.cell? ⟨w2.heap.size, 0, none⟩ = some (.int .i64 s) := l6.cell 0; have l6_1 : w6.cell? ⟨w2.heap.size, 1, none⟩ = some (.int .i64 ep) := l6.cell 1; have l6_2 : w6.cell? ⟨w2.heap.size, 2, none⟩ = some (.int .i64 st) := l6.cell 2; have l6_3 : w6.cell? ⟨w2.heap.size, 3, none⟩ = some (.int .i64 st) := l6.cell 3; have l6_4 : w6.cell? ⟨w2.heap.size, 4, none⟩ = some (.slice (some ⟨g5, 0, none⟩) m c5) := l6.cell 4
        go_wp2_with (go_at_call 81; refine (hF g5 c5 w6).mono ?_; rintro e w7 ⟨rfl, hk⟩; have l7 := l6.same hk; have z7 := z6.same hk; have HO7 := (show Hid (Own 0 5 .u8 w7 (.slice (some ⟨g5, 0, none⟩) m c5) (sec.take m)) from HO6.out.same hk); have HK7 := (show Hid (Same w w7) from HK6.out.trans hk); clear hk; have l7_0 : w7.cell? ⟨w2.heap.size, 0, none⟩ = some (.int .i64 s) := l7.cell 0; have l7_1 : w7.cell? ⟨w2.heap.size, 1, none⟩ = some (.int .i64 ep) := l7.cell 1; have l7_2 : w7.cell? ⟨w2.heap.size, 2, none⟩ = some (.int .i64 st) := l7.cell 2; have l7_3 : w7.cell? ⟨w2.heap.size, 3, none⟩ = some (.int .i64 st) := l7.cell 3; have l7_4 : w7.cell? ⟨w2.heap.size, 4, none⟩ = some (.slice (some ⟨g5, 0, none⟩) m c5) := l7.cell 4; have y7_0 : w7.cell? ⟨w.heap.size + 1, 0, none⟩ = some (.int .i64 0) := z7.cell 0; have y7_1 : w7.cell? ⟨w.heap.size + 1, 1, none⟩ = some (.int .i64 0) := z7.cell 1; have y7_2 : w7.cell? ⟨w.heap.size + 1, 2, none⟩ = some (.int .i64 0) := z7.cell 2; have y7_3 : w7.cell? ⟨w.heap.size + 1, 3, none⟩ = some (.int .i64 0) := z7.cell 3; have y7_4 : w7.cell? ⟨w.heap.size + 1, 4, none⟩ = some (.slice none 0 0) := z7.cell 4; have f7 := z7.frozen)
        have hz7 := z7.lt
        have hlm : (sec.take m).length = m := by simp; omega
        refine bodyPost_ret (v := .agg #[.int .i64 s, .int .i64 ep, .int .i64 st, .int .i64 st, .slice (some ⟨g5, 0, none⟩) m c5]) (by simp [results, Try.results42, go_sem, y7_0, y7_1, y7_2, y7_3, y7_4]) rfl ⟨⟨s, ep, st, st, ⟨5, some ⟨g5, 0, none⟩, c5, sec.take m⟩⟩, by rw [hlm], (by first | rfl | exact ⟨rfl, rfl, rfl, rfl, rfl⟩), fun b hb => ?_, OwnL.one ?_, ?_⟩
        · have hb := (footL_ints _ _ _ _ _).1 hb
          have hb : g5 = b := Option.some.inj hb
          omega
        · dsimp only [BS.v]
          rw [hlm]
          refine Own.kept HO7.out (R := fun b => b = w.heap.size + 1) ?_ (fun b hb e => ?_)
          · (iterate 5 refine Kept.setCell ?_ (.inr (by simp)) _); exact Kept.refl _ _
          · have hb : g5 = b := Option.some.inj hb
            omega
        · (iterate 5 refine Kept.setCell ?_ (.inl (by first | exact Nat.le_refl _ | exact Nat.le_succ _)) _); exact HK7.out
      · rw [loadD_no (fun h => he h.2.1)]
        rw [if_neg he] at hF
        clear hh hst he hplt hsec hpl
        go_enter Try.func42, Try.ntmps42
        go_wp2_with (first
          | (go_at_call 79; refine (hH _ HK0.out).mono ?_; rintro e w1 ⟨rfl, hk⟩; have b1 := b0.same hk; have z1 := z0.same hk; have HK1 := (show Hid (Same w w1) from HK0.out.trans hk); clear hk; have c1_0 : w1.cell? ⟨w.heap.size, 0, none⟩ = some (.slice a1 dur.length c1) := b1.cell 0; have c1_1 : w1.cell? ⟨w.heap.size, 1, none⟩ = some (.slice a2 ps.length c2) := b1.cell 1; have y1_0 : w1.cell? ⟨w.heap.size + 1, 0, none⟩ = some (.int .i64 0) := z1.cell 0; have y1_1 : w1.cell? ⟨w.heap.size + 1, 1, none⟩ = some (.int .i64 0) := z1.cell 1; have y1_2 : w1.cell? ⟨w.heap.size + 1, 2, none⟩ = some (.int .i64 0) := z1.cell 2; have y1_3 : w1.cell? ⟨w.heap.size + 1, 3, none⟩ = some (.int .i64 0) := z1.cell 3; have y1_4 : w1.cell? ⟨w.heap.size + 1, 4, none⟩ = some (.slice none 0 0) := z1.cell 4; have f1 := z1.frozen)
          | (go_at_call 80; refine (hP _).mono ?_; rintro e w2 ⟨rfl, hk⟩; have b2 := b1.same hk; have z2 := z1.same hk; have HK2 := (show Hid (Same w w2) from HK1.out.trans hk); clear hk; have c2_0 : w2.cell? ⟨w.heap.size, 0, none⟩ = some (.slice a1 dur.length c1) := b2.cell 0; have c2_1 : w2.cell? ⟨w.heap.size, 1, none⟩ = some (.slice a2 ps.length c2) := b2.cell 1; have y2_0 : w2.cell? ⟨w.heap.size + 1, 0, none⟩ = some (.int .i64 0) := z2.cell 0; have y2_1 : w2.cell? ⟨w.heap.size + 1, 1, none⟩ = some (.int .i64 0) := z2.cell 1; have y2_2 : w2.cell? ⟨w.heap.size + 1, 2, none⟩ = some (.int .i64 0) := z2.cell 2; have y2_3 : w2.cell? ⟨w.heap.size + 1, 3, none⟩ = some (.int .i64 0) := z2.cell 3; have y2_4 : w2.cell? ⟨w.heap.size + 1, 4, none⟩ = some (.slice none 0 0) := z2.cell 4; have f2 := z2.frozen))
        have hb2 := b2.lt
        have hz2 := z2.lt
        have k3 : Same w2 (w2.alloc (.cells #[.int .i64 s, .int .i64 ep, .int .i64 st, .int .i64 st, .slice none 0 0] 66)) := (Kept.refl _ _).alloc _
        have l3 := Blk.newL w2 [.int .i64 s, .int .i64 ep, .int .i64 st, .int .i64 st, .slice none 0 0] 66
        have b3 := b2.same k3
        have z3 := z2.same k3
        have HK3 := (show Hid (Same w _) from HK2.out.trans k3)
        obtain ⟨w3, hw3⟩ : ∃ w3, (w2.alloc (.cells #[.int .i64 s, .int .i64 ep, .int .i64 st, .int .i64 st, .slice none 0 0] 66)) = w3 := ⟨_, rfl⟩
        rw [hw3] at k3 l3 b3 z3 HK3 ⊢
        clear hw3 k3
        have c3_0 : w3.cell? ⟨w.heap.size, 0, none⟩ = some (.slice a1 dur.length c1) := b3.cell 0; have c3_1 : w3.cell? ⟨w.heap.size, 1, none⟩ = some (.slice a2 ps.length c2) := b3.cell 1
        have hS : ((fun wx : World => wx.cell? ⟨w.heap.size, 0, none⟩ = some (.slice a1 dur.length c1) ∧ wx.cell? ⟨w.heap.size, 1, none⟩ = some (.slice a2 ps.length c2))) w3.drew := by exact ⟨c3_0, c3_1⟩
        refine wp_region_V ((fun wx : World => wx.cell? ⟨w.heap.size, 0, none⟩ = some (.slice a1 dur.length c1) ∧ wx.cell? ⟨w.heap.size, 1, none⟩ = some (.slice a2 ps.length c2))) 9 10 rfl (by kernel_rfl) ?_
        refine tk 0 26 hS ?_
        refine tk 1 27 hS ?_
        refine tk 2 28 hS ?_
        refine tk 5 31 hS ?_
        refine tk 6 32 hS ?_
        refine wpAnyV_one (i := 3) (by kernel_rfl) rfl (fun K hK => ?_)
        go_simp
        refine (hP _).mono ?_
        rintro e w4 ⟨rfl, hk⟩
        have b4 := b3.same ((Kept.refl _ _).drew.trans hk)
        have z4 := z3.same ((Kept.refl _ _).drew.trans hk)
        have l4 := l3.same ((Kept.refl _ _).drew.trans hk)
        have HK4 := (show Hid (Same w w4) from HK3.out.drew.trans hk)
        clear hk
        have hS : ((fun wx : World => wx.cell? ⟨w.heap.size, 0, none⟩ = some (.slice a1 dur.length c1) ∧ wx.cell? ⟨w.heap.size, 1, none⟩ = some (.slice a2 ps.length c2))) w4 := by exact ⟨b4.cell 0, b4.cell 1⟩
        refine hK.out _ _ (fun _ => hS) ?_
        clear hK K
        try simp only [Act.put, sA, s0, sS]
        refine wpAnyV_one (i := 4) (by kernel_rfl) rfl (fun K hK => ?_)
        go_simp
        refine (implRead_any _ _ dur ps pl _ hd HS.out (HV.out.same HK4.out)).mono ?_
        rintro e w5 ⟨a5, n5, c5, bs5, rfl, hir, hown, hfr, hk⟩
        obtain rfl : sec = bs5 := HRd.out.one hir
        obtain ⟨g5, rfl, rfl, hc5⟩ := own_form512 hown hsl
        have b5 := b4.same hk
        have z5 := z4.same hk
        have l5 := l4.same hk
        have HK5 := (show Hid (Same w w5) from HK4.out.trans hk)
        have HO5 := (show Hid (Own 0 5 .u8 w5 (.slice (some ⟨g5, 0, none⟩) m c5) (sec.take m)) from hown.take m (by omega))
        have hg5 := hfr g5 rfl
        have hl4 := l4.lt
        have hz4 := z4.lt
        have hmc : (m : Int) ≤ (c5 : Int) := by omega
        clear hk hown hfr hir
        have l5_0 : w5.cell? ⟨w2.heap.size, 0, none⟩ = some (.int .i64 s) := l5.cell 0; have l5_1 : w5.cell? ⟨w2.heap.size, 1, none⟩ = some (.int .i64 ep) := l5.cell 1; have l5_2 : w5.cell? ⟨w2.heap.size, 2, none⟩ = some (.int .i64 st) := l5.cell 2; have l5_3 : w5.cell? ⟨w2.heap.size, 3, none⟩ = some (.int .i64 st) := l5.cell 3; have l5_4 : w5.cell? ⟨w2.heap.size, 4, none⟩ = some (.slice none 0 0) := l5.cell 4
        have fl5 := l5.frozen
        have hS : ((fun wx : World => wx.cell? ⟨w.heap.size, 0, none⟩ = some (.slice a1 dur.length c1) ∧ wx.cell? ⟨w.heap.size, 1, none⟩ = some (.slice a2 ps.length c2))) w5 := by exact ⟨b5.cell 0, b5.cell 1⟩
        refine hK.out _ _ (fun _ => hS) ?_
        clear hK K
        try simp only [Act.put, sA, s0, sS]
        refine tk 7 33 hS ?_
        refine tk 8 34 hS ?_
        refine wpAnyV_one (i := 9) (by kernel_rfl) rfl (fun K hK => ?_)
        go_simp
        refine hK.out _ _ (fun h => absurd rfl h) ?_
        clear hK K
        refine wpAnyV_done (by kernel_rfl) ?_
        try simp only [Act.put, sA, s0, sS]
        have l6 : Blk (w5.setCell ⟨w2.heap.size, 4, none⟩ (.slice (some ⟨g5, 0, none⟩) m c5)) w2.heap.size 66 [.int .i64 s, .int .i64 ep, .int .i64 st, .int .i64 st, .slice (some ⟨g5, 0, none⟩) m c5] := l5.stored 4 _
        have z6 : Blk (w5.setCell ⟨w2.heap.size, 4, none⟩ (.slice (some ⟨g5, 0, none⟩) m c5)) (w.heap.size + 1) 66 [.int .i64 0, .int .i64 0, .int .i64 0, .int .i64 0, .slice none 0 0] := z5.other (by intro e; have e : w2.heap.size = w.heap.size + 1 := e; omega) _
        have HO6 := (show Hid (Own 0 5 .u8 (w5.setCell ⟨w2.heap.size, 4, none⟩ (.slice (some ⟨g5, 0, none⟩) m c5)) (.slice (some ⟨g5, 0, none⟩) m c5) (sec.take m)) from Own.kept HO5.out (R := fun b => b = w2.heap.size) ((Kept.refl (fun b => b = w2.heap.size) w5).setCell (p := ⟨w2.heap.size, 4, none⟩) (.inr rfl) _) (fun b hb e => by have hb : g5 = b := Option.some.inj hb; omega))
        have HK6 := (show Hid (Same w (w5.setCell ⟨w2.heap.size, 4, none⟩ (.slice (some ⟨g5, 0, none⟩) m c5))) from HK5.out.setCell (.inl (by show w.heap.size ≤ w2.heap.size; omega)) _)
        obtain ⟨w6, hw6⟩ : ∃ w6, (w5.setCell ⟨w2.heap.size, 4, none⟩ (.slice (some ⟨g5, 0, none⟩) m c5)) = w6 := ⟨_, rfl⟩
        rw [hw6] at l6 z6 HO6 HK6 ⊢
        clear hw6 l5_0 l5_1 l5_2 l5_3 l5_4 fl5 l5 z5 b5
        have l6_0 : w6.cell? ⟨w2.heap.size, 0, none⟩ = some (.int .i64 s) := l6.cell 0; have l6_1 : w6.cell? ⟨w2.heap.size, 1, none⟩ = some (.int .i64 ep) := l6.cell 1; have l6_2 : w6.cell? ⟨w2.heap.size, 2, none⟩ = some (.int .i64 st) := l6.cell 2; have l6_3 : w6.cell? ⟨w2.heap.size, 3, none⟩ = some (.int .i64 st) := l6.cell 3; have l6_4 : w6.cell? ⟨w2.heap.size, 4, none⟩ = some (.slice (some ⟨g5, 0, none⟩) m c5) := l6.cell 4
        go_wp2_with (go_at_call 81; refine (hF g5 c5 w6).mono ?_; rintro e w7 ⟨rfl, hk⟩; have l7 := l6.same hk; have z7 := z6.same hk; have HO7 := (show Hid (Own 0 5 .u8 w7 (.slice (some ⟨g5, 0, none⟩) m c5) (sec.take m)) from HO6.out.same hk); have HK7 := (show Hid (Same w w7) from HK6.out.trans hk); clear hk; have l7_0 : w7.cell? ⟨w2.heap.size, 0, none⟩ = some (.int .i64 s) := l7.cell 0; have l7_1 : w7.cell? ⟨w2.heap.size, 1, none⟩ = some (.int .i64 ep) := l7.cell 1; have l7_2 : w7.cell? ⟨w2.heap.size, 2, none⟩ = some (.int .i64 st) := l7.cell 2; have l7_3 : w7.cell? ⟨w2.heap.size, 3, none⟩ = some (.int .i64 st) := l7.cell 3; have l7_4 : w7.cell? ⟨w2.heap.size, 4, none⟩ = some (.slice (some ⟨g5, 0, none⟩) m c5) := l7.cell 4; have y7_0 : w7.cell? ⟨w.heap.size + 1, 0, none⟩ = some (.int .i64 0) := z7.cell 0; have y7_1 : w7.cell? ⟨w.heap.size + 1, 1, none⟩ = some (.int .i64 0) := z7.cell 1; have y7_2 : w7.cell? ⟨w.heap.size + 1, 2, none⟩ = some (.int .i64 0) := z7.cell 2; have y7_3 : w7.cell? ⟨w.heap.size + 1, 3, none⟩ = some (.int .i64 0) := z7.cell 3; have y7_4 : w7.cell? ⟨w.heap.size + 1, 4, none⟩ = some (.slice none 0 0) := z7.cell 4; have f7 := z7.frozen)
        refine bodyPost_ret (v := .agg #[.int .i64 0, .int .i64 0, .int .i64 0, .int .i64 0, .slice none 0 0]) (by simp [results, Try.results42, go_sem, y7_0, y7_1, y7_2, y7_3, y7_4]) rfl ⟨⟨0, 0, 0, 0, ⟨0, none, 0, []⟩⟩, rfl, rfl, fun b hb => absurd hb (zeroLog_foot b), zeroLog_own _, ?_⟩
        (iterate 5 refine Kept.setCell ?_ (.inl (by first | exact Nat.le_refl _ | exact Nat.le_succ _)) _); exact HK7.out
    · rw [logPlace_no (fun h => hst h.2)] at hP
      rw [loadD_no (fun h => hst h.1.2)]
      clear hh hst
      go_enter Try.func42, Try.ntmps42
      go_wp2_with (first
        | (go_at_call 79; refine (hH _ HK0.out).mono ?_; rintro e w1 ⟨rfl, hk⟩; have b1 := b0.same hk; have z1 := z0.same hk; have HK1 := (show Hid (Same w w1) from HK0.out.trans hk); clear hk; have c1_0 : w1.cell? ⟨w.heap.size, 0, none⟩ = some (.slice a1 dur.length c1) := b1.cell 0; have c1_1 : w1.cell? ⟨w.heap.size, 1, none⟩ = some (.slice a2 ps.length c2) := b1.cell 1; have y1_0 : w1.cell? ⟨w.heap.size + 1, 0, none⟩ = some (.int .i64 0) := z1.cell 0; have y1_1 : w1.cell? ⟨w.heap.size + 1, 1, none⟩ = some (.int .i64 0) := z1.cell 1; have y1_2 : w1.cell? ⟨w.heap.size + 1, 2, none⟩ = some (.int .i64 0) := z1.cell 2; have y1_3 : w1.cell? ⟨w.heap.size + 1, 3, none⟩ = some (.int .i64 0) := z1.cell 3; have y1_4 : w1.cell? ⟨w.heap.size + 1, 4, none⟩ = some (.slice none 0 0) := z1.cell 4; have f1 := z1.frozen)
        | (go_at_call 80; refine (hP _).mono ?_; rintro e w2 ⟨rfl, hk⟩; have b2 := b1.same hk; have z2 := z1.same hk; have HK2 := (show Hid (Same w w2) from HK1.out.trans hk); clear hk; have c2_0 : w2.cell? ⟨w.heap.size, 0, none⟩ = some (.slice a1 dur.length c1) := b2.cell 0; have c2_1 : w2.cell? ⟨w.heap.size, 1, none⟩ = some (.slice a2 ps.length c2) := b2.cell 1; have y2_0 : w2.cell? ⟨w.heap.size + 1, 0, none⟩ = some (.int .i64 0) := z2.cell 0; have y2_1 : w2.cell? ⟨w.heap.size + 1, 1, none⟩ = some (.int .i64 0) := z2.cell 1; have y2_2 : w2.cell? ⟨w.heap.size + 1, 2, none⟩ = some (.int .i64 0) := z2.cell 2; have y2_3 : w2.cell? ⟨w.heap.size + 1, 3, none⟩ = some (.int .i64 0) := z2.cell 3; have y2_4 : w2.cell? ⟨w.heap.size + 1, 4, none⟩ = some (.slice none 0 0) := z2.cell 4; have f2 := z2.frozen))
      refine bodyPost_ret (v := .agg #[.int .i64 0, .int .i64 0, .int .i64 0, .int .i64 0, .slice none 0 0]) (by simp [results, Try.results42, go_sem, y2_0, y2_1, y2_2, y2_3, y2_4]) rfl ⟨⟨0, 0, 0, 0, ⟨0, none, 0, []⟩⟩, rfl, rfl, fun b hb => absurd hb (zeroLog_foot b), zeroLog_own _, ?_⟩
      (iterate 5 refine Kept.setCell ?_ (.inl (by first | exact Nat.le_refl _ | exact Nat.le_succ _)) _); exact HK2.out
  · have hH := fun wx (hk : Same w wx) => said_false hh (holdsLog_any _ _ dur ps s wx (HV.out.same hk))
    rw [loadD_no (fun h => hh ⟨h.1.1, h.2.2⟩)]
    clear hh
    go_enter Try.func42, Try.ntmps42
    go_wp2_with (go_at_call 79; refine (hH _ HK0.out).mono ?_; rintro e w1 ⟨rfl, hk⟩; have b1 := b0.same hk; have z1 := z0.same hk; have HK1 := (show Hid (Same w w1) from HK0.out.trans hk); clear hk; have c1_0 : w1.cell? ⟨w.heap.size, 0, none⟩ = some (.slice a1 dur.length c1) := b1.cell 0; have c1_1 : w1.cell? ⟨w.heap.size, 1, none⟩ = some (.slice a2 ps.length c2) := b1.cell 1; have y1_0 : w1.cell? ⟨w.heap.size + 1, 0, none⟩ = some (.int .i64 0) := z1.cell 0; have y1_1 : w1.cell? ⟨w.heap.size + 1, 1, none⟩ = some (.int .i64 0) := z1.cell 1; have y1_2 : w1.cell? ⟨w.heap.size + 1, 2, none⟩ = some (.int .i64 0) := z1.cell 2; have y1_3 : w1.cell? ⟨w.heap.size + 1, 3, none⟩ = some (.int .i64 0) := z1.cell 3; have y1_4 : w1.cell? ⟨w.heap.size + 1, 4, none⟩ = some (.slice none 0 0) := z1.cell 4; have f1 := z1.frozen)
    refine bodyPost_ret (v := .agg #[.int .i64 0, .int .i64 0, .int .i64 0, .int .i64 0, .slice none 0 0]) (by simp [results, Try.results42, go_sem, y1_0, y1_1, y1_2, y1_3, y1_4]) rfl ⟨⟨0, 0, 0, 0, ⟨0, none, 0, []⟩⟩, rfl, rfl, fun b hb => absurd hb (zeroLog_foot b), zeroLog_own _, ?_⟩
    (iterate 5 refine Kept.setCell ?_ (.inl (by first | exact Nat.le_refl _ | exact Nat.le_succ _)) _); exact HK1.out
end Go.Proofs.Ytfhdkbibcndmjaa

namespace Go.Proofs.Ytfhdkbibcndmjaa
set_option maxRecDepth 100000
set_option maxHeartbeats 16000000
open Go.RowKit
set_option linter.unusedVariables false
theorem logLoad_law (dv0 pv0 : Value) (dur0 : List Int) (ps0 : List PW) (s1 : Int) (s2 : Int) (s3 : Int) (w : World) (hv0 : RdD w dv0 pv0 dur0 ps0) :
    Calls Try.prog 7 #[.agg #[dv0, pv0], .int .i64 s1, .int .i64 s2, .int .i64 s3] w fun e w' => e = .returned (.bool true) ∧ Same w w' := by
  obtain ⟨a0a, c0a, rfl⟩ := hv0.dur.form
  obtain ⟨a0b, c0b, rfl⟩ := hv0.pend.form
  have HV0 := (show Hid (RdD w (.slice a0a dur0.length c0a) (.slice a0b ps0.length c0b) dur0 ps0) from hv0)
  clear hv0
  go_enter Try.func7, Try.ntmps7
  have HKw : Hid (Same w w) := Kept.refl _ _
  go_wp2_with fail
  refine (szDisk_any _ _ dur0 ps0 _ _ (by omega) (by omega) (HV0.out.same ((Kept.refl _ _).alloc _))).mono ?_
  rintro e w1 ⟨sz0, rfl, hr, hk⟩
  have hkk : Same w w1 := ((Kept.refl _ _).alloc _).trans hk
  have hzw1 := hk.size
  rw [World.size_alloc] at hzw1
  have HA0w1 := (show Hid (Box w1 (w.heap.size) (.slice a0a dur0.length c0a) (.slice a0b ps0.length c0b)) from (Box.new _ _ _ _).same hk)
  have HKw1 := (show Hid (Same w w1) from HKw.out.trans hkk)
  clear hkk hk
  rcases hr with rfl | ⟨hr, hr0⟩
  · go_wp2
    go_ret
    exact ⟨rfl, HKw1.out⟩
  have hd0 : dur0.length ≤ 1048576 := by omega
  have hp0 : ps0.length ≤ 1048576 := by omega
  have hsz0 : sizeP ps0 ≤ 1048576 := by omega
  have HS0 : Hid (∀ p ∈ ps0, p.bs.length ≤ 1048576) := fun p hp => by have := sizeP_mem ps0 p hp; omega
  have HT0 : Hid (∀ qs : List PW, dataP qs = dataP ps0 → qs.length ≤ 1073741824 ∧ ∀ p ∈ qs, p.bs.length ≤ 1099511627776) := fun qs hq => ⟨by rw [← dataP_length, hq, dataP_length]; omega, fun p hp => by have := sizeP_mem qs p hp; rw [dataP_sizeP hq] at this; omega⟩
  clear hr
  obtain ⟨A01, A02⟩ := HA0w1.out
  have lA0 := HA0w1.out.lt
  go_wp2_with fail
  refine (toDisk_any _ _ dur0 ps0 _ (by omega) (by omega) (fun p hp => Nat.le_trans (HS0.out p hp) (by omega)) (HV0.out.same HKw1.out)).mono ?_
  rintro e w2 ⟨gC0, gC0', qsC0, rfl, hq, hf, ho, hk⟩
  have HQC0 : Hid (dataP qsC0 = dataP ps0) := hq
  have HFC0 := (show Hid (∀ b, footD (.slice (some ⟨gC0, 0, none⟩) dur0.length dur0.length) (.slice (some ⟨gC0', 0, none⟩) ps0.length ps0.length) qsC0 b → w1.heap.size ≤ b ∧ b < w2.heap.size) from fun b hb => ⟨hf b hb, (ho.lt b hb).2⟩)
  have HC0w2 := (show Hid (OwnD 0 40 5 w2 (.slice (some ⟨gC0, 0, none⟩) dur0.length dur0.length) (.slice (some ⟨gC0', 0, none⟩) ps0.length ps0.length) dur0 qsC0) from ho)
  clear hf ho hq
  have hkk : Same w1 w2 := hk
  have hzw2 := hkk.size
  have HA0w2 := hid (HA0w1.out.same hkk)
  have HKw2 := (show Hid (Same w w2) from HKw1.out.trans hkk)
  clear hkk hk
  clear A01 A02 lA0
  obtain ⟨A01, A02⟩ := HA0w2.out
  have lA0 := HA0w2.out.lt
  go_wp2_with fail
  refine (specLoad_any _ _ dur0 qsC0 s1 s2 s3 _ (by omega) (HT0.out qsC0 HQC0.out).1 (HT0.out qsC0 HQC0.out).2 (HC0w2.out.rd)).mono ?_
  rintro e w3 ⟨⟨Wsectors, Wepoch, Wstop, Wflushed, ⟨Wtail_e, Wtail_a, Wtail_c, Wtail_b⟩⟩, rfl, hd, hf, ho, hk⟩
  rw [HQC0.out] at hd
  have hnW : StLog.size ⟨Wsectors, Wepoch, Wstop, Wflushed, ⟨Wtail_e, Wtail_a, Wtail_c, Wtail_b⟩⟩ ≤ 1099511627776 := loadD_small hd
  have hnW0 := StLog.size_le ⟨Wsectors, Wepoch, Wstop, Wflushed, ⟨Wtail_e, Wtail_a, Wtail_c, Wtail_b⟩⟩
  have HDW := (show Hid (StLog.dat ⟨Wsectors, Wepoch, Wstop, Wflushed, ⟨Wtail_e, Wtail_a, Wtail_c, Wtail_b⟩⟩ = loadD dur0 (dataP ps0) s1 s2 s3) from hd)
  dsimp only [StLog.val, BS.v]
  have HFW := (show Hid (∀ b, FootL (StLog.rows ⟨Wsectors, Wepoch, Wstop, Wflushed, ⟨Wtail_e, Wtail_a, Wtail_c, Wtail_b⟩⟩) b → w2.heap.size ≤ b ∧ b < w3.heap.size) from fun b hb => ⟨hf b hb, ho.lt b hb⟩)
  have HWw3 := (show Hid (OwnL w3 (StLog.rows ⟨Wsectors, Wepoch, Wstop, Wflushed, ⟨Wtail_e, Wtail_a, Wtail_c, Wtail_b⟩⟩)) from ho)
  clear hd hf ho
  have hkk : Same w2 w3 := hk
  have hzw3 := hkk.size
  have HA0w3 := hid (HA0w2.out.same hkk)
  have HC0w3 := hid (HC0w2.out.same hkk)
  have HKw3 := (show Hid (Same w w3) from HKw2.out.trans hkk)
  clear hkk hk
  clear A01 A02 lA0
  obtain ⟨A01, A02⟩ := HA0w3.out
  have lA0 := HA0w3.out.lt
  go_wp2_with fail
  refine (toDisk_any _ _ dur0 ps0 _ (by omega) (by omega) (fun p hp => Nat.le_trans (HS0.out p hp) (by omega)) (HV0.out.same (HKw3.out.alloc _))).mono ?_
  rintro e w4 ⟨gX0, gX0', qsX0, rfl, hq, hf, ho, hk⟩
  have HQX0 : Hid (dataP qsX0 = dataP ps0) := hq
  simp only [World.size_alloc] at hf
  have HFX0 := (show Hid (∀ b, footD (.slice (some ⟨gX0, 0, none⟩) dur0.length dur0.length) (.slice (some ⟨gX0', 0, none⟩) ps0.length ps0.length) qsX0 b → w3.heap.size < b ∧ b < w4.heap.size) from fun b hb => ⟨by have := hf b hb; omega, (ho.lt b hb).2⟩)
  have HX0w4 := (show Hid (OwnD 0 40 5 w4 (.slice (some ⟨gX0, 0, none⟩) dur0.length dur0.length) (.slice (some ⟨gX0', 0, none⟩) ps0.length ps0.length) dur0 qsX0) from ho)
  clear hf ho hq
  have hkk : Same w3 w4 := ((Kept.refl _ _).alloc _).trans hk
  have hzw4 := hk.size
  rw [World.size_alloc] at hzw4
  have HA0w4 := hid (HA0w3.out.same hkk)
  have HWw4 := hid (HWw3.out.same hkk)
  have HZw4 := (show Hid (Blk w4 (w3.heap.size) 66 [.int .i64 Wsectors, .int .i64 Wepoch, .int .i64 Wstop, .int .i64 Wflushed, .slice Wtail_a Wtail_b.length Wtail_c]) from (Blk.new w3 #[.int .i64 Wsectors, .int .i64 Wepoch, .int .i64 Wstop, .int .i64 Wflushed, .slice Wtail_a Wtail_b.length Wtail_c] 66).same hk)
  have HKw4 := (show Hid (Same w w4) from HKw3.out.trans hkk)
  clear hkk hk
  clear A01 A02 lA0
  obtain ⟨A01, A02⟩ := HA0w4.out
  have lA0 := HA0w4.out.lt
  have cZ_0 := HZw4.out.c0
  have cZ_1 := HZw4.out.c1
  have cZ_2 := HZw4.out.c2
  have cZ_3 := HZw4.out.c3
  have cZ_4 := HZw4.out.c4
  have lZ := HZw4.out.lt
  go_wp2_with fail
  refine (implLoad_any _ _ dur0 qsX0 s1 s2 s3 _ (by omega) (HT0.out qsX0 HQX0.out).1 (HT0.out qsX0 HQX0.out).2 (HX0w4.out.rd.same ((Kept.refl _ _).alloc _))).mono ?_
  rintro e w5 ⟨⟨Gsectors, Gepoch, Gstop, Gflushed, ⟨Gtail_e, Gtail_a, Gtail_c, Gtail_b⟩⟩, rfl, hd, hf, ho, hk⟩
  rw [HQX0.out] at hd
  have hnG : StLog.size ⟨Gsectors, Gepoch, Gstop, Gflushed, ⟨Gtail_e, Gtail_a, Gtail_c, Gtail_b⟩⟩ ≤ 1099511627776 := loadD_small hd
  have hnG0 := StLog.size_le ⟨Gsectors, Gepoch, Gstop, Gflushed, ⟨Gtail_e, Gtail_a, Gtail_c, Gtail_b⟩⟩
  have HDG := (show Hid (StLog.dat ⟨Gsectors, Gepoch, Gstop, Gflushed, ⟨Gtail_e, Gtail_a, Gtail_c, Gtail_b⟩⟩ = loadD dur0 (dataP ps0) s1 s2 s3) from hd)
  dsimp only [StLog.val, BS.v]
  simp only [World.size_alloc] at hf
  have HFG := (show Hid (∀ b, FootL (StLog.rows ⟨Gsectors, Gepoch, Gstop, Gflushed, ⟨Gtail_e, Gtail_a, Gtail_c, Gtail_b⟩⟩) b → w4.heap.size < b ∧ b < w5.heap.size) from fun b hb => ⟨by have := hf b hb; omega, ho.lt b hb⟩)
  have HGw5 := (show Hid (OwnL w5 (StLog.rows ⟨Gsectors, Gepoch, Gstop, Gflushed, ⟨Gtail_e, Gtail_a, Gtail_c, Gtail_b⟩⟩)) from ho)
  clear hd hf ho
  have hkk : Same w4 w5 := ((Kept.refl _ _).alloc _).trans hk
  have hzw5 := hk.size
  rw [World.size_alloc] at hzw5
  have HA0w5 := hid (HA0w4.out.same hkk)
  have HWw5 := hid (HWw4.out.same hkk)
  have HZw5 := hid (HZw4.out.same hkk)
  have HX0w5 := hid (HX0w4.out.same hkk)
  have HT0w5 := (show Hid (Box w5 (w4.heap.size) (.slice (some ⟨gX0, 0, none⟩) dur0.length dur0.length) (.slice (some ⟨gX0', 0, none⟩) ps0.length ps0.length)) from (Box.new _ _ _ _).same hk)
  have HKw5 := (show Hid (Same w w5) from HKw4.out.trans hkk)
  clear hkk hk
  clear A01 A02 lA0
  clear cZ_0 cZ_1 cZ_2 cZ_3 cZ_4 lZ
  obtain ⟨A01, A02⟩ := HA0w5.out
  have lA0 := HA0w5.out.lt
  obtain ⟨T01, T02⟩ := HT0w5.out
  have lT0 := HT0w5.out.lt
  have cZ_0 := HZw5.out.c0
  have cZ_1 := HZw5.out.c1
  have cZ_2 := HZw5.out.c2
  have cZ_3 := HZw5.out.c3
  have cZ_4 := HZw5.out.c4
  have lZ := HZw5.out.lt
  go_wp2_with fail
  refine (eqLog_own ⟨Gsectors, Gepoch, Gstop, Gflushed, ⟨Gtail_e, Gtail_a, Gtail_c, Gtail_b⟩⟩ ⟨Wsectors, Wepoch, Wstop, Wflushed, ⟨Wtail_e, Wtail_a, Wtail_c, Wtail_b⟩⟩ _ (by omega) (HDG.out.trans HDW.out.symm) (HGw5.out.same ((Kept.refl _ _).alloc _)) (HWw5.out.same ((Kept.refl _ _).alloc _))).mono ?_
  rintro e w6 ⟨rfl, hk⟩
  have hkk : Same w5 w6 := ((Kept.refl _ _).alloc _).trans hk
  have hzw6 := hk.size
  rw [World.size_alloc] at hzw6
  have HA0w6 := hid (HA0w5.out.same hkk)
  have HWw6 := hid (HWw5.out.same hkk)
  have HZw6 := hid (HZw5.out.same hkk)
  have HX0w6 := hid (HX0w5.out.same hkk)
  have HT0w6 := hid (HT0w5.out.same hkk)
  have HGw6 := hid (HGw5.out.same hkk)
  have HYw6 := (show Hid (Blk w6 (w5.heap.size) 66 [.int .i64 Gsectors, .int .i64 Gepoch, .int .i64 Gstop, .int .i64 Gflushed, .slice Gtail_a Gtail_b.length Gtail_c]) from (Blk.new w5 #[.int .i64 Gsectors, .int .i64 Gepoch, .int .i64 Gstop, .int .i64 Gflushed, .slice Gtail_a Gtail_b.length Gtail_c] 66).same hk)
  have HKw6 := (show Hid (Same w w6) from HKw5.out.trans hkk)
  clear hkk hk
  clear A01 A02 lA0 T01 T02 lT0
  clear cZ_0 cZ_1 cZ_2 cZ_3 cZ_4 lZ
  obtain ⟨A01, A02⟩ := HA0w6.out
  have lA0 := HA0w6.out.lt
  obtain ⟨T01, T02⟩ := HT0w6.out
  have lT0 := HT0w6.out.lt
  have cZ_0 := HZw6.out.c0
  have cZ_1 := HZw6.out.c1
  have cZ_2 := HZw6.out.c2
  have cZ_3 := HZw6.out.c3
  have cZ_4 := HZw6.out.c4
  have lZ := HZw6.out.lt
  have cY_0 := HYw6.out.c0
  have cY_1 := HYw6.out.c1
  have cY_2 := HYw6.out.c2
  have cY_3 := HYw6.out.c3
  have cY_4 := HYw6.out.c4
  have lY := HYw6.out.lt
  go_wp2_with fail
  go_cut [43] (fun v wc => v = .bool false ∧ Hid (Same w6 wc))
  case first =>
    have HD1 : Hid (Same w w6.drew) := HKw6.out.drew
    have HD2 : Hid (Same w6 w6.drew) := (Kept.refl _ _).drew
    go_region_with (first | (go_at_call 21; refine (toDisk_any _ _ dur0 ps0 _ (by omega) (by omega) (fun p hp => Nat.le_trans (HS0.out p hp) (by omega)) (by exact HV0.out.same HD1.out)).mono ?_; rintro e wx7 ⟨g3, g3', qs7, rfl, hq3, hf3, ho3, hk7⟩; obtain ⟨y1, y2⟩ := HT0w6.out.same (HD2.out.trans hk7); have HO7 := (show Hid (OwnD 0 40 5 wx7 (.slice (some ⟨g3, 0, none⟩) dur0.length dur0.length) (.slice (some ⟨g3', 0, none⟩) ps0.length ps0.length) dur0 qs7) from ho3); have HQ7 : Hid (dataP qs7 = dataP ps0) := hq3; have HK7 : Hid (Same w6 wx7) := HD2.out.trans hk7; clear ho3 hq3 hf3 hk7) | (go_at_call 24; refine (eqDisk_own 0 _ _ _ _ dur0 qsX0 qs7 _ (by omega) (by have h := (HT0.out qsX0 HQX0.out).1; omega) (HQX0.out.trans HQ7.out.symm) (fun p hp => Nat.le_trans ((HT0.out qsX0 HQX0.out).2 p hp) (by omega)) (HX0w6.out.same HK7.out) HO7.out).mono ?_; rintro e wx8 ⟨rfl, hk8⟩))
    all_goals
      have HK8 : Hid (Same w6 wx8) := HK7.out.trans hk8
      clear hk8
      go_wp2_with fail
      go_meet
      case rel => exact ⟨rfl, HK8⟩
  case rest =>
  obtain ⟨rfl, HKC⟩ := hcut
  obtain ⟨w7, hwc⟩ : ∃ x, x = wc := ⟨_, rfl⟩
  subst hwc
  clear A01 A02 lA0 T01 T02 lT0
  clear cZ_0 cZ_1 cZ_2 cZ_3 cZ_4 lZ cY_0 cY_1 cY_2 cY_3 cY_4 lY
  have hkk : Same w6 w7 := HKC.out
  have hzw7 := hkk.size
  have HA0w7 := hid (HA0w6.out.same hkk)
  have HWw7 := hid (HWw6.out.same hkk)
  have HZw7 := hid (HZw6.out.same hkk)
  have HX0w7 := hid (HX0w6.out.same hkk)
  have HT0w7 := hid (HT0w6.out.same hkk)
  have HGw7 := hid (HGw6.out.same hkk)
  have HYw7 := hid (HYw6.out.same hkk)
  have HKw7 := (show Hid (Same w w7) from HKw6.out.trans hkk)
  clear hkk
  have hE0 : (0 : Int) ≤ 1 := by omega
  have hE0b : (1 : Int) ≤ 1 := by omega
  have hqlX0 : qsX0.length = ps0.length := by rw [← dataP_length, HQX0.out, dataP_length]
  obtain ⟨E1, hE⟩ : ∃ E, endP (1 + (dur0.length : Int)) qsX0 = E := ⟨_, rfl⟩
  have hE1 : 0 ≤ E1 := by rw [← hE, endP_size]; omega
  have hE1b : E1 ≤ 5000001 := by rw [← hE, endP_size, dataP_sizeP HQX0.out]; omega
  have HE1 : Hid (endP (1 + (dur0.length : Int)) qsX0 = E1) := hE
  clear hE
  obtain ⟨A01, A02⟩ := HA0w7.out
  have lA0 := HA0w7.out.lt
  obtain ⟨T01, T02⟩ := HT0w7.out
  have lT0 := HT0w7.out.lt
  have cZ_0 := HZw7.out.c0
  have cZ_1 := HZw7.out.c1
  have cZ_2 := HZw7.out.c2
  have cZ_3 := HZw7.out.c3
  have cZ_4 := HZw7.out.c4
  have lZ := HZw7.out.lt
  have cY_0 := HYw7.out.c0
  have cY_1 := HYw7.out.c1
  have cY_2 := HYw7.out.c2
  have cY_3 := HYw7.out.c3
  have cY_4 := HYw7.out.c4
  have lY := HYw7.out.lt
  go_wp2_with fail
  have hm := markDisk_own 0 (.slice (some ⟨gX0, 0, none⟩) dur0.length dur0.length) (.slice (some ⟨gX0', 0, none⟩) ps0.length ps0.length) dur0 qsX0 1 w7 (by omega) (by rw [HE1.out]; omega) (by omega) HX0w7.out
  rw [HE1.out] at hm
  refine hm.mono ?_
  clear hm
  rintro e w8 ⟨rfl, _, hk⟩
  have hzw8 := hk.size
  have HA0w8 := (show Hid (Box w8 (w.heap.size) (.slice a0a dur0.length c0a) (.slice a0b ps0.length c0b)) from HA0w7.out.kept hk (fun e => by have h1 := HFX0.out _ e; omega))
  have HWw8 := (show Hid (OwnL w8 (StLog.rows ⟨Wsectors, Wepoch, Wstop, Wflushed, ⟨Wtail_e, Wtail_a, Wtail_c, Wtail_b⟩⟩)) from HWw7.out.kept hk (fun b hb e => by have h1 := HFX0.out _ e; have h2 := HFW.out b hb; omega))
  have HZw8 := (show Hid (Blk w8 (w3.heap.size) 66 [.int .i64 Wsectors, .int .i64 Wepoch, .int .i64 Wstop, .int .i64 Wflushed, .slice Wtail_a Wtail_b.length Wtail_c]) from HZw7.out.kept hk (fun e => by have h1 := HFX0.out _ e; omega))
  have HT0w8 := (show Hid (Box w8 (w4.heap.size) (.slice (some ⟨gX0, 0, none⟩) dur0.length dur0.length) (.slice (some ⟨gX0', 0, none⟩) ps0.length ps0.length)) from HT0w7.out.kept hk (fun e => by have h1 := HFX0.out _ e; omega))
  have HGw8 := (show Hid (OwnL w8 (StLog.rows ⟨Gsectors, Gepoch, Gstop, Gflushed, ⟨Gtail_e, Gtail_a, Gtail_c, Gtail_b⟩⟩)) from HGw7.out.kept hk (fun b hb e => by have h1 := HFX0.out _ e; have h2 := HFG.out b hb; omega))
  have HYw8 := (show Hid (Blk w8 (w5.heap.size) 66 [.int .i64 Gsectors, .int .i64 Gepoch, .int .i64 Gstop, .int .i64 Gflushed, .slice Gtail_a Gtail_b.length Gtail_c]) from HYw7.out.kept hk (fun e => by have h1 := HFX0.out _ e; omega))
  have HKw8 := (show Hid (Same w w8) from HKw7.out.next hk (fun b hb e => by have h1 := HFX0.out _ e; omega))
  clear A01 A02 lA0 T01 T02 lT0
  clear cZ_0 cZ_1 cZ_2 cZ_3 cZ_4 lZ cY_0 cY_1 cY_2 cY_3 cY_4 lY
  clear hk
  have hEn : ¬ E1 < 0 := by omega
  obtain ⟨A01, A02⟩ := HA0w8.out
  have lA0 := HA0w8.out.lt
  have cZ_0 := HZw8.out.c0
  have cZ_1 := HZw8.out.c1
  have cZ_2 := HZw8.out.c2
  have cZ_3 := HZw8.out.c3
  have cZ_4 := HZw8.out.c4
  have lZ := HZw8.out.lt
  have cY_0 := HYw8.out.c0
  have cY_1 := HYw8.out.c1
  have cY_2 := HYw8.out.c2
  have cY_3 := HYw8.out.c3
  have cY_4 := HYw8.out.c4
  have lY := HYw8.out.lt
  go_wp2_with fail
  refine (eqLog_own ⟨Gsectors, Gepoch, Gstop, Gflushed, ⟨Gtail_e, Gtail_a, Gtail_c, Gtail_b⟩⟩ ⟨Wsectors, Wepoch, Wstop, Wflushed, ⟨Wtail_e, Wtail_a, Wtail_c, Wtail_b⟩⟩ _ (by omega) (HDG.out.trans HDW.out.symm) HGw8.out HWw8.out).mono ?_
  rintro e w9 ⟨rfl, hk⟩
  have hkk : Same w8 w9 := hk
  have hzw9 := hkk.size
  have HA0w9 := hid (HA0w8.out.same hkk)
  have HWw9 := hid (HWw8.out.same hkk)
  have HZw9 := hid (HZw8.out.same hkk)
  have HGw9 := hid (HGw8.out.same hkk)
  have HYw9 := hid (HYw8.out.same hkk)
  have HKw9 := (show Hid (Same w w9) from HKw8.out.trans hkk)
  clear hkk hk
  clear A01 A02 lA0
  clear cZ_0 cZ_1 cZ_2 cZ_3 cZ_4 lZ cY_0 cY_1 cY_2 cY_3 cY_4 lY
  have hM2 : ¬ (1 + StLog.size ⟨Gsectors, Gepoch, Gstop, Gflushed, ⟨Gtail_e, Gtail_a, Gtail_c, Gtail_b⟩⟩) < 0 := by omega
  obtain ⟨M, hM⟩ : ∃ M, 1 + StLog.size ⟨Gsectors, Gepoch, Gstop, Gflushed, ⟨Gtail_e, Gtail_a, Gtail_c, Gtail_b⟩⟩ = M := ⟨_, rfl⟩
  have HM := (show Hid (1 + StLog.size ⟨Gsectors, Gepoch, Gstop, Gflushed, ⟨Gtail_e, Gtail_a, Gtail_c, Gtail_b⟩⟩ = M) from hM)
  have hM3 : 0 ≤ M ∧ M ≤ 1125899906842624 := by omega
  rw [hM] at hM2
  clear hM
  obtain ⟨A01, A02⟩ := HA0w9.out
  have lA0 := HA0w9.out.lt
  have cZ_0 := HZw9.out.c0
  have cZ_1 := HZw9.out.c1
  have cZ_2 := HZw9.out.c2
  have cZ_3 := HZw9.out.c3
  have cZ_4 := HZw9.out.c4
  have lZ := HZw9.out.lt
  have cY_0 := HYw9.out.c0
  have cY_1 := HYw9.out.c1
  have cY_2 := HYw9.out.c2
  have cY_3 := HYw9.out.c3
  have cY_4 := HYw9.out.c4
  have lY := HYw9.out.lt
  go_wp2_with fail
  have hm := markLog_own ⟨Gsectors, Gepoch, Gstop, Gflushed, ⟨Gtail_e, Gtail_a, Gtail_c, Gtail_b⟩⟩ 1 w9 (by omega) (by rw [HM.out]; omega) HGw9.out
  rw [HM.out] at hm
  dsimp only [StLog.val, BS.v] at hm
  refine hm.mono ?_
  clear hm
  rintro e w10 ⟨rfl, ho, hk⟩
  have hzw10 := hk.size
  have HA0w10 := (show Hid (Box w10 (w.heap.size) (.slice a0a dur0.length c0a) (.slice a0b ps0.length c0b)) from HA0w9.out.kept hk (fun e => by have h1 := HFG.out _ e; omega))
  have HWw10 := (show Hid (OwnL w10 (StLog.rows ⟨Wsectors, Wepoch, Wstop, Wflushed, ⟨Wtail_e, Wtail_a, Wtail_c, Wtail_b⟩⟩)) from HWw9.out.kept hk (fun b hb e => by have h1 := HFG.out _ e; have h2 := HFW.out b hb; omega))
  have HZw10 := (show Hid (Blk w10 (w3.heap.size) 66 [.int .i64 Wsectors, .int .i64 Wepoch, .int .i64 Wstop, .int .i64 Wflushed, .slice Wtail_a Wtail_b.length Wtail_c]) from HZw9.out.kept hk (fun e => by have h1 := HFG.out _ e; omega))
  have HYw10 := (show Hid (Blk w10 (w5.heap.size) 66 [.int .i64 Gsectors, .int .i64 Gepoch, .int .i64 Gstop, .int .i64 Gflushed, .slice Gtail_a Gtail_b.length Gtail_c]) from HYw9.out.kept hk (fun e => by have h1 := HFG.out _ e; omega))
  have HKw10 := (show Hid (Same w w10) from HKw9.out.next hk (fun b hb e => by have h1 := HFG.out _ e; omega))
  have HUw10 := (show Hid (OwnL w10 (StLog.marked ⟨Gsectors, Gepoch, Gstop, Gflushed, ⟨Gtail_e, Gtail_a, Gtail_c, Gtail_b⟩⟩ 1).rows) from ho)
  clear A01 A02 lA0
  clear cZ_0 cZ_1 cZ_2 cZ_3 cZ_4 lZ cY_0 cY_1 cY_2 cY_3 cY_4 lY
  clear hk ho
  have HFU := (show Hid (∀ b, FootL (StLog.marked ⟨Gsectors, Gepoch, Gstop, Gflushed, ⟨Gtail_e, Gtail_a, Gtail_c, Gtail_b⟩⟩ 1).rows b → _ ∧ _) from fun b hb => HFG.out b ((StLog.foot_marked _ _ b).1 hb))
  obtain ⟨A01, A02⟩ := HA0w10.out
  have lA0 := HA0w10.out.lt
  have cZ_0 := HZw10.out.c0
  have cZ_1 := HZw10.out.c1
  have cZ_2 := HZw10.out.c2
  have cZ_3 := HZw10.out.c3
  have cZ_4 := HZw10.out.c4
  have lZ := HZw10.out.lt
  have cY_0 := HYw10.out.c0
  have cY_1 := HYw10.out.c1
  have cY_2 := HYw10.out.c2
  have cY_3 := HYw10.out.c3
  have cY_4 := HYw10.out.c4
  have lY := HYw10.out.lt
  go_wp2_with fail
  have hm := heldLog_own ⟨Gsectors, Gepoch, Gstop, Gflushed, ⟨Gtail_e, Gtail_a, Gtail_c, Gtail_b⟩⟩ 1 w10 (by omega) (by rw [HM.out]; omega) HUw10.out
  rw [HM.out] at hm
  dsimp only [StLog.val, BS.v] at hm
  refine hm.mono ?_
  clear hm
  rintro e w11 ⟨rfl, hk⟩
  have hkk : Same w10 w11 := hk
  have hzw11 := hkk.size
  have HA0w11 := hid (HA0w10.out.same hkk)
  have HWw11 := hid (HWw10.out.same hkk)
  have HZw11 := hid (HZw10.out.same hkk)
  have HYw11 := hid (HYw10.out.same hkk)
  have HUw11 := hid (HUw10.out.same hkk)
  have HKw11 := (show Hid (Same w w11) from HKw10.out.trans hkk)
  clear hkk hk
  clear A01 A02 lA0
  clear cZ_0 cZ_1 cZ_2 cZ_3 cZ_4 lZ cY_0 cY_1 cY_2 cY_3 cY_4 lY
  obtain ⟨A01, A02⟩ := HA0w11.out
  have lA0 := HA0w11.out.lt
  have cZ_0 := HZw11.out.c0
  have cZ_1 := HZw11.out.c1
  have cZ_2 := HZw11.out.c2
  have cZ_3 := HZw11.out.c3
  have cZ_4 := HZw11.out.c4
  have lZ := HZw11.out.lt
  have cY_0 := HYw11.out.c0
  have cY_1 := HYw11.out.c1
  have cY_2 := HYw11.out.c2
  have cY_3 := HYw11.out.c3
  have cY_4 := HYw11.out.c4
  have lY := HYw11.out.lt
  go_wp2_with fail
  refine (toDisk_any _ _ dur0 ps0 _ (by omega) (by omega) (fun p hp => Nat.le_trans (HS0.out p hp) (by omega)) (HV0.out.same HKw11.out)).mono ?_
  rintro e w12 ⟨gJ0, gJ0', qsJ0, rfl, hq, hf, ho, hk⟩
  have HQJ0 : Hid (dataP qsJ0 = dataP ps0) := hq
  have HFJ0 := (show Hid (∀ b, footD (.slice (some ⟨gJ0, 0, none⟩) dur0.length dur0.length) (.slice (some ⟨gJ0', 0, none⟩) ps0.length ps0.length) qsJ0 b → w11.heap.size ≤ b ∧ b < w12.heap.size) from fun b hb => ⟨hf b hb, (ho.lt b hb).2⟩)
  have HJ0w12 := (show Hid (OwnD 0 40 5 w12 (.slice (some ⟨gJ0, 0, none⟩) dur0.length dur0.length) (.slice (some ⟨gJ0', 0, none⟩) ps0.length ps0.length) dur0 qsJ0) from ho)
  clear hf ho hq
  have hkk : Same w11 w12 := hk
  have hzw12 := hkk.size
  have HA0w12 := hid (HA0w11.out.same hkk)
  have HWw12 := hid (HWw11.out.same hkk)
  have HZw12 := hid (HZw11.out.same hkk)
  have HYw12 := hid (HYw11.out.same hkk)
  have HUw12 := hid (HUw11.out.same hkk)
  have HKw12 := (show Hid (Same w w12) from HKw11.out.trans hkk)
  clear hkk hk
  clear A01 A02 lA0
  clear cZ_0 cZ_1 cZ_2 cZ_3 cZ_4 lZ cY_0 cY_1 cY_2 cY_3 cY_4 lY
  obtain ⟨A01, A02⟩ := HA0w12.out
  have lA0 := HA0w12.out.lt
  have cZ_0 := HZw12.out.c0
  have cZ_1 := HZw12.out.c1
  have cZ_2 := HZw12.out.c2
  have cZ_3 := HZw12.out.c3
  have cZ_4 := HZw12.out.c4
  have lZ := HZw12.out.lt
  have cY_0 := HYw12.out.c0
  have cY_1 := HYw12.out.c1
  have cY_2 := HYw12.out.c2
  have cY_3 := HYw12.out.c3
  have cY_4 := HYw12.out.c4
  have lY := HYw12.out.lt
  go_wp2_with fail
  refine (implLoad_any _ _ dur0 qsJ0 s1 s2 s3 _ (by omega) (HT0.out qsJ0 HQJ0.out).1 (HT0.out qsJ0 HQJ0.out).2 (HJ0w12.out.rd)).mono ?_
  rintro e w13 ⟨⟨Lsectors, Lepoch, Lstop, Lflushed, ⟨Ltail_e, Ltail_a, Ltail_c, Ltail_b⟩⟩, rfl, hd, hf, ho, hk⟩
  rw [HQJ0.out] at hd
  have hnL : StLog.size ⟨Lsectors, Lepoch, Lstop, Lflushed, ⟨Ltail_e, Ltail_a, Ltail_c, Ltail_b⟩⟩ ≤ 1099511627776 := loadD_small hd
  have hnL0 := StLog.size_le ⟨Lsectors, Lepoch, Lstop, Lflushed, ⟨Ltail_e, Ltail_a, Ltail_c, Ltail_b⟩⟩
  have HDL := (show Hid (StLog.dat ⟨Lsectors, Lepoch, Lstop, Lflushed, ⟨Ltail_e, Ltail_a, Ltail_c, Ltail_b⟩⟩ = loadD dur0 (dataP ps0) s1 s2 s3) from hd)
  dsimp only [StLog.val, BS.v]
  have HFL := (show Hid (∀ b, FootL (StLog.rows ⟨Lsectors, Lepoch, Lstop, Lflushed, ⟨Ltail_e, Ltail_a, Ltail_c, Ltail_b⟩⟩) b → w12.heap.size ≤ b ∧ b < w13.heap.size) from fun b hb => ⟨hf b hb, ho.lt b hb⟩)
  have HLw13 := (show Hid (OwnL w13 (StLog.rows ⟨Lsectors, Lepoch, Lstop, Lflushed, ⟨Ltail_e, Ltail_a, Ltail_c, Ltail_b⟩⟩)) from ho)
  clear hd hf ho
  have hkk : Same w12 w13 := hk
  have hzw13 := hkk.size
  have HA0w13 := hid (HA0w12.out.same hkk)
  have HWw13 := hid (HWw12.out.same hkk)
  have HZw13 := hid (HZw12.out.same hkk)
  have HYw13 := hid (HYw12.out.same hkk)
  have HUw13 := hid (HUw12.out.same hkk)
  have HJ0w13 := hid (HJ0w12.out.same hkk)
  have HKw13 := (show Hid (Same w w13) from HKw12.out.trans hkk)
  clear hkk hk
  clear A01 A02 lA0
  clear cZ_0 cZ_1 cZ_2 cZ_3 cZ_4 lZ cY_0 cY_1 cY_2 cY_3 cY_4 lY
  obtain ⟨A01, A02⟩ := HA0w13.out
  have lA0 := HA0w13.out.lt
  have cZ_0 := HZw13.out.c0
  have cZ_1 := HZw13.out.c1
  have cZ_2 := HZw13.out.c2
  have cZ_3 := HZw13.out.c3
  have cZ_4 := HZw13.out.c4
  have lZ := HZw13.out.lt
  have cY_0 := HYw13.out.c0
  have cY_1 := HYw13.out.c1
  have cY_2 := HYw13.out.c2
  have cY_3 := HYw13.out.c3
  have cY_4 := HYw13.out.c4
  have lY := HYw13.out.lt
  go_wp2_with fail
  refine (eqLog_own ⟨Lsectors, Lepoch, Lstop, Lflushed, ⟨Ltail_e, Ltail_a, Ltail_c, Ltail_b⟩⟩ ⟨Wsectors, Wepoch, Wstop, Wflushed, ⟨Wtail_e, Wtail_a, Wtail_c, Wtail_b⟩⟩ _ (by omega) (HDL.out.trans HDW.out.symm) (HLw13.out.same ((Kept.refl _ _).alloc _)) (HWw13.out.same ((Kept.refl _ _).alloc _))).mono ?_
  rintro e w14 ⟨rfl, hk⟩
  have hkk : Same w13 w14 := ((Kept.refl _ _).alloc _).trans hk
  have hzw14 := hk.size
  rw [World.size_alloc] at hzw14
  have HA0w14 := hid (HA0w13.out.same hkk)
  have HWw14 := hid (HWw13.out.same hkk)
  have HZw14 := hid (HZw13.out.same hkk)
  have HYw14 := hid (HYw13.out.same hkk)
  have HUw14 := hid (HUw13.out.same hkk)
  have HLw14 := hid (HLw13.out.same hkk)
  have HVw14 := (show Hid (Blk w14 (w13.heap.size) 66 [.int .i64 Lsectors, .int .i64 Lepoch, .int .i64 Lstop, .int .i64 Lflushed, .slice Ltail_a Ltail_b.length Ltail_c]) from (Blk.new w13 #[.int .i64 Lsectors, .int .i64 Lepoch, .int .i64 Lstop, .int .i64 Lflushed, .slice Ltail_a Ltail_b.length Ltail_c] 66).same hk)
  have HKw14 := (show Hid (Same w w14) from HKw13.out.trans hkk)
  clear hkk hk
  clear A01 A02 lA0
  clear cZ_0 cZ_1 cZ_2 cZ_3 cZ_4 lZ cY_0 cY_1 cY_2 cY_3 cY_4 lY
  obtain ⟨A01, A02⟩ := HA0w14.out
  have lA0 := HA0w14.out.lt
  have cY_0 := HYw14.out.c0
  have cY_1 := HYw14.out.c1
  have cY_2 := HYw14.out.c2
  have cY_3 := HYw14.out.c3
  have cY_4 := HYw14.out.c4
  have lY := HYw14.out.lt
  go_wp2_with fail
  have hm := heldLog_own ⟨Gsectors, Gepoch, Gstop, Gflushed, ⟨Gtail_e, Gtail_a, Gtail_c, Gtail_b⟩⟩ 1 w14 (by omega) (by rw [HM.out]; omega) HUw14.out
  rw [HM.out] at hm
  dsimp only [StLog.val, BS.v] at hm
  refine hm.mono ?_
  clear hm
  rintro e w15 ⟨rfl, hk⟩
  have hkk : Same w14 w15 := hk
  have hzw15 := hkk.size
  have HA0w15 := hid (HA0w14.out.same hkk)
  have HYw15 := hid (HYw14.out.same hkk)
  have HUw15 := hid (HUw14.out.same hkk)
  have HKw15 := (show Hid (Same w w15) from HKw14.out.trans hkk)
  clear hkk hk
  clear A01 A02 lA0
  clear cY_0 cY_1 cY_2 cY_3 cY_4 lY
  go_wp2
  go_ret
  exact ⟨rfl, HKw15.out⟩
end Go.Proofs.Ytfhdkbibcndmjaa

namespace Go.Proofs.Ytfhdkbibcndmjaa.fnExactLogLoad
open Go.ChangeShapes Go.WideShapes Go.ChangeAt Go.RowKit
set_option linter.unusedVariables false
theorem own : ownKnob Try.prog.godebug = none := by kernel_rfl
theorem laidOut : laidOutB Try.prog = true := by kernel_rfl
set_option maxRecDepth 100000 in
theorem lifted (os : Os) (started : os.Started) (H : Type) (enc : TypeId × Value → H) :
    ReturnsInHanded {} Try.checked os 7 .any (Rows.fnExactLogLoadSpec.pre6 enc Try.prog Try.f7 Rows.fnExactLogLoadRow.domain false) (Rows.fnExactLogLoadSpec.post enc Try.prog Try.f7 false true false false) := by
  refine returnsInHanded_of_change (C := Try.checked) own started (by kernel_rfl) Try.func7
    (ChangeSpec.witness6 (enc := enc) (C := Try.checked) false ⟨#[], #[.agg #[.slice none 0 0, .slice none 0 0], .int .i64 0, .int .i64 0, .int .i64 0], []⟩ 8 (by kernel_rfl) (by kernel_rfl) (by kernel_rfl) (by kernel_rfl)) ?_
  intro W base args ds gs before hval0 hW hcnd _
  have hval : ∀ (j : Nat) t v, Try.f7.params[j]? = some t → args[j]? = some v → Value.okWide Try.prog W .any base t v := hval0
  have hW' := hW
  obtain ⟨p, q, hA0, hV, rfl, hfz, hnd⟩ := hW
  have hA : DataW.TrodAll enc Try.prog W 0 (fun _ => true) true Try.f7.params.toList args.toList ds p := hA0
  rw [Try.params7] at hA hval
  obtain ⟨v0, vs0, d0, ds0, p0, q0, hargs, rfl, rfl, h0, r0⟩ := trodAll_cons hA
  obtain ⟨v1, vs1, d1, ds1, p1, q1, rfl, rfl, rfl, h1, r1⟩ := trodAll_cons r0
  obtain ⟨v2, vs2, d2, ds2, p2, q2, rfl, rfl, rfl, h2, r2⟩ := trodAll_cons r1
  obtain ⟨v3, vs3, d3, ds3, p3, q3, rfl, rfl, rfl, h3, r3⟩ := trodAll_cons r2
  obtain ⟨rfl, rfl, rfl⟩ := trodAll_nil r3
  obtain rfl : args = #[v0, v1, v2, v3] := by cases args; simp_all
  obtain ⟨rfl, rfl⟩ := trodVars_none hV
  have k0 := h0
  have lt0 : ∀ x ∈ p0, x.block < W.heap.size := by obtain ⟨m, hm⟩ := k0; exact DataW.trod_lt m _ _ _ hm
  obtain ⟨dv0, pv0, dur0, ps0, rfl, rd0⟩ := open_disk (hval 0 45 v0 rfl rfl) h0
  obtain ⟨a1, rfl, rfl, rfl, w1⟩ := open_int Try.underlying2 (hval 1 2 v1 rfl rfl) h1
  obtain ⟨a2, rfl, rfl, rfl, w2⟩ := open_int Try.underlying2 (hval 2 2 v2 rfl rfl) h2
  obtain ⟨a3, rfl, rfl, rfl, w3⟩ := open_int Try.underlying2 (hval 3 2 v3 rfl rfl) h3
  clear hA0 hval0
  refine (logLoad_law dv0 pv0 dur0 ps0 a1 a2 a3 W rd0).mono fun e W' ⟨he, hk⟩ => ?_
  have bel : Below W.heap.size W W' := hk.below (Nat.le_refl _) (fun _ _ => id)
  subst he
  exact ⟨_, rfl, _, _, _, [], _, [], hW', trodAll_mk1 (shut_bool Try.underlying4 _), (trodAll_cons_mk (Below.trod laidOut (by kernel_rfl) (of_decide_eq_true (by kernel_rfl)) k0 bel lt0) (trodAll_cons_mk (shut_int Try.underlying2 w1) (trodAll_cons_mk (shut_int Try.underlying2 w2) (trodAll_cons_mk (shut_int Try.underlying2 w3) trodAll_mk0)))), rfl, bel.frame _, fun h => by cases h⟩
theorem over : Rows.fnExactLogLoadRow.holds Try.pinned (OpenSpec.ofChange Rows.fnExactLogLoadSpec) :=
  OpenClaim.holds_of_wide 7 Try.f7 rfl rfl rfl rfl rfl rfl rfl ⟨rfl, rfl, rfl, rfl, rfl⟩ rfl rfl rfl rfl rfl (by kernel_rfl) Try.func7 (by kernel_rfl)
    (of_decide_eq_true (by kernel_rfl)) (by unfold Func.isWrapper; first | (rw [if_pos (by decide +kernel)]; kernel_rfl) | (rw [if_neg (by decide +kernel)]; exact ⟨rfl, rfl⟩))
    (fun os started H enc _ => lifted os started H enc)
end Go.Proofs.Ytfhdkbibcndmjaa.fnExactLogLoad
namespace Go.Proofs.Ytfhdkbibcndmjaa
theorem logLoad_proved : Rows.FnExactLogLoadSaid := fnExactLogLoad.over
#print axioms logLoad_proved
end Go.Proofs.Ytfhdkbibcndmjaa
