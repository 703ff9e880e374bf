/-
  LogLoad of both sides (by tools/gen/logload2.py).
-/
import Derived.Test.YtclmdpmelifplaaLogLoadA
namespace Go.Proofs.Ytclmdpmelifplaa
open Go.RowKit
set_option linter.unusedVariables false
set_option linter.unusedSimpArgs false

theorem said_true {f : FuncId} {args : Array Value} {w : World} {P : Prop} (hP : P) (h : Calls Try.prog f args w fun e w' => Says e P ∧ Same w w') : Calls Try.prog f args w fun e w' => e = .returned (.bool true) ∧ Same w w' :=
  h.mono fun e w' ⟨⟨B, he, hB⟩, hk⟩ => ⟨by rw [he, hB.2 hP], hk⟩
theorem said_false {f : FuncId} {args : Array Value} {w : World} {P : Prop} (hP : ¬ P) (h : Calls Try.prog f args w fun e w' => Says e P ∧ Same w w') : Calls Try.prog f args w fun e w' => e = .returned (.bool false) ∧ Same w w' :=
  h.mono fun e w' ⟨⟨B, he, hB⟩, hk⟩ => ⟨by rw [he]; cases B with | false => rfl | true => exact absurd (hB.1 rfl) hP, hk⟩
theorem own_form512 {e : TypeId} {w : World} {a : Option Addr} {n c : Nat} {bs : List Int} (h : Own 0 e .u8 w (.slice a n c) bs) (hl : bs.length = 512) : ∃ g, a = some ⟨g, 0, none⟩ ∧ n = 512 ∧ 512 ≤ c := by
  rcases h.form with ⟨h1, rfl⟩ | ⟨g, cap, h1, _, _, h2, _⟩
  · simp at hl
  · injection h1 with e1 e2 e3
    exact ⟨g, e1, by omega, by omega⟩
set_option maxRecDepth 100000 in
set_option maxHeartbeats 4000000 in
theorem specLoad_any (dv pv : Value) (dur : List Int) (ps : List PW) (s st ep : Int) (w : World) (hd : dur.length ≤ 1099511627776) (hn : ps.length ≤ 1073741824) (hs : ∀ p ∈ ps, p.bs.length ≤ 1099511627776) (hv : RdD w dv pv dur ps) :
    Calls Try.prog 25 #[.agg #[dv, pv], .int .i64 s, .int .i64 st, .int .i64 ep] w fun e w' => ∃ y : StLog, e = .returned y.val ∧ y.dat = loadD dur (dataP ps) s st ep ∧ (∀ b, FootL y.rows b → w.heap.size ≤ b) ∧ OwnL w' y.rows ∧ Same w w' := by
  obtain ⟨a1, c1, rfl⟩ := hv.dur.form
  obtain ⟨a2, c2, rfl⟩ := hv.pend.form
  have HV := (show Hid (RdD w (.slice a1 dur.length c1) (.slice a2 ps.length c2) dur ps) from hv)
  have HS := (show Hid (∀ p ∈ ps, p.bs.length ≤ 1099511627776) from hs)
  clear hv hs hn
  dsimp only [StLog.val, BS.v]
  have b0 : Blk ((w.alloc (.cells #[.slice a1 dur.length c1, .slice a2 ps.length c2] 46)).alloc (.cells #[.int .i64 0, .int .i64 0, .int .i64 0, .int .i64 0, .slice none 0 0] 29)) w.heap.size 46 [.slice a1 dur.length c1, .slice a2 ps.length c2] := (Blk.new w #[.slice a1 dur.length c1, .slice a2 ps.length c2] 46).same ((Kept.refl _ _).alloc _)
  have z0 : Blk ((w.alloc (.cells #[.slice a1 dur.length c1, .slice a2 ps.length c2] 46)).alloc (.cells #[.int .i64 0, .int .i64 0, .int .i64 0, .int .i64 0, .slice none 0 0] 29)) (w.heap.size + 1) 29 [.int .i64 0, .int .i64 0, .int .i64 0, .int .i64 0, .slice none 0 0] := by have h := Blk.new (w.alloc (.cells #[.slice a1 dur.length c1, .slice a2 ps.length c2] 46)) #[.int .i64 0, .int .i64 0, .int .i64 0, .int .i64 0, .slice none 0 0] 29; rwa [World.size_alloc] at h
  have hk0 : Same w ((w.alloc (.cells #[.slice a1 dur.length c1, .slice a2 ps.length c2] 46)).alloc (.cells #[.int .i64 0, .int .i64 0, .int .i64 0, .int .i64 0, .slice none 0 0] 29)) := ((Kept.refl _ _).alloc _).alloc _
  have HK0 := (show Hid (Same w ((w.alloc (.cells #[.slice a1 dur.length c1, .slice a2 ps.length c2] 46)).alloc (.cells #[.int .i64 0, .int .i64 0, .int .i64 0, .int .i64 0, .slice none 0 0] 29))) from hk0)
  clear hk0
  have hP := fun wx => specPlace_any s st wx
  have hE := fun wx => l4In_any ep 1 4294967295 wx
  by_cases hp : (16 ≤ s ∧ s ≤ 800) ∧ (512 ≤ st ∧ st ≤ 1099511627776)
  · obtain ⟨pl, hpl⟩ : ∃ pl, logPlace s st = pl := ⟨_, rfl⟩
    have hpb := logPlace_bound hp
    rw [hpl] at hP hpb
    obtain ⟨hpb1, hpb2⟩ := hpb
    have hp0 : ¬ pl < 0 := by omega
    by_cases he : 1 ≤ ep ∧ ep ≤ 4294967295
    · rw [inB_true he] at hE
      by_cases hr : Room dur.length (dataP ps) s
      · have hR := fun wx (hk : Same w wx) => said_true hr (l5Room_any _ _ dur ps s wx (by omega) (HV.out.same hk))
        rw [loadD_yes ⟨hp, he, hr⟩, hpl]
        have hplt : pl < (dur.length / 512 : Nat) := by have := hr.2; omega
        have hsl := seeD_length hr.1 (by omega) hplt
        have h512 : (pl.toNat + 1) * 512 ≤ dur.length := by omega
        have hsm : pl ≤ 1048576 := by omega
        obtain ⟨m, hm⟩ : ∃ m : Nat, st % 512 = m := ⟨(st % 512).toNat, by omega⟩
        rw [hm, Int.toNat_natCast]
        have hm5 : m < 512 := by omega
        have hst0 : 0 ≤ st := by omega
        have hst1 : st ≤ 1099511627776 := by omega
        obtain ⟨sec, hsec⟩ : ∃ sec, seeD pl dur (dataP ps) = sec := ⟨_, rfl⟩
        rw [hsec] at hsl ⊢
        have HSec := (show Hid (seeD pl dur (dataP ps) = sec) from hsec)
        have hlen : (sec.take m).length ≤ 1099511627776 := by simp; omega
        clear hr hp he hplt hsec
        go_enter Try.func25, Try.ntmps25
        go_wp2_with (first
          | (go_at_call 8; refine (hP _).mono ?_; rintro e w1 ⟨rfl, hk⟩; have b1 := b0.same hk; have z1 := z0.same hk; have HK1 := (show Hid (Same w w1) from HK0.out.trans hk); clear hk; have c1_0 : w1.cell? ⟨w.heap.size, 0, none⟩ = some (.slice a1 dur.length c1) := b1.cell 0; have c1_1 : w1.cell? ⟨w.heap.size, 1, none⟩ = some (.slice a2 ps.length c2) := b1.cell 1; have y1_0 : w1.cell? ⟨w.heap.size + 1, 0, none⟩ = some (.int .i64 0) := z1.cell 0; have y1_1 : w1.cell? ⟨w.heap.size + 1, 1, none⟩ = some (.int .i64 0) := z1.cell 1; have y1_2 : w1.cell? ⟨w.heap.size + 1, 2, none⟩ = some (.int .i64 0) := z1.cell 2; have y1_3 : w1.cell? ⟨w.heap.size + 1, 3, none⟩ = some (.int .i64 0) := z1.cell 3; have y1_4 : w1.cell? ⟨w.heap.size + 1, 4, none⟩ = some (.slice none 0 0) := z1.cell 4; have f1 := z1.frozen)
          | (go_at_call 30; refine (hE _).mono ?_; rintro e w2 ⟨rfl, hk⟩; have b2 := b1.same hk; have z2 := z1.same hk; have HK2 := (show Hid (Same w w2) from HK1.out.trans hk); clear hk; have c2_0 : w2.cell? ⟨w.heap.size, 0, none⟩ = some (.slice a1 dur.length c1) := b2.cell 0; have c2_1 : w2.cell? ⟨w.heap.size, 1, none⟩ = some (.slice a2 ps.length c2) := b2.cell 1; have y2_0 : w2.cell? ⟨w.heap.size + 1, 0, none⟩ = some (.int .i64 0) := z2.cell 0; have y2_1 : w2.cell? ⟨w.heap.size + 1, 1, none⟩ = some (.int .i64 0) := z2.cell 1; have y2_2 : w2.cell? ⟨w.heap.size + 1, 2, none⟩ = some (.int .i64 0) := z2.cell 2; have y2_3 : w2.cell? ⟨w.heap.size + 1, 3, none⟩ = some (.int .i64 0) := z2.cell 3; have y2_4 : w2.cell? ⟨w.heap.size + 1, 4, none⟩ = some (.slice none 0 0) := z2.cell 4; have f2 := z2.frozen)
          | (go_at_call 43; refine (hR _ HK2.out).mono ?_; rintro e w3 ⟨rfl, hk⟩; have b3 := b2.same hk; have z3 := z2.same hk; have HK3 := (show Hid (Same w w3) from HK2.out.trans hk); clear hk; have c3_0 : w3.cell? ⟨w.heap.size, 0, none⟩ = some (.slice a1 dur.length c1) := b3.cell 0; have c3_1 : w3.cell? ⟨w.heap.size, 1, none⟩ = some (.slice a2 ps.length c2) := b3.cell 1; have y3_0 : w3.cell? ⟨w.heap.size + 1, 0, none⟩ = some (.int .i64 0) := z3.cell 0; have y3_1 : w3.cell? ⟨w.heap.size + 1, 1, none⟩ = some (.int .i64 0) := z3.cell 1; have y3_2 : w3.cell? ⟨w.heap.size + 1, 2, none⟩ = some (.int .i64 0) := z3.cell 2; have y3_3 : w3.cell? ⟨w.heap.size + 1, 3, none⟩ = some (.int .i64 0) := z3.cell 3; have y3_4 : w3.cell? ⟨w.heap.size + 1, 4, none⟩ = some (.slice none 0 0) := z3.cell 4; have f3 := z3.frozen))
        have hS : ((fun wx : World => wx.cell? ⟨w.heap.size, 0, none⟩ = some (.slice a1 dur.length c1) ∧ wx.cell? ⟨w.heap.size, 1, none⟩ = some (.slice a2 ps.length c2))) w3.drew := by exact ⟨c3_0, c3_1⟩
        refine wp_region_V ((fun wx : World => wx.cell? ⟨w.heap.size, 0, none⟩ = some (.slice a1 dur.length c1) ∧ wx.cell? ⟨w.heap.size, 1, none⟩ = some (.slice a2 ps.length c2))) 99 6 rfl (by kernel_rfl) ?_
        refine wpAnyV_take (i := 0) (v := ?vq1) (some 26) rfl rfl (by kernel_rfl) (by kernel_rfl) (by kernel_rfl) (by kernel_rfl) (fun _ _ _ h => h) (Or.inl ⟨by rfl, ?hyq1⟩) hS ?_
        case hyq1 => (intro w hSw; (try dsimp only at hSw); go_simp; (try with_reducible rfl))
        try simp only [Act.put, List.setIfInBounds_toArray, List.set_cons_zero, List.set_cons_succ]
        refine wpAnyV_take (i := 1) (v := ?vq2) (some 27) rfl rfl (by kernel_rfl) (by kernel_rfl) (by kernel_rfl) (by kernel_rfl) (fun _ _ _ h => h) (Or.inl ⟨by rfl, ?hyq2⟩) hS ?_
        case hyq2 => (intro w hSw; (try dsimp only at hSw); go_simp; (try with_reducible rfl))
        try simp only [Act.put, List.setIfInBounds_toArray, List.set_cons_zero, List.set_cons_succ]
        refine wpAnyV_take (i := 2) (v := ?vq3) (some 28) rfl rfl (by kernel_rfl) (by kernel_rfl) (by kernel_rfl) (by kernel_rfl) (fun _ _ _ h => h) (Or.inl ⟨by rfl, ?hyq3⟩) hS ?_
        case hyq3 => (intro w hSw; (try dsimp only at hSw); go_simp; (try with_reducible rfl))
        try simp only [Act.put, List.setIfInBounds_toArray, List.set_cons_zero, List.set_cons_succ]
        refine wpAnyV_one (i := 3) (by kernel_rfl) rfl (fun K hK => ?_)
        go_simp
        refine (hP _).mono ?_
        rintro e w4 ⟨rfl, hk⟩
        have b4 := b3.same ((Kept.refl _ _).drew.trans hk)
        have z4 := z3.same ((Kept.refl _ _).drew.trans hk)
        have HK4 := (show Hid (Same w w4) from HK3.out.drew.trans hk)
        clear hk
        have hS : ((fun wx : World => wx.cell? ⟨w.heap.size, 0, none⟩ = some (.slice a1 dur.length c1) ∧ wx.cell? ⟨w.heap.size, 1, none⟩ = some (.slice a2 ps.length c2))) w4 := by exact ⟨b4.cell 0, b4.cell 1⟩
        refine hK.out _ _ (fun _ => hS) ?_
        clear hK K
        try simp only [Act.put, List.setIfInBounds_toArray, List.set_cons_zero, List.set_cons_succ]
        refine wpAnyV_one (i := 4) (by kernel_rfl) rfl (fun K hK => ?_)
        go_simp
        refine (l1See_any _ _ dur ps pl _ (by omega) hsm h512 hd HS.out (HV.out.same HK4.out)).mono ?_
        rintro e w5 ⟨a5, n5, c5, rfl, hown, hfr, hk⟩
        rw [HSec.out] at hown
        obtain ⟨g5, rfl, rfl, hc5⟩ := own_form512 hown hsl
        have b5 := b4.same hk
        have z5 := z4.same hk
        have HK5 := (show Hid (Same w w5) from HK4.out.trans hk)
        have HO5 := (show Hid (Own 0 5 .u8 w5 (.slice (some ⟨g5, 0, none⟩) m c5) (sec.take m)) from hown.take m (by omega))
        have hmc : (m : Int) ≤ (c5 : Int) := by omega
        clear hk hown hfr
        have hS : ((fun wx : World => wx.cell? ⟨w.heap.size, 0, none⟩ = some (.slice a1 dur.length c1) ∧ wx.cell? ⟨w.heap.size, 1, none⟩ = some (.slice a2 ps.length c2))) w5 := by exact ⟨b5.cell 0, b5.cell 1⟩
        refine hK.out _ _ (fun _ => hS) ?_
        clear hK K
        try simp only [Act.put, List.setIfInBounds_toArray, List.set_cons_zero, List.set_cons_succ]
        refine wpAnyV_take (i := 5) (v := ?vq4) (some 9) rfl rfl (by kernel_rfl) (by kernel_rfl) (by kernel_rfl) (by kernel_rfl) (fun _ _ _ h => h) (Or.inl ⟨by rfl, ?hyq4⟩) hS ?_
        case hyq4 => (intro w hSw; (try dsimp only at hSw); go_simp; (try with_reducible rfl))
        try simp only [Act.put, List.setIfInBounds_toArray, List.set_cons_zero, List.set_cons_succ]
        refine wpAnyV_done (by kernel_rfl) ?_
        have hm0 : (0 : Int) ≤ (m : Int) := by omega
        go_wp2_with (go_at_call 36; refine (l1Copy_any _ _ _ hlen HO5.out.rd).mono ?_; rintro e w6 ⟨a6, n6, c6, rfl, hown, hfr, hk⟩; have z6 := z5.same hk; have y6_0 : w6.cell? ⟨w.heap.size + 1, 0, none⟩ = some (.int .i64 0) := z6.cell 0; have y6_1 : w6.cell? ⟨w.heap.size + 1, 1, none⟩ = some (.int .i64 0) := z6.cell 1; have y6_2 : w6.cell? ⟨w.heap.size + 1, 2, none⟩ = some (.int .i64 0) := z6.cell 2; have y6_3 : w6.cell? ⟨w.heap.size + 1, 3, none⟩ = some (.int .i64 0) := z6.cell 3; have y6_4 : w6.cell? ⟨w.heap.size + 1, 4, none⟩ = some (.slice none 0 0) := z6.cell 4; have f6 := z6.frozen)
        obtain rfl : n6 = (sec.take m).length := by obtain ⟨_, _, he⟩ := hown.rd.form; injection he
        have hz5 := z5.lt
        refine bodyPost_ret (v := .agg #[.int .i64 s, .int .i64 ep, .int .i64 st, .int .i64 st, .slice a6 (sec.take m).length c6]) (by simp [results, Try.results25, go_sem, y6_0, y6_1, y6_2, y6_3, y6_4]) rfl ⟨⟨s, ep, st, st, ⟨5, a6, c6, sec.take m⟩⟩, rfl, (by first | rfl | exact ⟨rfl, rfl, rfl, rfl, rfl⟩), fun b hb => ?_, OwnL.one (Own.kept hown (R := fun b => b = w.heap.size + 1) ?_ (fun b hb e => ?_)), ?_⟩
        · have := hfr b ((footL_ints _ _ _ _ _).1 hb); omega
        · (iterate 5 refine Kept.setCell ?_ (.inr (by simp)) _); exact Kept.refl _ _
        · have := hfr b hb; omega
        · (iterate 5 refine Kept.setCell ?_ (.inl (by first | exact Nat.le_refl _ | exact Nat.le_succ _)) _); exact HK5.out.trans hk
      · have hR := fun wx (hk : Same w wx) => said_false hr (l5Room_any _ _ dur ps s wx (by omega) (HV.out.same hk))
        rw [loadD_no (fun h => hr h.2.2)]
        clear hr hp he
        go_enter Try.func25, Try.ntmps25
        go_wp2_with (first
          | (go_at_call 8; refine (hP _).mono ?_; rintro e w1 ⟨rfl, hk⟩; have b1 := b0.same hk; have z1 := z0.same hk; have HK1 := (show Hid (Same w w1) from HK0.out.trans hk); clear hk; have c1_0 : w1.cell? ⟨w.heap.size, 0, none⟩ = some (.slice a1 dur.length c1) := b1.cell 0; have c1_1 : w1.cell? ⟨w.heap.size, 1, none⟩ = some (.slice a2 ps.length c2) := b1.cell 1; have y1_0 : w1.cell? ⟨w.heap.size + 1, 0, none⟩ = some (.int .i64 0) := z1.cell 0; have y1_1 : w1.cell? ⟨w.heap.size + 1, 1, none⟩ = some (.int .i64 0) := z1.cell 1; have y1_2 : w1.cell? ⟨w.heap.size + 1, 2, none⟩ = some (.int .i64 0) := z1.cell 2; have y1_3 : w1.cell? ⟨w.heap.size + 1, 3, none⟩ = some (.int .i64 0) := z1.cell 3; have y1_4 : w1.cell? ⟨w.heap.size + 1, 4, none⟩ = some (.slice none 0 0) := z1.cell 4; have f1 := z1.frozen)
          | (go_at_call 30; refine (hE _).mono ?_; rintro e w2 ⟨rfl, hk⟩; have b2 := b1.same hk; have z2 := z1.same hk; have HK2 := (show Hid (Same w w2) from HK1.out.trans hk); clear hk; have c2_0 : w2.cell? ⟨w.heap.size, 0, none⟩ = some (.slice a1 dur.length c1) := b2.cell 0; have c2_1 : w2.cell? ⟨w.heap.size, 1, none⟩ = some (.slice a2 ps.length c2) := b2.cell 1; have y2_0 : w2.cell? ⟨w.heap.size + 1, 0, none⟩ = some (.int .i64 0) := z2.cell 0; have y2_1 : w2.cell? ⟨w.heap.size + 1, 1, none⟩ = some (.int .i64 0) := z2.cell 1; have y2_2 : w2.cell? ⟨w.heap.size + 1, 2, none⟩ = some (.int .i64 0) := z2.cell 2; have y2_3 : w2.cell? ⟨w.heap.size + 1, 3, none⟩ = some (.int .i64 0) := z2.cell 3; have y2_4 : w2.cell? ⟨w.heap.size + 1, 4, none⟩ = some (.slice none 0 0) := z2.cell 4; have f2 := z2.frozen)
          | (go_at_call 43; refine (hR _ HK2.out).mono ?_; rintro e w3 ⟨rfl, hk⟩; have b3 := b2.same hk; have z3 := z2.same hk; have HK3 := (show Hid (Same w w3) from HK2.out.trans hk); clear hk; have c3_0 : w3.cell? ⟨w.heap.size, 0, none⟩ = some (.slice a1 dur.length c1) := b3.cell 0; have c3_1 : w3.cell? ⟨w.heap.size, 1, none⟩ = some (.slice a2 ps.length c2) := b3.cell 1; have y3_0 : w3.cell? ⟨w.heap.size + 1, 0, none⟩ = some (.int .i64 0) := z3.cell 0; have y3_1 : w3.cell? ⟨w.heap.size + 1, 1, none⟩ = some (.int .i64 0) := z3.cell 1; have y3_2 : w3.cell? ⟨w.heap.size + 1, 2, none⟩ = some (.int .i64 0) := z3.cell 2; have y3_3 : w3.cell? ⟨w.heap.size + 1, 3, none⟩ = some (.int .i64 0) := z3.cell 3; have y3_4 : w3.cell? ⟨w.heap.size + 1, 4, none⟩ = some (.slice none 0 0) := z3.cell 4; have f3 := z3.frozen))
        refine bodyPost_ret (v := .agg #[.int .i64 0, .int .i64 0, .int .i64 0, .int .i64 0, .slice none 0 0]) (by simp [results, Try.results25, go_sem, y3_0, y3_1, y3_2, y3_3, y3_4]) rfl ⟨⟨0, 0, 0, 0, ⟨0, none, 0, []⟩⟩, rfl, rfl, fun b hb => absurd hb (zeroLog_foot b), zeroLog_own _, ?_⟩
        (iterate 5 refine Kept.setCell ?_ (.inl (by first | exact Nat.le_refl _ | exact Nat.le_succ _)) _); exact HK3.out
    · rw [inB_false he] at hE
      rw [loadD_no (fun h => he h.2.1)]
      clear hp he
      go_enter Try.func25, Try.ntmps25
      go_wp2_with (first
        | (go_at_call 8; refine (hP _).mono ?_; rintro e w1 ⟨rfl, hk⟩; have b1 := b0.same hk; have z1 := z0.same hk; have HK1 := (show Hid (Same w w1) from HK0.out.trans hk); clear hk; have c1_0 : w1.cell? ⟨w.heap.size, 0, none⟩ = some (.slice a1 dur.length c1) := b1.cell 0; have c1_1 : w1.cell? ⟨w.heap.size, 1, none⟩ = some (.slice a2 ps.length c2) := b1.cell 1; have y1_0 : w1.cell? ⟨w.heap.size + 1, 0, none⟩ = some (.int .i64 0) := z1.cell 0; have y1_1 : w1.cell? ⟨w.heap.size + 1, 1, none⟩ = some (.int .i64 0) := z1.cell 1; have y1_2 : w1.cell? ⟨w.heap.size + 1, 2, none⟩ = some (.int .i64 0) := z1.cell 2; have y1_3 : w1.cell? ⟨w.heap.size + 1, 3, none⟩ = some (.int .i64 0) := z1.cell 3; have y1_4 : w1.cell? ⟨w.heap.size + 1, 4, none⟩ = some (.slice none 0 0) := z1.cell 4; have f1 := z1.frozen)
        | (go_at_call 30; refine (hE _).mono ?_; rintro e w2 ⟨rfl, hk⟩; have b2 := b1.same hk; have z2 := z1.same hk; have HK2 := (show Hid (Same w w2) from HK1.out.trans hk); clear hk; have c2_0 : w2.cell? ⟨w.heap.size, 0, none⟩ = some (.slice a1 dur.length c1) := b2.cell 0; have c2_1 : w2.cell? ⟨w.heap.size, 1, none⟩ = some (.slice a2 ps.length c2) := b2.cell 1; have y2_0 : w2.cell? ⟨w.heap.size + 1, 0, none⟩ = some (.int .i64 0) := z2.cell 0; have y2_1 : w2.cell? ⟨w.heap.size + 1, 1, none⟩ = some (.int .i64 0) := z2.cell 1; have y2_2 : w2.cell? ⟨w.heap.size + 1, 2, none⟩ = some (.int .i64 0) := z2.cell 2; have y2_3 : w2.cell? ⟨w.heap.size + 1, 3, none⟩ = some (.int .i64 0) := z2.cell 3; have y2_4 : w2.cell? ⟨w.heap.size + 1, 4, none⟩ = some (.slice none 0 0) := z2.cell 4; have f2 := z2.frozen))
      refine bodyPost_ret (v := .agg #[.int .i64 0, .int .i64 0, .int .i64 0, .int .i64 0, .slice none 0 0]) (by simp [results, Try.results25, go_sem, y2_0, y2_1, y2_2, y2_3, y2_4]) rfl ⟨⟨0, 0, 0, 0, ⟨0, none, 0, []⟩⟩, rfl, rfl, fun b hb => absurd hb (zeroLog_foot b), zeroLog_own _, ?_⟩
      (iterate 5 refine Kept.setCell ?_ (.inl (by first | exact Nat.le_refl _ | exact Nat.le_succ _)) _); exact HK2.out
  · rw [logPlace_no hp] at hP
    rw [loadD_no (fun h => hp h.1)]
    clear hp
    go_enter Try.func25, Try.ntmps25
    go_wp2_with (go_at_call 8; refine (hP _).mono ?_; rintro e w1 ⟨rfl, hk⟩; have b1 := b0.same hk; have z1 := z0.same hk; have HK1 := (show Hid (Same w w1) from HK0.out.trans hk); clear hk; have c1_0 : w1.cell? ⟨w.heap.size, 0, none⟩ = some (.slice a1 dur.length c1) := b1.cell 0; have c1_1 : w1.cell? ⟨w.heap.size, 1, none⟩ = some (.slice a2 ps.length c2) := b1.cell 1; have y1_0 : w1.cell? ⟨w.heap.size + 1, 0, none⟩ = some (.int .i64 0) := z1.cell 0; have y1_1 : w1.cell? ⟨w.heap.size + 1, 1, none⟩ = some (.int .i64 0) := z1.cell 1; have y1_2 : w1.cell? ⟨w.heap.size + 1, 2, none⟩ = some (.int .i64 0) := z1.cell 2; have y1_3 : w1.cell? ⟨w.heap.size + 1, 3, none⟩ = some (.int .i64 0) := z1.cell 3; have y1_4 : w1.cell? ⟨w.heap.size + 1, 4, none⟩ = some (.slice none 0 0) := z1.cell 4; have f1 := z1.frozen)
    refine bodyPost_ret (v := .agg #[.int .i64 0, .int .i64 0, .int .i64 0, .int .i64 0, .slice none 0 0]) (by simp [results, Try.results25, go_sem, y1_0, y1_1, y1_2, y1_3, y1_4]) rfl ⟨⟨0, 0, 0, 0, ⟨0, none, 0, []⟩⟩, rfl, rfl, fun b hb => absurd hb (zeroLog_foot b), zeroLog_own _, ?_⟩
    (iterate 5 refine Kept.setCell ?_ (.inl (by first | exact Nat.le_refl _ | exact Nat.le_succ _)) _); exact HK1.out
end Go.Proofs.Ytclmdpmelifplaa
