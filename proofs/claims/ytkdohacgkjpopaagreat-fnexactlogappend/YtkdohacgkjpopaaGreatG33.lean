import Derived.Test.YtkdohacgkjpopaaGreatG30
import Derived.Test.YtkdohacgkjpopaaGreatG32
import Derived.Test.YtkdohacgkjpopaaGreatG01
import Derived.Test.YtkdohacgkjpopaaGreatTyLogRecord
import Derived.Test.YtkdohacgkjpopaaGreatG29
import Derived.Test.YtkdohacgkjpopaaGreatG21
import Derived.Test.YtkdohacgkjpopaaGreatAppS
import Derived.Deep.MidRow
namespace Go.Proofs.YtkdohacgkjpopaaGreat
set_option maxRecDepth 100000
set_option maxHeartbeats 8000000
set_option linter.unusedVariables false
set_option linter.unusedSimpArgs false
open Go.RowKit
theorem implApp_any (x : StLog) (r : StLogRecord) (w : World) (hBx : x.isB) (hnx : x.szs ≤ 1073741824) (hvx : StLog.rd w x) (hBr : r.isB) (hnr : r.szs ≤ 1073741824) (hvr : StLogRecord.rd w r) : Calls Tryz.prog 9 #[x.val, r.val] w fun e w' => (∃ y : StAppendResult, e = .returned y.val ∧ y.dat = appD x.dat r.dat ∧ (∀ b, FootL y.rows b → w.heap.size ≤ b) ∧ OwnL w' y.rows ∧ Same w w') := by
 have HF := (show Hid (∀ wx, Same w wx → Calls Tryz.prog 30 #[x.val] wx fun e w' => e = .returned (.int .i64 (logFd x.dat)) ∧ Same wx w') from fun wx hk => implLogFault_any x wx hBx hnx (StLog.rd.same hvx hk))
 have HE := (show Hid (∀ lsn ep wx, IsI lsn → IsI ep → Same w wx → Calls Tryz.prog 31 #[.int .i64 lsn, .int .i64 ep, r.val] wx fun e w' => ∃ a c, e = .returned (.slice a (frFd lsn ep r.dat).length c) ∧ (∀ b, (Value.slice a (frFd lsn ep r.dat).length c).ownBlock = some b → wx.heap.size ≤ b) ∧ Own 0 5 .u8 w' (.slice a (frFd lsn ep r.dat).length c) (frFd lsn ep r.dat) ∧ Same wx w') from fun lsn ep wx h1 h2 hk => implFrame_any lsn ep r wx h1 h2 hBr hnr (StLogRecord.rd.same hvr hk))
 obtain ⟨s, ep, st, fl, te, ta, tc, tb⟩ := x
 simp only [StLog.szs] at hnx
 have HT := (show Hid (Rd .u8 w (.slice ta tb.length tc) tb) from hvx)
 have HRB := (show Hid (recFd r.dat = 0 → IsB (recBd r.dat)) from fun h => recBd_isB hBr h)
 clear hBx hvx hBr hnr hvr
 obtain ⟨D, hD⟩ : ∃ D : RecT, r.dat = D := ⟨_, rfl⟩
 rw [hD] at HRB HE ⊢
 clear hD
 obtain ⟨kind, txn, prev, page, slot, ⟨bU, ⟨bDe, bDa, bDc, bDb⟩⟩, ⟨aU, ⟨aDe, aDa, aDc, aDb⟩⟩, uN, nT, ⟨tXe, tXa, tXn, tXc, tXb⟩, ⟨dYe, dYa, dYn, dYc, dYb⟩, ⟨iMe, iMa, iMc, iMb⟩⟩ := r
 dsimp only [StLog.val, StLog.dat, StLogRecord.val, StPageRecord.val, BS.v, FR.v] at *
 have HKW := (show Hid (Same w (((w.alloc (.cells #[.int .i64 s, .int .i64 ep, .int .i64 st, .int .i64 fl, .slice ta tb.length tc] 33)).alloc (.cells #[.int .i64 kind, .int .i64 txn, .int .i64 prev, .int .i64 page, .int .i64 slot, .bool bU, .slice bDa bDb.length bDc, .bool aU, .slice aDa aDb.length aDc, .int .i64 uN, .int .i64 nT, .slice tXa tXn tXc, .slice dYa dYn dYc, .slice iMa iMb.length iMc] 42)).alloc (.cells #[.int .i64 0, .int .i64 0, .int .i64 0, .int .i64 0, .int .i64 0, .int .i64 0, .slice none 0 0] 35))) from (((Kept.refl _ _).alloc _).alloc _).alloc _)
 have HLW := (show Hid (Blk (((w.alloc (.cells #[.int .i64 s, .int .i64 ep, .int .i64 st, .int .i64 fl, .slice ta tb.length tc] 33)).alloc (.cells #[.int .i64 kind, .int .i64 txn, .int .i64 prev, .int .i64 page, .int .i64 slot, .bool bU, .slice bDa bDb.length bDc, .bool aU, .slice aDa aDb.length aDc, .int .i64 uN, .int .i64 nT, .slice tXa tXn tXc, .slice dYa dYn dYc, .slice iMa iMb.length iMc] 42)).alloc (.cells #[.int .i64 0, .int .i64 0, .int .i64 0, .int .i64 0, .int .i64 0, .int .i64 0, .slice none 0 0] 35)) w.heap.size 33 [.int .i64 s, .int .i64 ep, .int .i64 st, .int .i64 fl, .slice ta tb.length tc]) from ((Blk.newL w [.int .i64 s, .int .i64 ep, .int .i64 st, .int .i64 fl, .slice ta tb.length tc] 33).same ((Kept.refl _ _).alloc _)).same ((Kept.refl _ _).alloc _))
 have HRW := (show Hid (Blk (((w.alloc (.cells #[.int .i64 s, .int .i64 ep, .int .i64 st, .int .i64 fl, .slice ta tb.length tc] 33)).alloc (.cells #[.int .i64 kind, .int .i64 txn, .int .i64 prev, .int .i64 page, .int .i64 slot, .bool bU, .slice bDa bDb.length bDc, .bool aU, .slice aDa aDb.length aDc, .int .i64 uN, .int .i64 nT, .slice tXa tXn tXc, .slice dYa dYn dYc, .slice iMa iMb.length iMc] 42)).alloc (.cells #[.int .i64 0, .int .i64 0, .int .i64 0, .int .i64 0, .int .i64 0, .int .i64 0, .slice none 0 0] 35)) (w.heap.size + 1) 42 [.int .i64 kind, .int .i64 txn, .int .i64 prev, .int .i64 page, .int .i64 slot, .bool bU, .slice bDa bDb.length bDc, .bool aU, .slice aDa aDb.length aDc, .int .i64 uN, .int .i64 nT, .slice tXa tXn tXc, .slice dYa dYn dYc, .slice iMa iMb.length iMc]) from (Blk.newB w [.int .i64 s, .int .i64 ep, .int .i64 st, .int .i64 fl, .slice ta tb.length tc] 33 [.int .i64 kind, .int .i64 txn, .int .i64 prev, .int .i64 page, .int .i64 slot, .bool bU, .slice bDa bDb.length bDc, .bool aU, .slice aDa aDb.length aDc, .int .i64 uN, .int .i64 nT, .slice tXa tXn tXc, .slice dYa dYn dYc, .slice iMa iMb.length iMc] 42).same ((Kept.refl _ _).alloc _))
 have HZW := (show Hid (Blk (((w.alloc (.cells #[.int .i64 s, .int .i64 ep, .int .i64 st, .int .i64 fl, .slice ta tb.length tc] 33)).alloc (.cells #[.int .i64 kind, .int .i64 txn, .int .i64 prev, .int .i64 page, .int .i64 slot, .bool bU, .slice bDa bDb.length bDc, .bool aU, .slice aDa aDb.length aDc, .int .i64 uN, .int .i64 nT, .slice tXa tXn tXc, .slice dYa dYn dYc, .slice iMa iMb.length iMc] 42)).alloc (.cells #[.int .i64 0, .int .i64 0, .int .i64 0, .int .i64 0, .int .i64 0, .int .i64 0, .slice none 0 0] 35)) (w.heap.size + 1 + 1) 35 [.int .i64 0, .int .i64 0, .int .i64 0, .int .i64 0, .int .i64 0, .int .i64 0, .slice none 0 0]) from Blk.newC w [.int .i64 s, .int .i64 ep, .int .i64 st, .int .i64 fl, .slice ta tb.length tc] 33 [.int .i64 kind, .int .i64 txn, .int .i64 prev, .int .i64 page, .int .i64 slot, .bool bU, .slice bDa bDb.length bDc, .bool aU, .slice aDa aDb.length aDc, .int .i64 uN, .int .i64 nT, .slice tXa tXn tXc, .slice dYa dYn dYc, .slice iMa iMb.length iMc] 42 [.int .i64 0, .int .i64 0, .int .i64 0, .int .i64 0, .int .i64 0, .int .i64 0, .slice none 0 0] 35)
 by_cases hf : logFd (s, ep, st, fl, tb) = 0
 ·obtain ⟨h1, ⟨h2a, h2b⟩, h3, h4, h5, h6⟩ := logFault_good hf
  go_enter Tryz.func9, Tryz.ntmps9
  go_wp2_with fail
  refine (HF.out _ HKW.out).mono ?_
  rintro e w1 ⟨rfl, hk⟩
  rw [hf]
  have HK1 := hid (HKW.out.trans hk)
  have HL1 := hid (HLW.out.same hk)
  have HR1 := hid (HRW.out.same hk)
  have HZ1 := hid (HZW.out.same hk)
  clear hk HKW HLW HRW HZW HF
  obtain ⟨p0, p1, p2, p3, p4⟩ := HL1.out.all5
  obtain ⟨q0, q1, q2, q3, q4, q5, q6, q7, q8, q9, q10, q11, q12, q13⟩ := HR1.out.all14
  go_wp2_with fail
  refine (HE.out st ep _ (by unfold IsI; omega) (by unfold IsI; omega) HK1.out).mono ?_
  rintro e w2 ⟨a2, c2, rfl, hfr, ho, hk⟩
  have HK2 := hid (HK1.out.trans hk)
  have HL2 := hid (HL1.out.same hk)
  have HZ2 := hid (HZ1.out.same hk)
  have HO2 := (show Hid (Own 0 5 .u8 w2 (.slice a2 (frFd st ep D).length c2) (frFd st ep D)) from ho)
  clear hk hfr ho HK1 HL1 HR1 HZ1 p0 p1 p2 p3 p4 q0 q1 q2 q3 q4 q5 q6 q7 q8 q9 q10 q11 q12 q13 HE
  obtain ⟨p0, p1, p2, p3, p4⟩ := HL2.out.all5
  have hz2 := HZ2.out.lt
  have hll := frFd_length st ep D
  by_cases hr : recFd D = 0
  ·have hlen := frFd_len (HRB.out hr) hr (by omega : 1 ≤ st ∧ st ≤ 1099511627776) ⟨h2a, h2b⟩
   have hpos : 20 ≤ fsFd D := by rw [fsFd_good hr]; omega
   have HFS := (show Hid (((frFd st ep D).length : Int) = fsFd D) from hlen)
   obtain ⟨fr, hfr⟩ : ∃ fr : List Int, frFd st ep D = fr := ⟨_, rfl⟩
   have HFR : Hid (frFd st ep D = fr) := hfr
   rw [hfr] at HO2 HFS hlen hll ⊢
   clear hfr
   obtain ⟨n, hn⟩ : ∃ n, fr.length = n := ⟨_, rfl⟩
   have HN : Hid (fr.length = n) := hn
   rw [hn] at HO2 HFS hlen hll ⊢
   clear hn
   have hn0 : ¬ n = 0 := by omega
   have hwr : IntKind.i64.wrap (st + (n : Int)) = st + (n : Int) := by rw [IntKind.wrap_i64]; omega
   by_cases hm : st + fsFd D ≤ 1099511627776
   ·have hm2 : ¬ 1099511627776 < st + (n : Int) := by omega
    have e1 : ((n : Int) == 0) = false := by rw [beq_eq_false_iff_ne]; omega
    have e2 : decide (1099511627776 < st + (n : Int)) = false := decide_eq_false hm2
    have HOK : Hid (appOK (s, ep, st, fl, tb) D) := ⟨hf, hr, hm⟩
    clear hlen hf hr hm
    have hzl := HL2.out.lt
    go_wp2_with fail
    have HK3 := (show Hid (Same w ((w2.alloc (.cells #[.int .i64 0, .int .i64 st, .int .i64 s, .int .i64 ep, .int .i64 (st + (n : Int)), .int .i64 fl, .slice ta tb.length tc] 35)).alloc (.cells #[.slice ta tb.length tc, .slice a2 n c2] 22))) from (HK2.out.alloc _).alloc _)
    have HZ3 := (show Hid (Blk ((w2.alloc (.cells #[.int .i64 0, .int .i64 st, .int .i64 s, .int .i64 ep, .int .i64 (st + (n : Int)), .int .i64 fl, .slice ta tb.length tc] 35)).alloc (.cells #[.slice ta tb.length tc, .slice a2 n c2] 22)) (w.heap.size + 1 + 1) 35 [.int .i64 0, .int .i64 0, .int .i64 0, .int .i64 0, .int .i64 0, .int .i64 0, .slice none 0 0]) from (HZ2.out.same ((Kept.refl _ _).alloc _)).same ((Kept.refl _ _).alloc _))
    have HA3 := (show Hid (Blk ((w2.alloc (.cells #[.int .i64 0, .int .i64 st, .int .i64 s, .int .i64 ep, .int .i64 (st + (n : Int)), .int .i64 fl, .slice ta tb.length tc] 35)).alloc (.cells #[.slice ta tb.length tc, .slice a2 n c2] 22)) w2.heap.size 35 [.int .i64 0, .int .i64 st, .int .i64 s, .int .i64 ep, .int .i64 (st + (n : Int)), .int .i64 fl, .slice ta tb.length tc]) from (Blk.newL w2 [.int .i64 0, .int .i64 st, .int .i64 s, .int .i64 ep, .int .i64 (st + (n : Int)), .int .i64 fl, .slice ta tb.length tc] 35).same ((Kept.refl _ _).alloc _))
    have HC3 := (show Hid (Blk ((w2.alloc (.cells #[.int .i64 0, .int .i64 st, .int .i64 s, .int .i64 ep, .int .i64 (st + (n : Int)), .int .i64 fl, .slice ta tb.length tc] 35)).alloc (.cells #[.slice ta tb.length tc, .slice a2 n c2] 22)) (w2.heap.size + 1) 22 [.slice ta tb.length tc, .slice a2 n c2]) from Blk.newB w2 [.int .i64 0, .int .i64 st, .int .i64 s, .int .i64 ep, .int .i64 (st + (n : Int)), .int .i64 fl, .slice ta tb.length tc] 35 [.slice ta tb.length tc, .slice a2 n c2] 22)
    have HO3 := (show Hid (Rd .u8 ((w2.alloc (.cells #[.int .i64 0, .int .i64 st, .int .i64 s, .int .i64 ep, .int .i64 (st + (n : Int)), .int .i64 fl, .slice ta tb.length tc] 35)).alloc (.cells #[.slice ta tb.length tc, .slice a2 n c2] 22)) (.slice a2 n c2) fr) from (HO2.out.same (((Kept.refl _ _).alloc _).alloc _)).rd)
    have hcc := concat_any (w2.heap.size + 1) ta a2 tc c2 tb fr ((w2.alloc (.cells #[.int .i64 0, .int .i64 st, .int .i64 s, .int .i64 ep, .int .i64 (st + (n : Int)), .int .i64 fl, .slice ta tb.length tc] 35)).alloc (.cells #[.slice ta tb.length tc, .slice a2 n c2] 22)) (by have := HN.out; omega) (by rw [HN.out]; exact HC3.out) (HT.out.same HK3.out) (by rw [HN.out]; exact HO3.out)
    refine hcc.mono ?_
    clear hcc
    rintro e w4 ⟨a4, n4, c4, rfl, ho, hfr4, hk⟩
    have HK4 := hid (HK3.out.trans hk)
    have HZ4 := hid (HZ3.out.same hk)
    have HO4 := (show Hid (Own 0 5 .u8 w4 (.slice a4 n4 c4) (tb ++ fr)) from ho)
    have HFR4 := (show Hid (∀ b, (Value.slice a4 n4 c4).ownBlock = some b → w2.heap.size + 1 + 1 ≤ b) from fun b hb => by have h := hfr4 b hb; simp only [World.size_alloc] at h; exact h)
    have ha4 : Blk w4 w2.heap.size 35 [.int .i64 0, .int .i64 st, .int .i64 s, .int .i64 ep, .int .i64 (st + (n : Int)), .int .i64 fl, .slice ta tb.length tc] := HA3.out.same hk
    have hks : Kept (fun b => b = w2.heap.size) w4 (w4.setCell ⟨w2.heap.size, 6, none⟩ (.slice a4 n4 c4)) := Kept.setCell (R := fun b => b = w2.heap.size) (Kept.refl _ _) (.inr rfl) _
    obtain ⟨r0, r1, r2, r3, r4, r5, r6⟩ := ha4.all7'
    have fa := ha4.frozen
    have hz4 := ha4.lt
    have HA5 := (show Hid (Blk (w4.setCell ⟨w2.heap.size, 6, none⟩ (.slice a4 n4 c4)) w2.heap.size 35 [.int .i64 0, .int .i64 st, .int .i64 s, .int .i64 ep, .int .i64 (st + (n : Int)), .int .i64 fl, .slice a4 n4 c4]) from ha4.stored 6 _)
    have HK5 := (show Hid (Same w (w4.setCell ⟨w2.heap.size, 6, none⟩ (.slice a4 n4 c4))) from HK4.out.next hks (fun b hb e => by omega))
    have HZ5 := (show Hid (Blk (w4.setCell ⟨w2.heap.size, 6, none⟩ (.slice a4 n4 c4)) (w.heap.size + 1 + 1) 35 [.int .i64 0, .int .i64 0, .int .i64 0, .int .i64 0, .int .i64 0, .int .i64 0, .slice none 0 0]) from HZ4.out.kept hks (by omega))
    have HO5 := (show Hid (Own 0 5 .u8 (w4.setCell ⟨w2.heap.size, 6, none⟩ (.slice a4 n4 c4)) (.slice a4 n4 c4) (tb ++ fr)) from HO4.out.kept hks (fun b hb e => by have := HFR4.out b hb; omega))
    clear hk ho hfr4 hks ha4 HK3 HZ3 HA3 HC3 HO3 HK4 HZ4 HO4 HK2 HL2 HZ2 HO2
    have z0 := HZ5.out.c0
    have z1 := HZ5.out.c1
    have z2 := HZ5.out.c2
    have z3 := HZ5.out.c3
    have z4 := HZ5.out.c4
    have z5 := HZ5.out.c5
    have z6 := HZ5.out.c6
    have fz := HZ5.out.frozen
    clear HZ5
    go_wp2
    obtain ⟨w5, hw5⟩ : ∃ w5, (w4.setCell ⟨w2.heap.size, 6, none⟩ (.slice a4 n4 c4)) = w5 := ⟨_, rfl⟩
    rw [hw5] at HO5 HK5 z0 z1 z2 z3 z4 z5 z6 ⊢
    clear hw5
    have HN4 : Hid (n4 = (tb ++ fr).length) := by obtain ⟨_, _, he⟩ := HO5.out.rd.form; injection he
    refine bodyPost_ret (v := .agg #[.int .i64 0, .int .i64 st, .int .i64 s, .int .i64 ep, .int .i64 (st + (n : Int)), .int .i64 fl, .slice a4 n4 c4]) (by simp [results, Tryz.results9, go_sem, z0, z1, z2, z3, z4, z5, z6]) rfl ⟨⟨0, st, ⟨s, ep, st + (n : Int), fl, ⟨5, a4, c4, tb ++ fr⟩⟩⟩, by rw [HN4.out]; rfl, ?_, fun b hb => ?_, OwnL.one (Own.kept (HN4.out ▸ HO5.out) (R := fun b => b = w.heap.size + 1 + 1) ?_ (fun b hb e => ?_)), ?_⟩
    ·rw [appD_yes HOK.out]
     dsimp only [StAppendResult.dat, StLog.dat]
     rw [HFR.out, HFS.out]
    ·have := HFR4.out b (HN4.out ▸ (footL_ints _ _ _ _ _).1 hb); omega
    ·(iterate 7 refine Kept.setCell (R := fun b => b = w.heap.size + 1 + 1) ?_ (.inr rfl) _); exact Kept.refl _ _
    ·have := HFR4.out b (HN4.out ▸ hb); omega
    ·(iterate 7 refine Kept.setCell ?_ (.inl (Nat.le_succ_of_le (Nat.le_succ _))) _); exact HK5.out
   ·have hm2 : 1099511627776 < st + (n : Int) := by omega
    have HNO : Hid (¬ appOK (s, ep, st, fl, tb) D) := fun h => hm h.2.2
    clear hlen
    have z0 := HZ2.out.c0
    have z1 := HZ2.out.c1
    have z2 := HZ2.out.c2
    have z3 := HZ2.out.c3
    have z4 := HZ2.out.c4
    have z5 := HZ2.out.c5
    have z6 := HZ2.out.c6
    have fz := HZ2.out.frozen
    go_wp2
    refine bodyPost_ret (v := .agg #[.int .i64 1, .int .i64 0, .int .i64 0, .int .i64 0, .int .i64 0, .int .i64 0, .slice none 0 0]) (by simp [results, Tryz.results9, go_sem, z0, z1, z2, z3, z4, z5, z6]) rfl ⟨⟨1, 0, ⟨0, 0, 0, 0, ⟨0, none, 0, []⟩⟩⟩, rfl, by rw [appD_no HNO.out]; rfl, fun b hb => absurd hb (zeroApp_foot 1 b), zeroApp_own _ 1, ?_⟩
    (iterate 7 refine Kept.setCell ?_ (.inl (Nat.le_succ_of_le (Nat.le_succ _))) _)
    exact HK2.out
  ·have hfn : frFd st ep D = [] := frFd_no (fun h => hr h.1)
   rw [hfn] at HO2 ⊢
   have HNO : Hid (¬ appOK (s, ep, st, fl, tb) D) := fun h => hr h.2.1
   have z0 := HZ2.out.c0
   have z1 := HZ2.out.c1
   have z2 := HZ2.out.c2
   have z3 := HZ2.out.c3
   have z4 := HZ2.out.c4
   have z5 := HZ2.out.c5
   have z6 := HZ2.out.c6
   have fz := HZ2.out.frozen
   go_wp2
   refine bodyPost_ret (v := .agg #[.int .i64 1, .int .i64 0, .int .i64 0, .int .i64 0, .int .i64 0, .int .i64 0, .slice none 0 0]) (by simp [results, Tryz.results9, go_sem, z0, z1, z2, z3, z4, z5, z6]) rfl ⟨⟨1, 0, ⟨0, 0, 0, 0, ⟨0, none, 0, []⟩⟩⟩, rfl, by rw [appD_no HNO.out]; rfl, fun b hb => absurd hb (zeroApp_foot 1 b), zeroApp_own _ 1, ?_⟩
   (iterate 7 refine Kept.setCell ?_ (.inl (Nat.le_succ_of_le (Nat.le_succ _))) _)
   exact HK2.out
 ·have HNO : Hid (¬ appOK (s, ep, st, fl, tb) D) := fun h => hf h.1
  have hf' : ¬ logFd (s, ep, st, fl, tb) = 0 := hf
  go_enter Tryz.func9, Tryz.ntmps9
  go_wp2_with fail
  refine (HF.out _ HKW.out).mono ?_
  rintro e w1 ⟨rfl, hk⟩
  have HK1 := hid (HKW.out.trans hk)
  have HZ1 := hid (HZW.out.same hk)
  clear hk HKW HLW HRW HZW HF
  have z0 := HZ1.out.c0
  have z1 := HZ1.out.c1
  have z2 := HZ1.out.c2
  have z3 := HZ1.out.c3
  have z4 := HZ1.out.c4
  have z5 := HZ1.out.c5
  have z6 := HZ1.out.c6
  have fz := HZ1.out.frozen
  go_wp2
  refine bodyPost_ret (v := .agg #[.int .i64 1, .int .i64 0, .int .i64 0, .int .i64 0, .int .i64 0, .int .i64 0, .slice none 0 0]) (by simp [results, Tryz.results9, go_sem, z0, z1, z2, z3, z4, z5, z6]) rfl ⟨⟨1, 0, ⟨0, 0, 0, 0, ⟨0, none, 0, []⟩⟩⟩, rfl, by rw [appD_no HNO.out]; rfl, fun b hb => absurd hb (zeroApp_foot 1 b), zeroApp_own _ 1, ?_⟩
  (iterate 7 refine Kept.setCell ?_ (.inl (Nat.le_succ_of_le (Nat.le_succ _))) _)
  exact HK1.out
theorem markDirtyEntryS_own (x : FR) (k0 : Int) (w : World) (h0 : 0 ≤ k0) (h1 : k0 + (x.bs.length : Int) ≤ 1125899906842624) (ha : OwnL w (x.rows 2)) :
  Calls Tryz.prog 40 #[x.v, .int .i64 k0] w fun e w' => e = .returned (.int .i64 (k0 + (x.bs.length : Int))) ∧ OwnL w' ((x.marked k0).rows 2) ∧ Kept (FootL (x.rows 2)) w w' := by
 have hl := FR.own_len ha
 have hf := FR.own_form ha
 obtain ⟨xe, xa, xn, xc, bs⟩ := x
 dsimp only [FR.v] at *
 have HA := (show Hid (OwnL w (FR.rows 2 ⟨xe, xa, xn, xc, bs⟩)) from ha)
 clear ha
 rcases hf with ⟨rfl, rfl, rfl⟩ | ⟨g, rfl, hac, hcm, ho⟩
 ·obtain rfl : bs = [] := List.length_eq_zero_iff.1 (by omega)
  clear hl
  go_enter Tryz.func40, Tryz.ntmps40
  go_wp2
  refine wp_loop_rounds 1 ?_
  rw [rounds_succ]
  go_wp2
  go_ret
  exact ⟨by simp, HA.out, Kept.refl _ _⟩
 ·have HL := (show Hid (bs.length = xn * 2) from hl)
  have HO0 := (show Hid (OwnF 2 xe w g xn xc bs) from ho)
  rw [hl] at h1 ⊢
  have hxn : k0 + (xn : Int) * 2 ≤ 1125899906842624 := by simpa using h1
  unfold maxLen at hcm
  clear ho hl HA h1
  go_enter Tryz.func40, Tryz.ntmps40
  go_wp2
  go_loopw [1, 5] (fun v i wr => ∃ k : Nat, k ≤ xn ∧ i = .int .i64 k ∧ v = .int .i64 (k0 + (k : Int) * 2) ∧ Hid (OwnF 2 xe wr g xn xc (partI k0 bs (k * 2))) ∧ Hid (Kept (fun b => b = g) w wr)) (fun _ i _ => xn - (intOf i).toNat)
  case atStart => exact ⟨0, Nat.zero_le _, rfl, by simp, by rw [Nat.zero_mul, partI_zero]; exact HO0, Kept.refl _ _⟩
  case round =>
   obtain ⟨k, hk, rfl, rfl, HO, HK⟩ := hrel
   by_cases hlt : k < xn
   ·have c0 := HO.out.cell (k * 2) (by omega)
    have f0 := HO.out.frozen (k * 2)
    have c1 := HO.out.cell (k * 2 + 1) (by omega)
    have f1 := HO.out.frozen (k * 2 + 1)
    go_wp2
    go_roundw
    case rel =>
     have hl := HL.out
     have q0 := HO.out
     have q1 := q0.stored (k * 2) (k0 + ((k * 2 : Nat) : Int))
     rw [partI_step _ _ _ (by omega)] at q1
     have q2 := q1.stored (k * 2 + 1) (k0 + ((k * 2 + 1 : Nat) : Int))
     rw [partI_step _ _ _ (by omega)] at q2
     refine ⟨k + 1, by omega, by go_num, by go_num, ?_, ?_⟩
     ·rw [show (k + 1) * 2 = k * 2 + 1 + 1 from by omega]; simpa [Hid, Int.add_assoc] using q2
     ·exact ((HK.out.setCell (.inr rfl) _).setCell (.inr rfl) _)
    case measure => simp [intOf]; omega
   ·go_wp2
    go_ret
    obtain rfl : k = xn := by omega
    have h := HO.out
    rw [← HL.out, partI_all] at h
    refine ⟨ret_int (by push_cast; rfl), ?_, HK.out.mono (fun b _ hb => (FootL_one _ _).2 (by simp [FR.v, Value.ownBlock, hb]))⟩
    exact h.out
theorem markTxnEntryS_own (x : FR) (k0 : Int) (w : World) (h0 : 0 ≤ k0) (h1 : k0 + (x.bs.length : Int) ≤ 1125899906842624) (ha : OwnL w (x.rows 4)) :
  Calls Tryz.prog 39 #[x.v, .int .i64 k0] w fun e w' => e = .returned (.int .i64 (k0 + (x.bs.length : Int))) ∧ OwnL w' ((x.marked k0).rows 4) ∧ Kept (FootL (x.rows 4)) w w' := by
 have hl := FR.own_len ha
 have hf := FR.own_form ha
 obtain ⟨xe, xa, xn, xc, bs⟩ := x
 dsimp only [FR.v] at *
 have HA := (show Hid (OwnL w (FR.rows 4 ⟨xe, xa, xn, xc, bs⟩)) from ha)
 clear ha
 rcases hf with ⟨rfl, rfl, rfl⟩ | ⟨g, rfl, hac, hcm, ho⟩
 ·obtain rfl : bs = [] := List.length_eq_zero_iff.1 (by omega)
  clear hl
  go_enter Tryz.func39, Tryz.ntmps39
  go_wp2
  refine wp_loop_rounds 1 ?_
  rw [rounds_succ]
  go_wp2
  go_ret
  exact ⟨by simp, HA.out, Kept.refl _ _⟩
 ·have HL := (show Hid (bs.length = xn * 4) from hl)
  have HO0 := (show Hid (OwnF 4 xe w g xn xc bs) from ho)
  rw [hl] at h1 ⊢
  have hxn : k0 + (xn : Int) * 4 ≤ 1125899906842624 := by simpa using h1
  unfold maxLen at hcm
  clear ho hl HA h1
  go_enter Tryz.func39, Tryz.ntmps39
  go_wp2
  go_loopw [1, 5] (fun v i wr => ∃ k : Nat, k ≤ xn ∧ i = .int .i64 k ∧ v = .int .i64 (k0 + (k : Int) * 4) ∧ Hid (OwnF 4 xe wr g xn xc (partI k0 bs (k * 4))) ∧ Hid (Kept (fun b => b = g) w wr)) (fun _ i _ => xn - (intOf i).toNat)
  case atStart => exact ⟨0, Nat.zero_le _, rfl, by simp, by rw [Nat.zero_mul, partI_zero]; exact HO0, Kept.refl _ _⟩
  case round =>
   obtain ⟨k, hk, rfl, rfl, HO, HK⟩ := hrel
   by_cases hlt : k < xn
   ·have c0 := HO.out.cell (k * 4) (by omega)
    have f0 := HO.out.frozen (k * 4)
    have c1 := HO.out.cell (k * 4 + 1) (by omega)
    have f1 := HO.out.frozen (k * 4 + 1)
    have c2 := HO.out.cell (k * 4 + 2) (by omega)
    have f2 := HO.out.frozen (k * 4 + 2)
    have c3 := HO.out.cell (k * 4 + 3) (by omega)
    have f3 := HO.out.frozen (k * 4 + 3)
    go_wp2
    go_roundw
    case rel =>
     have hl := HL.out
     have q0 := HO.out
     have q1 := q0.stored (k * 4) (k0 + ((k * 4 : Nat) : Int))
     rw [partI_step _ _ _ (by omega)] at q1
     have q2 := q1.stored (k * 4 + 1) (k0 + ((k * 4 + 1 : Nat) : Int))
     rw [partI_step _ _ _ (by omega)] at q2
     have q3 := q2.stored (k * 4 + 2) (k0 + ((k * 4 + 2 : Nat) : Int))
     rw [partI_step _ _ _ (by omega)] at q3
     have q4 := q3.stored (k * 4 + 3) (k0 + ((k * 4 + 3 : Nat) : Int))
     rw [partI_step _ _ _ (by omega)] at q4
     refine ⟨k + 1, by omega, by go_num, by go_num, ?_, ?_⟩
     ·rw [show (k + 1) * 4 = k * 4 + 1 + 1 + 1 + 1 from by omega]; simpa [Hid, Int.add_assoc] using q4
     ·exact ((((HK.out.setCell (.inr rfl) _).setCell (.inr rfl) _).setCell (.inr rfl) _).setCell (.inr rfl) _)
    case measure => simp [intOf]; omega
   ·go_wp2
    go_ret
    obtain rfl : k = xn := by omega
    have h := HO.out
    rw [← HL.out, partI_all] at h
    refine ⟨ret_int (by push_cast; rfl), ?_, HK.out.mono (fun b _ hb => (FootL_one _ _).2 (by simp [FR.v, Value.ownBlock, hb]))⟩
    exact h.out
theorem markLogRecord_own (x : StLogRecord) (k0 : Int) (w : World) (h0 : 0 ≤ k0) (h1 : k0 + x.size ≤ 1125899906842624) (ha : OwnL w x.rows) :
  Calls Tryz.prog 14 #[x.val, .int .i64 k0] w fun e w' => e = .returned (.int .i64 (k0 + x.size)) ∧ OwnL w' (x.marked k0).rows ∧ Kept (FootL x.rows) w w' := by
 have hlt := ha.lt
 have HLT := (show Hid (∀ b, FootL x.rows b → b < w.heap.size) from hlt)
 have HA := (show Hid (OwnL w x.rows) from ha)
 clear hlt
 obtain ⟨xkind, xtxn, xprev, xpage, xslot, ⟨xbU, ⟨xbDe, xbDa, xbDc, xbDb⟩⟩, ⟨xaU, ⟨xaDe, xaDa, xaDc, xaDb⟩⟩, xuN, xnT, ⟨xtXe, xtXa, xtXn, xtXc, xtXb⟩, ⟨xdYe, xdYa, xdYn, xdYc, xdYb⟩, ⟨xiMe, xiMa, xiMc, xiMb⟩⟩ := x
 have HO0_0 := (show Hid (OwnL w (StPageRecord.rows ⟨xbU, ⟨xbDe, xbDa, xbDc, xbDb⟩⟩)) from ha.left)
 have HO1_0 := (show Hid (OwnL w (StPageRecord.rows ⟨xaU, ⟨xaDe, xaDa, xaDc, xaDb⟩⟩)) from ha.right.left)
 have HO2_0 := (show Hid (OwnL w [⟨xtXe, 4, .slice xtXa xtXn xtXc, xtXn, vals .i64 xtXb⟩]) from ha.right.right.left)
 have HO3_0 := (show Hid (OwnL w [⟨xdYe, 2, .slice xdYa xdYn xdYc, xdYn, vals .i64 xdYb⟩]) from ha.right.right.right.left)
 have HO4_0 := (show Hid (OwnL w [ints xiMe .u8 (.slice xiMa xiMb.length xiMc) xiMb]) from ha.right.right.right.right)
 have HP0_1 := (show Hid (∀ b, FootL (StPageRecord.rows ⟨xbU, ⟨xbDe, xbDa, xbDc, xbDb⟩⟩) b → ¬ FootL (StPageRecord.rows ⟨xaU, ⟨xaDe, xaDa, xaDc, xaDb⟩⟩) b) from fun b hi hj => OwnL.cut (ha) b hi ((FootL_append _ _ _).2 (.inl hj)))
 have HP0_2 := (show Hid (∀ b, FootL (StPageRecord.rows ⟨xbU, ⟨xbDe, xbDa, xbDc, xbDb⟩⟩) b → ¬ FootL [⟨xtXe, 4, .slice xtXa xtXn xtXc, xtXn, vals .i64 xtXb⟩] b) from fun b hi hj => OwnL.cut (ha) b hi ((FootL_append _ _ _).2 (.inr ((FootL_append _ _ _).2 (.inl hj)))))
 have HP0_3 := (show Hid (∀ b, FootL (StPageRecord.rows ⟨xbU, ⟨xbDe, xbDa, xbDc, xbDb⟩⟩) b → ¬ FootL [⟨xdYe, 2, .slice xdYa xdYn xdYc, xdYn, vals .i64 xdYb⟩] b) from fun b hi hj => OwnL.cut (ha) b hi ((FootL_append _ _ _).2 (.inr ((FootL_append _ _ _).2 (.inr ((FootL_append _ _ _).2 (.inl hj)))))))
 have HP0_4 := (show Hid (∀ b, FootL (StPageRecord.rows ⟨xbU, ⟨xbDe, xbDa, xbDc, xbDb⟩⟩) b → ¬ FootL [ints xiMe .u8 (.slice xiMa xiMb.length xiMc) xiMb] b) from fun b hi hj => OwnL.cut (ha) b hi ((FootL_append _ _ _).2 (.inr ((FootL_append _ _ _).2 (.inr ((FootL_append _ _ _).2 (.inr (hj))))))))
 have HP1_2 := (show Hid (∀ b, FootL (StPageRecord.rows ⟨xaU, ⟨xaDe, xaDa, xaDc, xaDb⟩⟩) b → ¬ FootL [⟨xtXe, 4, .slice xtXa xtXn xtXc, xtXn, vals .i64 xtXb⟩] b) from fun b hi hj => OwnL.cut (ha.right) b hi ((FootL_append _ _ _).2 (.inl hj)))
 have HP1_3 := (show Hid (∀ b, FootL (StPageRecord.rows ⟨xaU, ⟨xaDe, xaDa, xaDc, xaDb⟩⟩) b → ¬ FootL [⟨xdYe, 2, .slice xdYa xdYn xdYc, xdYn, vals .i64 xdYb⟩] b) from fun b hi hj => OwnL.cut (ha.right) b hi ((FootL_append _ _ _).2 (.inr ((FootL_append _ _ _).2 (.inl hj)))))
 have HP1_4 := (show Hid (∀ b, FootL (StPageRecord.rows ⟨xaU, ⟨xaDe, xaDa, xaDc, xaDb⟩⟩) b → ¬ FootL [ints xiMe .u8 (.slice xiMa xiMb.length xiMc) xiMb] b) from fun b hi hj => OwnL.cut (ha.right) b hi ((FootL_append _ _ _).2 (.inr ((FootL_append _ _ _).2 (.inr (hj))))))
 have HP2_3 := (show Hid (∀ b, FootL [⟨xtXe, 4, .slice xtXa xtXn xtXc, xtXn, vals .i64 xtXb⟩] b → ¬ FootL [⟨xdYe, 2, .slice xdYa xdYn xdYc, xdYn, vals .i64 xdYb⟩] b) from fun b hi hj => OwnL.cut (ha.right.right) b hi ((FootL_append _ _ _).2 (.inl hj)))
 have HP2_4 := (show Hid (∀ b, FootL [⟨xtXe, 4, .slice xtXa xtXn xtXc, xtXn, vals .i64 xtXb⟩] b → ¬ FootL [ints xiMe .u8 (.slice xiMa xiMb.length xiMc) xiMb] b) from fun b hi hj => OwnL.cut (ha.right.right) b hi ((FootL_append _ _ _).2 (.inr (hj))))
 have HP3_4 := (show Hid (∀ b, FootL [⟨xdYe, 2, .slice xdYa xdYn xdYc, xdYn, vals .i64 xdYb⟩] b → ¬ FootL [ints xiMe .u8 (.slice xiMa xiMb.length xiMc) xiMb] b) from fun b hi hj => OwnL.cut (ha.right.right.right) b hi (hj))
 clear ha
 simp only [StLogRecord.size] at h1
 have hz0 := StPageRecord.size_le ⟨xbU, ⟨xbDe, xbDa, xbDc, xbDb⟩⟩
 have hz1 := StPageRecord.size_le ⟨xaU, ⟨xaDe, xaDa, xaDc, xaDb⟩⟩
 dsimp only [StLogRecord.val, StPageRecord.val, BS.v, FR.v]
 go_enter Tryz.func14, Tryz.ntmps14
 have HK_0 := (show Hid (Kept (FootL (StLogRecord.rows ⟨xkind, xtxn, xprev, xpage, xslot, ⟨xbU, ⟨xbDe, xbDa, xbDc, xbDb⟩⟩, ⟨xaU, ⟨xaDe, xaDa, xaDc, xaDb⟩⟩, xuN, xnT, ⟨xtXe, xtXa, xtXn, xtXc, xtXb⟩, ⟨xdYe, xdYa, xdYn, xdYc, xdYb⟩, ⟨xiMe, xiMa, xiMc, xiMb⟩⟩)) w (w.alloc (.cells #[.int .i64 xkind, .int .i64 xtxn, .int .i64 xprev, .int .i64 xpage, .int .i64 xslot, .bool xbU, .slice xbDa xbDb.length xbDc, .bool xaU, .slice xaDa xaDb.length xaDc, .int .i64 xuN, .int .i64 xnT, .slice xtXa xtXn xtXc, .slice xdYa xdYn xdYc, .slice xiMa xiMb.length xiMc] 42))) from (Kept.refl _ _).alloc _)
 have HB_0 := hid (Blk.newL w [.int .i64 xkind, .int .i64 xtxn, .int .i64 xprev, .int .i64 xpage, .int .i64 xslot, .bool xbU, .slice xbDa xbDb.length xbDc, .bool xaU, .slice xaDa xaDb.length xaDc, .int .i64 xuN, .int .i64 xnT, .slice xtXa xtXn xtXc, .slice xdYa xdYn xdYc, .slice xiMa xiMb.length xiMc] 42)
 go_wp2_with fail
 refine (markPageRecord_own ⟨xbU, ⟨xbDe, xbDa, xbDc, xbDb⟩⟩ (k0) _ (by omega) (by omega) (HO0_0.out.same ((Kept.refl _ _).alloc _))).mono ?_
 rintro e w1 ⟨rfl, ho, hk⟩
 have HB_1 := (show Hid (Blk w1 w.heap.size 42 [.int .i64 xkind, .int .i64 xtxn, .int .i64 xprev, .int .i64 xpage, .int .i64 xslot, .bool xbU, .slice xbDa xbDb.length xbDc, .bool xaU, .slice xaDa xaDb.length xaDc, .int .i64 xuN, .int .i64 xnT, .slice xtXa xtXn xtXc, .slice xdYa xdYn xdYc, .slice xiMa xiMb.length xiMc]) from HB_0.out.kept hk (fun e => by have := HLT.out _ ((FootL_append _ _ _).2 (.inl e)); omega))
 have HK_1 := (show Hid (Kept (FootL (StLogRecord.rows ⟨xkind, xtxn, xprev, xpage, xslot, ⟨xbU, ⟨xbDe, xbDa, xbDc, xbDb⟩⟩, ⟨xaU, ⟨xaDe, xaDa, xaDc, xaDb⟩⟩, xuN, xnT, ⟨xtXe, xtXa, xtXn, xtXc, xtXb⟩, ⟨xdYe, xdYa, xdYn, xdYc, xdYb⟩, ⟨xiMe, xiMa, xiMc, xiMb⟩⟩)) w w1) from HK_0.out.next hk (fun b _ e => (FootL_append _ _ _).2 (.inl e)))
 have HO0_1 := (show Hid (OwnL w1 (StPageRecord.marked ⟨xbU, ⟨xbDe, xbDa, xbDc, xbDb⟩⟩ (k0)).rows) from ho)
 have HO1_1 := (show Hid (OwnL w1 (StPageRecord.rows ⟨xaU, ⟨xaDe, xaDa, xaDc, xaDb⟩⟩)) from (HO1_0.out.same ((Kept.refl _ _).alloc _)).kept hk (fun b hb e => HP0_1.out b e hb))
 have HO2_1 := (show Hid (OwnL w1 [⟨xtXe, 4, .slice xtXa xtXn xtXc, xtXn, vals .i64 xtXb⟩]) from (HO2_0.out.same ((Kept.refl _ _).alloc _)).kept hk (fun b hb e => HP0_2.out b e hb))
 have HO3_1 := (show Hid (OwnL w1 [⟨xdYe, 2, .slice xdYa xdYn xdYc, xdYn, vals .i64 xdYb⟩]) from (HO3_0.out.same ((Kept.refl _ _).alloc _)).kept hk (fun b hb e => HP0_3.out b e hb))
 have HO4_1 := (show Hid (OwnL w1 [ints xiMe .u8 (.slice xiMa xiMb.length xiMc) xiMb]) from (HO4_0.out.same ((Kept.refl _ _).alloc _)).kept hk (fun b hb e => HP0_4.out b e hb))
 clear ho hk HB_0 HK_0 HO0_0 HO1_0 HO2_0 HO3_0 HO4_0
 have hsz0 : StPageRecord.size ⟨xbU, ⟨xbDe, xbDa, xbDc, xbDb⟩⟩ = StPageRecord.size ⟨xbU, ⟨xbDe, xbDa, xbDc, xbDb⟩⟩ := rfl
 have d0_7 := HB_1.out.c7
 have d0_8 := HB_1.out.c8
 have d0_11 := HB_1.out.c11
 have d0_12 := HB_1.out.c12
 have d0_13 := HB_1.out.c13
 go_wp2_with fail
 refine (markPageRecord_own ⟨xaU, ⟨xaDe, xaDa, xaDc, xaDb⟩⟩ (k0 + (StPageRecord.size ⟨xbU, ⟨xbDe, xbDa, xbDc, xbDb⟩⟩)) _ (by omega) (by omega) (HO1_1.out)).mono ?_
 rintro e w2 ⟨rfl, ho, hk⟩
 have HB_2 := (show Hid (Blk w2 w.heap.size 42 [.int .i64 xkind, .int .i64 xtxn, .int .i64 xprev, .int .i64 xpage, .int .i64 xslot, .bool xbU, .slice xbDa xbDb.length xbDc, .bool xaU, .slice xaDa xaDb.length xaDc, .int .i64 xuN, .int .i64 xnT, .slice xtXa xtXn xtXc, .slice xdYa xdYn xdYc, .slice xiMa xiMb.length xiMc]) from HB_1.out.kept hk (fun e => by have := HLT.out _ ((FootL_append _ _ _).2 (.inr ((FootL_append _ _ _).2 (.inl e)))); omega))
 have HK_2 := (show Hid (Kept (FootL (StLogRecord.rows ⟨xkind, xtxn, xprev, xpage, xslot, ⟨xbU, ⟨xbDe, xbDa, xbDc, xbDb⟩⟩, ⟨xaU, ⟨xaDe, xaDa, xaDc, xaDb⟩⟩, xuN, xnT, ⟨xtXe, xtXa, xtXn, xtXc, xtXb⟩, ⟨xdYe, xdYa, xdYn, xdYc, xdYb⟩, ⟨xiMe, xiMa, xiMc, xiMb⟩⟩)) w w2) from HK_1.out.next hk (fun b _ e => (FootL_append _ _ _).2 (.inr ((FootL_append _ _ _).2 (.inl e)))))
 have HO0_2 := (show Hid (OwnL w2 (StPageRecord.marked ⟨xbU, ⟨xbDe, xbDa, xbDc, xbDb⟩⟩ (k0)).rows) from (HO0_1.out).kept hk (fun b hb e => HP0_1.out b ((StPageRecord.foot_marked _ _ b).1 hb) e))
 have HO1_2 := (show Hid (OwnL w2 (StPageRecord.marked ⟨xaU, ⟨xaDe, xaDa, xaDc, xaDb⟩⟩ (k0 + (StPageRecord.size ⟨xbU, ⟨xbDe, xbDa, xbDc, xbDb⟩⟩))).rows) from ho)
 have HO2_2 := (show Hid (OwnL w2 [⟨xtXe, 4, .slice xtXa xtXn xtXc, xtXn, vals .i64 xtXb⟩]) from (HO2_1.out).kept hk (fun b hb e => HP1_2.out b e hb))
 have HO3_2 := (show Hid (OwnL w2 [⟨xdYe, 2, .slice xdYa xdYn xdYc, xdYn, vals .i64 xdYb⟩]) from (HO3_1.out).kept hk (fun b hb e => HP1_3.out b e hb))
 have HO4_2 := (show Hid (OwnL w2 [ints xiMe .u8 (.slice xiMa xiMb.length xiMc) xiMb]) from (HO4_1.out).kept hk (fun b hb e => HP1_4.out b e hb))
 clear ho hk HB_1 HK_1 HO0_1 HO1_1 HO2_1 HO3_1 HO4_1
 have hsz1 : StPageRecord.size ⟨xaU, ⟨xaDe, xaDa, xaDc, xaDb⟩⟩ = StPageRecord.size ⟨xaU, ⟨xaDe, xaDa, xaDc, xaDb⟩⟩ := rfl
 have d1_11 := HB_2.out.c11
 have d1_12 := HB_2.out.c12
 have d1_13 := HB_2.out.c13
 go_wp2_with fail
 refine (markTxnEntryS_own ⟨xtXe, xtXa, xtXn, xtXc, xtXb⟩ (k0 + (StPageRecord.size ⟨xbU, ⟨xbDe, xbDa, xbDc, xbDb⟩⟩) + (StPageRecord.size ⟨xaU, ⟨xaDe, xaDa, xaDc, xaDb⟩⟩)) _ (by omega) (by dsimp only; omega) (HO2_2.out)).mono ?_
 rintro e w3 ⟨rfl, ho, hk⟩
 have HB_3 := (show Hid (Blk w3 w.heap.size 42 [.int .i64 xkind, .int .i64 xtxn, .int .i64 xprev, .int .i64 xpage, .int .i64 xslot, .bool xbU, .slice xbDa xbDb.length xbDc, .bool xaU, .slice xaDa xaDb.length xaDc, .int .i64 xuN, .int .i64 xnT, .slice xtXa xtXn xtXc, .slice xdYa xdYn xdYc, .slice xiMa xiMb.length xiMc]) from HB_2.out.kept hk (fun e => by have := HLT.out _ ((FootL_append _ _ _).2 (.inr ((FootL_append _ _ _).2 (.inr ((FootL_append _ _ _).2 (.inl e)))))); omega))
 have HK_3 := (show Hid (Kept (FootL (StLogRecord.rows ⟨xkind, xtxn, xprev, xpage, xslot, ⟨xbU, ⟨xbDe, xbDa, xbDc, xbDb⟩⟩, ⟨xaU, ⟨xaDe, xaDa, xaDc, xaDb⟩⟩, xuN, xnT, ⟨xtXe, xtXa, xtXn, xtXc, xtXb⟩, ⟨xdYe, xdYa, xdYn, xdYc, xdYb⟩, ⟨xiMe, xiMa, xiMc, xiMb⟩⟩)) w w3) from HK_2.out.next hk (fun b _ e => (FootL_append _ _ _).2 (.inr ((FootL_append _ _ _).2 (.inr ((FootL_append _ _ _).2 (.inl e)))))))
 have HO0_3 := (show Hid (OwnL w3 (StPageRecord.marked ⟨xbU, ⟨xbDe, xbDa, xbDc, xbDb⟩⟩ (k0)).rows) from (HO0_2.out).kept hk (fun b hb e => HP0_2.out b ((StPageRecord.foot_marked _ _ b).1 hb) e))
 have HO1_3 := (show Hid (OwnL w3 (StPageRecord.marked ⟨xaU, ⟨xaDe, xaDa, xaDc, xaDb⟩⟩ (k0 + (StPageRecord.size ⟨xbU, ⟨xbDe, xbDa, xbDc, xbDb⟩⟩))).rows) from (HO1_2.out).kept hk (fun b hb e => HP1_2.out b ((StPageRecord.foot_marked _ _ b).1 hb) e))
 have HO2_3 := (show Hid (OwnL w3 (FR.rows 4 (FR.marked ⟨xtXe, xtXa, xtXn, xtXc, xtXb⟩ (k0 + (StPageRecord.size ⟨xbU, ⟨xbDe, xbDa, xbDc, xbDb⟩⟩) + (StPageRecord.size ⟨xaU, ⟨xaDe, xaDa, xaDc, xaDb⟩⟩))))) from ho)
 have HO3_3 := (show Hid (OwnL w3 [⟨xdYe, 2, .slice xdYa xdYn xdYc, xdYn, vals .i64 xdYb⟩]) from (HO3_2.out).kept hk (fun b hb e => HP2_3.out b e hb))
 have HO4_3 := (show Hid (OwnL w3 [ints xiMe .u8 (.slice xiMa xiMb.length xiMc) xiMb]) from (HO4_2.out).kept hk (fun b hb e => HP2_4.out b e hb))
 clear ho hk HB_2 HK_2 HO0_2 HO1_2 HO2_2 HO3_2 HO4_2
 have d2_12 := HB_3.out.c12
 have d2_13 := HB_3.out.c13
 go_wp2_with fail
 refine (markDirtyEntryS_own ⟨xdYe, xdYa, xdYn, xdYc, xdYb⟩ (k0 + (StPageRecord.size ⟨xbU, ⟨xbDe, xbDa, xbDc, xbDb⟩⟩) + (StPageRecord.size ⟨xaU, ⟨xaDe, xaDa, xaDc, xaDb⟩⟩) + (xtXb.length : Int)) _ (by omega) (by dsimp only; omega) (HO3_3.out)).mono ?_
 rintro e w4 ⟨rfl, ho, hk⟩
 have HB_4 := (show Hid (Blk w4 w.heap.size 42 [.int .i64 xkind, .int .i64 xtxn, .int .i64 xprev, .int .i64 xpage, .int .i64 xslot, .bool xbU, .slice xbDa xbDb.length xbDc, .bool xaU, .slice xaDa xaDb.length xaDc, .int .i64 xuN, .int .i64 xnT, .slice xtXa xtXn xtXc, .slice xdYa xdYn xdYc, .slice xiMa xiMb.length xiMc]) from HB_3.out.kept hk (fun e => by have := HLT.out _ ((FootL_append _ _ _).2 (.inr ((FootL_append _ _ _).2 (.inr ((FootL_append _ _ _).2 (.inr ((FootL_append _ _ _).2 (.inl e)))))))); omega))
 have HK_4 := (show Hid (Kept (FootL (StLogRecord.rows ⟨xkind, xtxn, xprev, xpage, xslot, ⟨xbU, ⟨xbDe, xbDa, xbDc, xbDb⟩⟩, ⟨xaU, ⟨xaDe, xaDa, xaDc, xaDb⟩⟩, xuN, xnT, ⟨xtXe, xtXa, xtXn, xtXc, xtXb⟩, ⟨xdYe, xdYa, xdYn, xdYc, xdYb⟩, ⟨xiMe, xiMa, xiMc, xiMb⟩⟩)) w w4) from HK_3.out.next hk (fun b _ e => (FootL_append _ _ _).2 (.inr ((FootL_append _ _ _).2 (.inr ((FootL_append _ _ _).2 (.inr ((FootL_append _ _ _).2 (.inl e)))))))))
 have HO0_4 := (show Hid (OwnL w4 (StPageRecord.marked ⟨xbU, ⟨xbDe, xbDa, xbDc, xbDb⟩⟩ (k0)).rows) from (HO0_3.out).kept hk (fun b hb e => HP0_3.out b ((StPageRecord.foot_marked _ _ b).1 hb) e))
 have HO1_4 := (show Hid (OwnL w4 (StPageRecord.marked ⟨xaU, ⟨xaDe, xaDa, xaDc, xaDb⟩⟩ (k0 + (StPageRecord.size ⟨xbU, ⟨xbDe, xbDa, xbDc, xbDb⟩⟩))).rows) from (HO1_3.out).kept hk (fun b hb e => HP1_3.out b ((StPageRecord.foot_marked _ _ b).1 hb) e))
 have HO2_4 := (show Hid (OwnL w4 (FR.rows 4 (FR.marked ⟨xtXe, xtXa, xtXn, xtXc, xtXb⟩ (k0 + (StPageRecord.size ⟨xbU, ⟨xbDe, xbDa, xbDc, xbDb⟩⟩) + (StPageRecord.size ⟨xaU, ⟨xaDe, xaDa, xaDc, xaDb⟩⟩))))) from (HO2_3.out).kept hk (fun b hb e => HP2_3.out b ((FR.foot_marked 4 _ _ b).1 hb) e))
 have HO3_4 := (show Hid (OwnL w4 (FR.rows 2 (FR.marked ⟨xdYe, xdYa, xdYn, xdYc, xdYb⟩ (k0 + (StPageRecord.size ⟨xbU, ⟨xbDe, xbDa, xbDc, xbDb⟩⟩) + (StPageRecord.size ⟨xaU, ⟨xaDe, xaDa, xaDc, xaDb⟩⟩) + (xtXb.length : Int))))) from ho)
 have HO4_4 := (show Hid (OwnL w4 [ints xiMe .u8 (.slice xiMa xiMb.length xiMc) xiMb]) from (HO4_3.out).kept hk (fun b hb e => HP3_4.out b e hb))
 clear ho hk HB_3 HK_3 HO0_3 HO1_3 HO2_3 HO3_3 HO4_3
 have d3_13 := HB_4.out.c13
 go_wp2_with fail
 refine (markByteS_own 0 _ xiMb (k0 + (StPageRecord.size ⟨xbU, ⟨xbDe, xbDa, xbDc, xbDb⟩⟩) + (StPageRecord.size ⟨xaU, ⟨xaDe, xaDa, xaDc, xaDb⟩⟩) + (xtXb.length : Int) + (xdYb.length : Int)) _ (by omega) (by omega) (by omega) (OwnL.of_one (HO4_4.out))).mono ?_
 rintro e w5 ⟨rfl, ho, hk⟩
 have ho := (show OwnL w5 (BS.rows (BS.marked ⟨xiMe, xiMa, xiMc, xiMb⟩ (k0 + (StPageRecord.size ⟨xbU, ⟨xbDe, xbDa, xbDc, xbDb⟩⟩) + (StPageRecord.size ⟨xaU, ⟨xaDe, xaDa, xaDc, xaDb⟩⟩) + (xtXb.length : Int) + (xdYb.length : Int)))) from BS.own_marked.2 (OwnL.one ho))
 have hk : Kept (FootL [ints xiMe .u8 (.slice xiMa xiMb.length xiMc) xiMb]) _ w5 := hk.mono (fun b _ e => (footL_ints _ _ _ _ _).2 e)
 have HB_5 := (show Hid (Blk w5 w.heap.size 42 [.int .i64 xkind, .int .i64 xtxn, .int .i64 xprev, .int .i64 xpage, .int .i64 xslot, .bool xbU, .slice xbDa xbDb.length xbDc, .bool xaU, .slice xaDa xaDb.length xaDc, .int .i64 xuN, .int .i64 xnT, .slice xtXa xtXn xtXc, .slice xdYa xdYn xdYc, .slice xiMa xiMb.length xiMc]) from HB_4.out.kept hk (fun e => by have := HLT.out _ ((FootL_append _ _ _).2 (.inr ((FootL_append _ _ _).2 (.inr ((FootL_append _ _ _).2 (.inr ((FootL_append _ _ _).2 (.inr (e))))))))); omega))
 have HK_5 := (show Hid (Kept (FootL (StLogRecord.rows ⟨xkind, xtxn, xprev, xpage, xslot, ⟨xbU, ⟨xbDe, xbDa, xbDc, xbDb⟩⟩, ⟨xaU, ⟨xaDe, xaDa, xaDc, xaDb⟩⟩, xuN, xnT, ⟨xtXe, xtXa, xtXn, xtXc, xtXb⟩, ⟨xdYe, xdYa, xdYn, xdYc, xdYb⟩, ⟨xiMe, xiMa, xiMc, xiMb⟩⟩)) w w5) from HK_4.out.next hk (fun b _ e => (FootL_append _ _ _).2 (.inr ((FootL_append _ _ _).2 (.inr ((FootL_append _ _ _).2 (.inr ((FootL_append _ _ _).2 (.inr (e))))))))))
 have HO0_5 := (show Hid (OwnL w5 (StPageRecord.marked ⟨xbU, ⟨xbDe, xbDa, xbDc, xbDb⟩⟩ (k0)).rows) from (HO0_4.out).kept hk (fun b hb e => HP0_4.out b ((StPageRecord.foot_marked _ _ b).1 hb) e))
 have HO1_5 := (show Hid (OwnL w5 (StPageRecord.marked ⟨xaU, ⟨xaDe, xaDa, xaDc, xaDb⟩⟩ (k0 + (StPageRecord.size ⟨xbU, ⟨xbDe, xbDa, xbDc, xbDb⟩⟩))).rows) from (HO1_4.out).kept hk (fun b hb e => HP1_4.out b ((StPageRecord.foot_marked _ _ b).1 hb) e))
 have HO2_5 := (show Hid (OwnL w5 (FR.rows 4 (FR.marked ⟨xtXe, xtXa, xtXn, xtXc, xtXb⟩ (k0 + (StPageRecord.size ⟨xbU, ⟨xbDe, xbDa, xbDc, xbDb⟩⟩) + (StPageRecord.size ⟨xaU, ⟨xaDe, xaDa, xaDc, xaDb⟩⟩))))) from (HO2_4.out).kept hk (fun b hb e => HP2_4.out b ((FR.foot_marked 4 _ _ b).1 hb) e))
 have HO3_5 := (show Hid (OwnL w5 (FR.rows 2 (FR.marked ⟨xdYe, xdYa, xdYn, xdYc, xdYb⟩ (k0 + (StPageRecord.size ⟨xbU, ⟨xbDe, xbDa, xbDc, xbDb⟩⟩) + (StPageRecord.size ⟨xaU, ⟨xaDe, xaDa, xaDc, xaDb⟩⟩) + (xtXb.length : Int))))) from (HO3_4.out).kept hk (fun b hb e => HP3_4.out b ((FR.foot_marked 2 _ _ b).1 hb) e))
 have HO4_5 := (show Hid (OwnL w5 (BS.rows (BS.marked ⟨xiMe, xiMa, xiMc, xiMb⟩ (k0 + (StPageRecord.size ⟨xbU, ⟨xbDe, xbDa, xbDc, xbDb⟩⟩) + (StPageRecord.size ⟨xaU, ⟨xaDe, xaDa, xaDc, xaDb⟩⟩) + (xtXb.length : Int) + (xdYb.length : Int))))) from ho)
 clear ho hk HB_4 HK_4 HO0_4 HO1_4 HO2_4 HO3_4 HO4_4
 go_wp2
 go_ret
 refine ⟨by first | rfl | (refine ret_int ?_; simp only [StLogRecord.size]; omega), ?_, HK_5.out⟩
 exact (HO0_5.out).append ((HO1_5.out).append ((HO2_5.out).append ((HO3_5.out).append (HO4_5.out) (fun b hb e => HP3_4.out b ((FR.foot_marked 2 _ _ b).1 hb) ((BS.foot_marked _ _ b).1 e))) (fun b hb e => ((FootL_append _ _ _).1 e).elim (fun e3 => HP2_3.out b ((FR.foot_marked 4 _ _ b).1 hb) ((FR.foot_marked 2 _ _ b).1 e3)) (fun e3 => HP2_4.out b ((FR.foot_marked 4 _ _ b).1 hb) ((BS.foot_marked _ _ b).1 e3)))) (fun b hb e => ((FootL_append _ _ _).1 e).elim (fun e2 => HP1_2.out b ((StPageRecord.foot_marked _ _ b).1 hb) ((FR.foot_marked 4 _ _ b).1 e2)) (fun e2 => ((FootL_append _ _ _).1 e2).elim (fun e3 => HP1_3.out b ((StPageRecord.foot_marked _ _ b).1 hb) ((FR.foot_marked 2 _ _ b).1 e3)) (fun e3 => HP1_4.out b ((StPageRecord.foot_marked _ _ b).1 hb) ((BS.foot_marked _ _ b).1 e3))))) (fun b hb e => ((FootL_append _ _ _).1 e).elim (fun e1 => HP0_1.out b ((StPageRecord.foot_marked _ _ b).1 hb) ((StPageRecord.foot_marked _ _ b).1 e1)) (fun e1 => ((FootL_append _ _ _).1 e1).elim (fun e2 => HP0_2.out b ((StPageRecord.foot_marked _ _ b).1 hb) ((FR.foot_marked 4 _ _ b).1 e2)) (fun e2 => ((FootL_append _ _ _).1 e2).elim (fun e3 => HP0_3.out b ((StPageRecord.foot_marked _ _ b).1 hb) ((FR.foot_marked 2 _ _ b).1 e3)) (fun e3 => HP0_4.out b ((StPageRecord.foot_marked _ _ b).1 hb) ((BS.foot_marked _ _ b).1 e3)))))
theorem appD_small {y : StAppendResult} {x : StLog} {r : StLogRecord} (h : y.dat = appD x.dat r.dat) (hx : x.szs ≤ 1048576) : y.size ≤ 1099511627776 := by
 have e : y.log.tail.bs = (appD x.dat r.dat).2.2.2.2.2.2 := by rw [← h]; rfl
 have hx' : (x.tail.bs.length : Int) ≤ 1048576 := hx
 show (y.log.tail.bs.length : Int) ≤ 1099511627776
 rw [e]
 unfold appD
 split
 ·have h2 := frFd_length x.stop x.epoch r.dat
  show ((x.tail.bs ++ frFd x.stop x.epoch r.dat).length : Int) ≤ 1099511627776
  rw [List.length_append]
  omega
 ·simp
def SameP (w0 w : World) : Prop := Same w0 w
theorem SameP.same {w0 w w' : World} (h : SameP w0 w) (hk : Same w w') : SameP w0 w' := Kept.trans h hk
def ARes (w0 w' : World) (D : Int × Int × (Int × Int × Int × Int × List Int)) (v : Value) : Prop :=
 ∃ (y : StAppendResult) (B : Nat), v = .pointer (some ⟨B, 0, none⟩) ∧ w0.heap.size ≤ B ∧ B < w'.heap.size ∧ Blk w' B 35 [.int .i64 y.code, .int .i64 y.lsn, .int .i64 y.log.sectors, .int .i64 y.log.epoch, .int .i64 y.log.stop, .int .i64 y.log.flushed, .slice y.log.tail.a y.log.tail.bs.length y.log.tail.c] ∧ y.dat = D ∧ (∀ b, FootL y.rows b → w0.heap.size ≤ b ∧ b ≠ B) ∧ OwnL w' y.rows ∧ Same w0 w'
theorem Wm {P Q : Prop} {rows : List Row} {u v : World} (h : P ∧ OwnL u rows ∧ Q) (hk : Same u v) : P ∧ OwnL v rows ∧ Q := ⟨h.1, h.2.1.same hk, h.2.2⟩
theorem Cm {P Q : Prop} {rows : List Row} {u v : World} (h : P ∧ Q ∧ OwnL u rows) (hk : Same u v) : P ∧ Q ∧ OwnL v rows := ⟨h.1, h.2.1, h.2.2.same hk⟩
structure Bx (c0 wx : World) (A B : Nat) (av bv : List Value) : Prop where
 a : Blk wx A 24 av
 b : Blk wx B 30 bv
 kept : Same c0 wx
theorem Bx.same {c0 wx wy : World} {A B : Nat} {av bv : List Value} (h : Bx c0 wx A B av bv) (hk : Same wx wy) : Bx c0 wy A B av bv := ⟨h.a.same hk, h.b.same hk, h.kept.trans hk⟩
theorem Bx.s {c0 wx : World} {A B : Nat} {a0 a1 a2 a3 a4 b0 b1 b2 b3 b4 b5 b6 b7 b8 b9 b10 b11 b12 b13 : Value} (h : Bx c0 wx A B [a0, a1, a2, a3, a4] [b0, b1, b2, b3, b4, b5, b6, b7, b8, b9, b10, b11, b12, b13]) : wx.cell? ⟨A, 0, none⟩ = some a0 ∧ wx.cell? ⟨A, 1, none⟩ = some a1 ∧ wx.cell? ⟨A, 2, none⟩ = some a2 ∧ wx.cell? ⟨A, 3, none⟩ = some a3 ∧ wx.cell? ⟨A, 4, none⟩ = some a4 ∧ wx.cell? ⟨B, 0, none⟩ = some b0 ∧ wx.cell? ⟨B, 1, none⟩ = some b1 ∧ wx.cell? ⟨B, 2, none⟩ = some b2 ∧ wx.cell? ⟨B, 3, none⟩ = some b3 ∧ wx.cell? ⟨B, 4, none⟩ = some b4 ∧ wx.cell? ⟨B, 5, none⟩ = some b5 ∧ wx.cell? ⟨B, 6, none⟩ = some b6 ∧ wx.cell? ⟨B, 7, none⟩ = some b7 ∧ wx.cell? ⟨B, 8, none⟩ = some b8 ∧ wx.cell? ⟨B, 9, none⟩ = some b9 ∧ wx.cell? ⟨B, 10, none⟩ = some b10 ∧ wx.cell? ⟨B, 11, none⟩ = some b11 ∧ wx.cell? ⟨B, 12, none⟩ = some b12 ∧ wx.cell? ⟨B, 13, none⟩ = some b13 := ⟨h.a.cell 0, h.a.cell 1, h.a.cell 2, h.a.cell 3, h.a.cell 4, h.b.cell 0, h.b.cell 1, h.b.cell 2, h.b.cell 3, h.b.cell 4, h.b.cell 5, h.b.cell 6, h.b.cell 7, h.b.cell 8, h.b.cell 9, h.b.cell 10, h.b.cell 11, h.b.cell 12, h.b.cell 13⟩
theorem ARes.put {c0 w : World} {B : Nat} {D : Int × Int × (Int × Int × Int × Int × List Int)} {z0 z1 z2 z3 z4 z5 z6 : Value} {y : StAppendResult} (hk : Same c0 w) (hz : Blk w B 35 [z0, z1, z2, z3, z4, z5, z6]) (hB : c0.heap.size ≤ B) (hd : y.dat = D) (ho : OwnL w y.rows) (hf : ∀ b, FootL y.rows b → c0.heap.size ≤ b) (hn : ∀ b, FootL y.rows b → b ≠ B) :
  ARes c0 (((((((w.setCell ⟨B, 0, none⟩ (.int .i64 y.code)).setCell ⟨B, 1, none⟩ (.int .i64 y.lsn)).setCell ⟨B, 2, none⟩ (.int .i64 y.log.sectors)).setCell ⟨B, 3, none⟩ (.int .i64 y.log.epoch)).setCell ⟨B, 4, none⟩ (.int .i64 y.log.stop)).setCell ⟨B, 5, none⟩ (.int .i64 y.log.flushed)).setCell ⟨B, 6, none⟩ (.slice y.log.tail.a y.log.tail.bs.length y.log.tail.c)) D (.pointer (some ⟨B, 0, none⟩)) := by
 have hk6 : Kept (fun b => b = B) w (((((((w.setCell ⟨B, 0, none⟩ (.int .i64 y.code)).setCell ⟨B, 1, none⟩ (.int .i64 y.lsn)).setCell ⟨B, 2, none⟩ (.int .i64 y.log.sectors)).setCell ⟨B, 3, none⟩ (.int .i64 y.log.epoch)).setCell ⟨B, 4, none⟩ (.int .i64 y.log.stop)).setCell ⟨B, 5, none⟩ (.int .i64 y.log.flushed)).setCell ⟨B, 6, none⟩ (.slice y.log.tail.a y.log.tail.bs.length y.log.tail.c)) :=
  (((((((Kept.refl (fun b => b = B) w).setCell (p := ⟨B, 0, none⟩) (.inr rfl) _).setCell (p := ⟨B, 1, none⟩) (.inr rfl) _).setCell (p := ⟨B, 2, none⟩) (.inr rfl) _).setCell (p := ⟨B, 3, none⟩) (.inr rfl) _).setCell (p := ⟨B, 4, none⟩) (.inr rfl) _).setCell (p := ⟨B, 5, none⟩) (.inr rfl) _).setCell (p := ⟨B, 6, none⟩) (.inr rfl) _
 have hB6 := ((((((hz.stored 0 (.int .i64 y.code)).stored 1 (.int .i64 y.lsn)).stored 2 (.int .i64 y.log.sectors)).stored 3 (.int .i64 y.log.epoch)).stored 4 (.int .i64 y.log.stop)).stored 5 (.int .i64 y.log.flushed)).stored 6 (.slice y.log.tail.a y.log.tail.bs.length y.log.tail.c)
 exact ⟨y, B, rfl, hB, hB6.lt, hB6, hd, fun b hb => ⟨hf b hb, hn b hb⟩, ho.kept hk6 (fun b hb e => hn b hb e), Kept.next hk hk6 (fun j hj e => by omega)⟩
theorem st7_any {P : Program} {ops : Array Oper} {o : Oper} {a : Act} {w : World} {K : Act → World → Prop} {Q : Exit → Act → World → Prop} {E : Prop} (hgd : o.guard = none) (ty : TypeId) (x y : Operand) (ho : o.op = .store ty x y) (b : Nat) (c0 c1 c2 c3 c4 c5 c6 : Value) {e : TypeId} {z0 z1 z2 z3 z4 z5 z6 : Value} (hz : Blk w b e [z0, z1, z2, z3, z4, z5, z6])
  (hx : a.eval x = .pointer (some ⟨b, 0, none⟩)) (hy : a.eval y = .agg #[c0, c1, c2, c3, c4, c5, c6]) (hi : (P.info? ty).map (·.size) = some 7) (h1 : (#[c0, c1, c2, c3, c4, c5, c6] : Array Value).all (·.oneCell') = true)
  (h : K (a.put o.dst undef) (((((((w.setCell ⟨b, 0, none⟩ c0).setCell ⟨b, 1, none⟩ c1).setCell ⟨b, 2, none⟩ c2).setCell ⟨b, 3, none⟩ c3).setCell ⟨b, 4, none⟩ c4).setCell ⟨b, 5, none⟩ c5).setCell ⟨b, 6, none⟩ c6)) :
  if Region.wanted o (yielded ops a.tmps) = true then Oper.wp P o a w K Q else E := by
 have hw : Region.wanted o (yielded ops a.tmps) = true := by simp [Region.wanted, hgd]
 rw [if_pos hw]
 refine wp_store_mid ty x y ho b 0 #[c0, c1, c2, c3, c4, c5, c6] hx hy (fun j hj => ?_) hi h1 h
 refine ⟨?_, hz.frozen _⟩
 rw [Nat.zero_add]
 have hj' : j < 7 := hj
 rcases (by omega : j = 0 ∨ j = 1 ∨ j = 2 ∨ j = 3 ∨ j = 4 ∨ j = 5 ∨ j = 6) with rfl | rfl | rfl | rfl | rfl | rfl | rfl
 ·rw [hz.cell 0]; rfl
 ·rw [hz.cell 1]; rfl
 ·rw [hz.cell 2]; rfl
 ·rw [hz.cell 3]; rfl
 ·rw [hz.cell 4]; rfl
 ·rw [hz.cell 5]; rfl
 ·rw [hz.cell 6]; rfl
end Go.Proofs.YtkdohacgkjpopaaGreat
