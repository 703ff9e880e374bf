import Derived.Test.YtelijknekfipfaaG15
import Derived.Test.YtelijknekfipfaaG01
namespace Go.Proofs.Ytelijknekfipfaa
set_option maxRecDepth 100000
set_option maxHeartbeats 16000000
set_option linter.unusedVariables false
set_option linter.unusedSimpArgs false
open Go.RowKit
theorem fnLocks_walk (v : Value) (cs : List Int) (w : World) (hv : Rd .u8 w v cs) (hb : IsB cs) :
  Calls Try.prog 3 #[v] w fun e w' => e = .returned (.bool true) ∧ Same w w' := by
 obtain ⟨a, c, rfl⟩ := hv.form
 have hmax : cs.length ≤ maxLen := hv.1
 unfold maxLen at hmax
 by_cases hbig : 1048576 < cs.length
 ·have hb' : (1048576 : Int) < (cs.length : Int) := by omega
  go_enter Try.func3, Try.ntmps3
  go_wp2
  go_ret
  exact ⟨rfl, Kept.refl _ _⟩
 have hb' : ¬ (1048576 : Int) < (cs.length : Int) := by omega
 obtain ⟨i0, hi, hz0, hz1, hz2⟩ := info_parts Try.infoI64
 have HV := hid hv
 have HBc := hid hb
 have lw := fun wx (hk : Same w wx) (k : Nat) (n : Int) (h1 : k ≤ 1048576) (h2 : IsI n) => lwAt_any (.slice a cs.length c) cs k n wx hb (by omega) h1 h2 (hv.same hk)
 clear hv hb
 have HO0 := hid (FR.own_nil (m := 3) (e := 51) w)
 go_enter Try.func3, Try.ntmps3
 go_wp2_with (at_make; go_loud (refine wpList_make_full _ rfl (.const (.int .i64 40)) (.const (.int .i64 40)) 24 rfl 0 2 i0 (.int .i64 0) 1 Try.underlying24 hi hz0 hz1 .i64 .i64 40 40 40 rfl rfl rfl rfl (by rw [hz2]; decide) (by unfold maxLen; decide) (Nat.zero_le _) ?_); intro w1 hown1 hg1; have HM1 := (show Hid (Own 0 2 .i64 w1 (.slice (some ⟨w.heap.size + 1, 0, none⟩) 40 40) (List.replicate 40 0)) from (by have h := own_made hown1; (try rw [World.size_alloc] at h); exact h)); have HK1 := (show Hid (Same (w.alloc (.cells #[] 51)) w1) from Kept.of_grown hg1 (fun k e => by cases e)); clear hown1 hg1)
 have HKw1 := (show Hid (Same w w1) from ((Kept.refl _ _).alloc _).trans HK1.out)
 have HL1 := (show Hid (OwnL w1 (FR.rows 3 ⟨51, some ⟨w.heap.size, 0, none⟩, 0, 0, []⟩)) from (ownF_none 51 w).out.kept HK1.out (fun _ _ => id))
 have hz1' : w.heap.size + 1 < w1.heap.size := (HM1.out.lt _ rfl).2
 go_loopw [3, 5] (fun l i wr => ∃ (k : Nat) (ye : TypeId) (ya : Option Addr) (yn yc : Nat) (yb ms : List Int), k ≤ 40 ∧ l = .slice ya yn yc ∧ i = .int .i64 k ∧ Hid (LkPure (tri yb) ms k) ∧ Hid (OwnL wr (FR.rows 3 ⟨ye, ya, yn, yc, yb⟩)) ∧ Hid (∀ b, FootL (FR.rows 3 ⟨ye, ya, yn, yc, yb⟩) b → w.heap.size ≤ b ∧ b ≠ w.heap.size + 1) ∧ Hid (Own 0 2 .i64 wr (.slice (some ⟨w.heap.size + 1, 0, none⟩) 40 40) ms) ∧ Hid (Same w wr)) (fun _ i _ => 40 - (Go.RowKit.intOf i).toNat)
 case atStart => exact ⟨0, 51, some ⟨w.heap.size, 0, none⟩, 0, 0, [], List.replicate 40 0, by omega, rfl, rfl, LkPure.start, HL1, fun b hb => by have := FootL_fr hb; omega, HM1, HKw1⟩
 case round =>
  obtain ⟨k, ye, ya, yn, yc, yb, ms, hk, rfl, rfl, HP, HO, HF, HM, HK⟩ := hrel
  by_cases hk40 : k < 40
  case neg =>
   go_wp2
   go_ret
   exact ⟨rfl, HK.out⟩
  have hki : (k : Int) < 40 := by omega
  have q1 : IntKind.i64.wrap (3 * (k : Int)) = 3 * (k : Int) := by rw [IntKind.wrap_i64]; omega
  have q2 : IntKind.i64.wrap (3 * (k : Int) + 1) = 3 * (k : Int) + 1 := by rw [IntKind.wrap_i64]; omega
  have q3 : IntKind.i64.wrap (3 * (k : Int) + 2) = 3 * (k : Int) + 2 := by rw [IntKind.wrap_i64]; omega
  have l1 : ∀ wx, Same w wx → Calls Try.prog 9 #[.slice a cs.length c, .int .i64 (3 * (k : Int)), .int .i64 4] wx fun e w' => ∃ r, e = .returned (.int .i64 r) ∧ AtR 4 r ∧ Same wx w' := fun wx hk => by
   have h := lw wx hk (3 * k) 4 (by omega) (by constructor <;> decide)
   rwa [show ((3 * k : Nat) : Int) = 3 * (k : Int) from by omega] at h
  have l2 : ∀ wx, Same w wx → Calls Try.prog 9 #[.slice a cs.length c, .int .i64 (3 * (k : Int) + 1), .int .i64 8] wx fun e w' => ∃ r, e = .returned (.int .i64 r) ∧ AtR 8 r ∧ Same wx w' := fun wx hk => by
   have h := lw wx hk (3 * k + 1) 8 (by omega) (by constructor <;> decide)
   rwa [show ((3 * k + 1 : Nat) : Int) = 3 * (k : Int) + 1 from by omega] at h
  have l3 : ∀ wx, Same w wx → Calls Try.prog 9 #[.slice a cs.length c, .int .i64 (3 * (k : Int) + 2), .int .i64 7] wx fun e w' => ∃ r, e = .returned (.int .i64 r) ∧ AtR 7 r ∧ Same wx w' := fun wx hk => by
   have h := lw wx hk (3 * k + 2) 7 (by omega) (by constructor <;> decide)
   rwa [show ((3 * k + 2 : Nat) : Int) = 3 * (k : Int) + 2 from by omega] at h
  have l4 : ∀ wx, Same w wx → Calls Try.prog 9 #[.slice a cs.length c, .int .i64 (3 * (k : Int) + 2), .int .i64 2] wx fun e w' => ∃ r, e = .returned (.int .i64 r) ∧ AtR 2 r ∧ Same wx w' := fun wx hk => by
   have h := lw wx hk (3 * k + 2) 2 (by omega) (by constructor <;> decide)
   rwa [show ((3 * k + 2 : Nat) : Int) = 3 * (k : Int) + 2 from by omega] at h
  clear lw
  go_wp2_with fail
  refine (l1 _ HK.out).mono ?_
  rintro e w2 ⟨r1, rfl, hr1, hk2⟩
  have HK2 := (show Hid (Same wr w2) from hk2)
  obtain ⟨hr1a, hr1b⟩ := hr1.2 (by decide)
  obtain ⟨T, hT⟩ : ∃ T : Nat, 1 + r1 = (T : Int) := ⟨(1 + r1).toNat, by omega⟩
  have qT : IntKind.i64.wrap (1 + r1) = (T : Int) := by rw [IntKind.wrap_i64]; omega
  have hT1 : 1 ≤ T ∧ T ≤ 4 := by omega
  clear hr1 hk2 l1
  go_wp2_with fail
  refine (l2 _ (HK.out.trans HK2.out)).mono ?_
  rintro e w3 ⟨r2, rfl, hr2, hk3⟩
  have HK3 := hid (HK2.out.trans hk3)
  obtain ⟨hr2a, hr2b⟩ := hr2.2 (by decide)
  obtain ⟨I, rfl⟩ : ∃ I : Nat, r2 = (I : Int) := ⟨r2.toNat, by omega⟩
  have hI7 : I ≤ 7 := by omega
  clear hr2 hk3 l2
  go_wp2_with fail
  refine (l3 _ (HK.out.trans HK3.out)).mono ?_
  rintro e w4 ⟨r3, rfl, hr3, hk4⟩
  have HK4 := hid (HK3.out.trans hk4)
  obtain ⟨hr3a, hr3b⟩ := hr3.2 (by decide)
  clear hr3 hk4 l3 HK3 HK2 hT hr1a hr1b hr2a hr2b qT
  have hx1 : IntKind.i64.wrap ((T : Int) * 8) = (T : Int) * 8 := by rw [IntKind.wrap_i64]; omega
  have HO4 := hid (HO.out.kept HK4.out (fun _ _ => id))
  have HM4 := hid (HM.out.same HK4.out)
  have HKw4 := hid (HK.out.trans HK4.out)
  have hz4 := HKw4.out.size
  by_cases hfr : r3 = 0
  ·subst hfr
   have k5 := implLockFree_any ⟨ye, ya, yn, yc, yb⟩ (T : Int) w4 (FR.own_rd HO4.out)
   dsimp only [FR.v] at k5
   go_wp2_with fail
   refine k5.mono ?_
   rintro e w5 ⟨⟨cd, ze, za, zn, zc, zb⟩, rfl, hd, hf, ho, hk5⟩
   have hfp : freeP (tri yb) (T : Int) = (0, flat3 ((tri yb).filter (fun l => decide (l.2.1 ≠ (T : Int))))) := if_pos ((goodL_iff _).2 HP.out.good)
   rw [hfp] at hd
   simp only [StLockResult.dat, Prod.mk.injEq] at hd
   obtain ⟨rfl, rfl⟩ := hd
   dsimp only [StLockResult.val, FR.v]
   have HO5 := (show Hid (OwnL w5 (FR.rows 3 ⟨ze, za, zn, zc, flat3 ((tri yb).filter (fun l => decide (l.2.1 ≠ (T : Int))))⟩)) from ho)
   have hlm : w.heap.size + 1 < w4.heap.size := (HM4.out.lt _ rfl).2
   have HF5 := (show Hid (∀ b, FootL (FR.rows 3 ⟨ze, za, zn, zc, flat3 ((tri yb).filter (fun l => decide (l.2.1 ≠ (T : Int))))⟩) b → w.heap.size ≤ b ∧ b ≠ w.heap.size + 1) from fun b hb => by have := hf b hb; omega)
   have HM5 := hid (HM4.out.same hk5)
   have HKw5 := hid (HKw4.out.trans hk5)
   clear hf ho hk5 k5 hfp
   have hfd : ∀ w : World, (Instr.field 27 (.agg #[.int .i64 0, .slice za zn zc]) 1).run Try.prog w = .ok (.slice za zn zc) w := fun _ => by kernel_rfl
   go_wp2_with fail
   go_loopw [8] (fun j wx => ∃ (n : Nat) (ms' : List Int), n ≤ 8 ∧ j = .int .i64 n ∧ Hid (clearR T n ms ms') ∧ Hid (Own 0 2 .i64 wx (.slice (some ⟨w.heap.size + 1, 0, none⟩) 40 40) ms') ∧ Hid (Kept (fun b => b = w.heap.size + 1) w5 wx)) (fun j _ => 8 - (Go.RowKit.intOf j).toNat)
   case atStart => exact ⟨0, ms, by omega, rfl, clearR.zero HP.out.mlen, HM5, Kept.refl _ _⟩
   case round =>
    obtain ⟨n, ms', hn, rfl, HC, HMx, HKx⟩ := hrel
    by_cases hn8 : n < 8
    ·have hni : (n : Int) < 8 := by omega
     have hx2 : IntKind.i64.wrap ((T : Int) * 8 + (n : Int)) = ((T * 8 + n : Nat) : Int) := by rw [IntKind.wrap_i64]; omega
     obtain ⟨J, hJ⟩ : ∃ J, T * 8 + n = J := ⟨_, rfl⟩
     have HJ := hid hJ
     rw [hJ] at hx2
     have hJ40 : (J : Int) < 40 := by omega
     have hJ0 : (0 : Int) ≤ (J : Int) := by omega
     have hml : ms'.length = 40 := HC.out.1
     have d0 : wr.cell? ⟨w.heap.size + 1, J, none⟩ = some (.int .i64 (ms'.getD J 0)) := HMx.out.cell hml.symm J (by omega)
     have f0 : wr.frozen? ⟨w.heap.size + 1, J, none⟩ = false := HMx.out.frozen hml.symm J
     clear hJ
     go_wp2
     go_roundw
     case rel => exact ⟨n + 1, ms'.set J 0, by omega, by go_num, by unfold Hid; have h := HC.out.step (k := n) (by have := HJ.out; omega); rw [HJ.out] at h; exact h, HMx.out.stored hml.symm J 0, Kept.setCell HKx.out (p := ⟨w.heap.size + 1, J, none⟩) (.inr rfl) _⟩
     case measure => simp [Go.RowKit.intOf]; omega
    ·obtain rfl : n = 8 := by omega
     obtain ⟨w9, hw9⟩ : ∃ x, x = wr := ⟨_, rfl⟩
     subst hw9
     have HP9 := hid (HP.out.free HC.out)
     have HO9 := (show Hid (OwnL w9 (FR.rows 3 ⟨ze, za, zn, zc, flat3 ((tri yb).filter (fun l => decide (l.2.1 ≠ (T : Int))))⟩)) from HO5.out.kept HKx.out (fun b hb e => (HF5.out b hb).2 e))
     have HF9 := (show Hid (∀ b, FootL (FR.rows 3 ⟨ze, za, zn, zc, flat3 ((tri yb).filter (fun l => decide (l.2.1 ≠ (T : Int))))⟩) b → w.heap.size ≤ b ∧ b ≠ w.heap.size + 1) from HF5.out)
     have HM9 := (show Hid (Own 0 2 .i64 w9 (.slice (some ⟨w.heap.size + 1, 0, none⟩) 40 40) ms') from HMx.out)
     have HK9 := (show Hid (Same w w9) from HKw5.out.next HKx.out (fun i hi e => by omega))
     have g0 := (goodL_iff _).2 HP9.out.good
     have t1 := implLocksFault_any ⟨ze, za, zn, zc, flat3 ((tri yb).filter (fun l => decide (l.2.1 ≠ (T : Int))))⟩ w9 (FR.own_rd HO9.out)
     have t2 := fun wx (hk : Same w9 wx) => specLocksFault_any ⟨ze, za, zn, zc, flat3 ((tri yb).filter (fun l => decide (l.2.1 ≠ (T : Int))))⟩ wx ((FR.own_rd HO9.out).same hk)
     have t3 := fun wx (hk : Same w9 wx) t => implLockMode_any ⟨ze, za, zn, zc, flat3 ((tri yb).filter (fun l => decide (l.2.1 ≠ (T : Int))))⟩ t (I : Int) wx ((FR.own_rd HO9.out).same hk)
     dsimp only [FR.v, modeP] at t1 t2 t3
     simp only [tri_flat3] at t1 t2 t3
     rw [g0] at t1 t2
     simp only [g0, if_true] at t3
     clear g0
     go_wp2_with fail
     refine t1.mono ?_
     rintro e wa ⟨rfl, hka⟩
     have HKa := (show Hid (Same w9 wa) from hka)
     clear hka t1
     go_wp2_with fail
     refine (t2 _ HKa.out).mono ?_
     rintro e wb ⟨rfl, hkb⟩
     have HKb := hid (HKa.out.trans hkb)
     clear hkb t2
     go_wp2_with fail
     go_loopw [13] (fun t wx => ∃ s : Nat, 1 ≤ s ∧ s ≤ 5 ∧ t = .int .i64 s ∧ Hid (Same w9 wx)) (fun t _ => 5 - (Go.RowKit.intOf t).toNat)
     case atStart => exact ⟨1, by omega, by omega, rfl, HKb⟩
     case round =>
      obtain ⟨s, hs1, hs5, rfl, HKs⟩ := hrel
      by_cases hs : s < 5
      ·have hsi : (s : Int) < 5 := by omega
       obtain ⟨m, hm⟩ : ∃ m, (ms').getD (s * 8 + I) 0 = m := ⟨_, rfl⟩
       have hrl := HP9.out.rel s I hs1 (by omega) hI7
       rw [hm] at hrl
       have d0 : wr.cell? ⟨w.heap.size + 1, s * 8 + I, none⟩ = some (.int .i64 m) := by rw [← hm]; exact (HM9.out.same HKs.out).cell HP9.out.mlen.symm (s * 8 + I) (by omega)
       have t4 := t3 wr.drew HKs.out.drew (s : Int)
       rw [← hrl] at t4
       have hx3 : IntKind.i64.wrap ((s : Int) * 8) = (s : Int) * 8 := by rw [IntKind.wrap_i64]; omega
       have hx4 : IntKind.i64.wrap ((s : Int) * 8 + (I : Int)) = ((s * 8 + I : Nat) : Int) := by rw [IntKind.wrap_i64]; omega
       obtain ⟨J, hJ⟩ : ∃ J, s * 8 + I = J := ⟨_, rfl⟩
       rw [hJ] at hx4 d0
       have hJ40 : (J : Int) < 40 := by omega
       have hJ0 : (0 : Int) ≤ (J : Int) := by omega
       clear hrl hm hJ
       go_wp2_with fail
       have hS : (fun wx : World => wx.cell? ⟨w.heap.size + 1, J, none⟩ = some (.int .i64 m)) wr.drew := d0
       refine wp_region_V (fun wx : World => wx.cell? ⟨w.heap.size + 1, J, none⟩ = some (.int .i64 m)) 99 12 rfl (by kernel_rfl) ?_
       refine tk 0 149 hS ?_
       refine tk 1 150 hS ?_
       refine tk 2 151 hS ?_
       refine tk 4 153 hS ?_
       refine tk 5 154 hS ?_
       refine tk 6 155 hS ?_
       refine tk 7 156 hS ?_
       refine tkV 8 157 (.int .i64 (J : Int)) hS ?_
       refine tk 9 158 hS ?_
       refine tk 10 159 hS ?_
       refine wpAnyV_one (i := 3) (by kernel_rfl) rfl (fun K hK => ?_)
       go_simp
       refine t4.mono ?_
       rintro e wc ⟨rfl, hkc⟩
       have HKc := hid (HKs.out.drew.trans hkc)
       have hS : (fun wx : World => wx.cell? ⟨w.heap.size + 1, J, none⟩ = some (.int .i64 m)) wc := hkc.cellOf d0 id
       go_wp2_with fail
       refine hK.out _ _ (fun _ => hS) ?_
       clear hK K hkc t4
       try simp only [Act.put, sA, s0, sS]
       refine tk 11 160 hS ?_
       refine wpAnyV_done (by kernel_rfl) ?_
       go_wp2
       go_roundw
       case rel => exact ⟨s + 1, by omega, by omega, by go_num, HKc⟩
       case measure => simp [Go.RowKit.intOf]; omega
      ·obtain rfl : s = 5 := by omega
       have HO10 := hid (HO9.out.kept HKs.out (fun _ _ => id))
       have HM10 := hid (HM9.out.same HKs.out)
       have HK10 := hid (HK9.out.trans HKs.out)
       go_wp2
       go_roundw
       case rel => exact ⟨k + 1, _, _, _, _, _, _, by omega, rfl, by go_num, (by unfold Hid; rw [tri_flat3]; exact HP9.out), HO10, HF9, HM10, HK10⟩
       case measure => simp [Go.RowKit.intOf]; omega
  ·have k5 := l4
   go_wp2_with fail
   refine (l4 _ HKw4.out).mono ?_
   rintro e w5 ⟨r4, rfl, hr4, hk5⟩
   obtain ⟨hr4a, hr4b⟩ := hr4.2 (by decide)
   obtain ⟨mode, hmode⟩ : ∃ m, 1 + r4 = m := ⟨_, rfl⟩
   have qm : IntKind.i64.wrap (1 + r4) = mode := by rw [IntKind.wrap_i64]; omega
   have hmo : 1 ≤ mode ∧ mode ≤ 2 := by omega
   have HO5 := hid (HO4.out.kept hk5 (fun _ _ => id))
   have HM5 := hid (HM4.out.same hk5)
   have HKw5 := hid (HKw4.out.trans hk5)
   clear hr4 hk5 l4 k5 hmode HO4 HM4 hr4a hr4b
   go_wp2_with fail
   go_loopw [10, 11] (fun o t wx => ∃ (s : Nat) (ov : Int), 1 ≤ s ∧ s ≤ 5 ∧ o = .int .i64 ov ∧ t = .int .i64 s ∧ Hid (OthR T I s ms ov) ∧ Hid (Same w5 wx)) (fun _ t _ => 5 - (Go.RowKit.intOf t).toNat)
   case atStart => exact ⟨1, 0, by omega, by omega, rfl, rfl, OthR.start T I ms, Kept.refl _ _⟩
   case round =>
    obtain ⟨s, ov, hs1, hs5, rfl, rfl, HOT, HKs⟩ := hrel
    clear qm
    by_cases hs : s < 5
    ·have hsi : (s : Int) < 5 := by omega
     obtain ⟨m, hm⟩ : ∃ m, ms.getD (s * 8 + I) 0 = m := ⟨_, rfl⟩
     have d0 : wr.cell? ⟨w.heap.size + 1, s * 8 + I, none⟩ = some (.int .i64 m) := by rw [← hm]; exact (HM5.out.same HKs.out).cell HP.out.mlen.symm (s * 8 + I) (by omega)
     have hx3 : IntKind.i64.wrap ((s : Int) * 8) = (s : Int) * 8 := by rw [IntKind.wrap_i64]; omega
     have hx4 : IntKind.i64.wrap ((s : Int) * 8 + (I : Int)) = ((s * 8 + I : Nat) : Int) := by rw [IntKind.wrap_i64]; omega
     have HMM := hid hm
     obtain ⟨J, hJ⟩ : ∃ J, s * 8 + I = J := ⟨_, rfl⟩
     rw [hJ] at hx4 d0
     have hJ40 : (J : Int) < 40 := by omega
     have hJ0 : (0 : Int) ≤ (J : Int) := by omega
     clear hm hJ
     by_cases hsT : s = T
     ·have hsT' : (s : Int) = (T : Int) := by omega
      have HH := hid hsT
      clear hsT
      go_wp2
      go_roundw
      case rel => exact ⟨s + 1, ov, by omega, by omega, rfl, by go_num, HOT.out.skip (.inl HH.out), HKs⟩
      case measure => simp [Go.RowKit.intOf]; omega
     ·have hsT' : ¬ (s : Int) = (T : Int) := by omega
      have HH := hid hsT
      clear hsT
      by_cases hmv : ov < m
      ·have HV1 := hid hmv
       go_wp2
       go_roundw
       case rel => exact ⟨s + 1, m, by omega, by omega, rfl, by go_num, by unfold Hid; have h := HOT.out.take hs1 HH.out (by rw [HMM.out]; exact HV1.out); rw [HMM.out] at h; exact h, HKs⟩
       case measure => simp [Go.RowKit.intOf]; omega
      ·have HV1 := hid hmv
       go_wp2
       go_roundw
       case rel => exact ⟨s + 1, ov, by omega, by omega, rfl, by go_num, HOT.out.skip (.inr (by rw [HMM.out]; have := HV1.out; omega)), HKs⟩
       case measure => simp [Go.RowKit.intOf]; omega
    ·obtain rfl : s = 5 := by omega
     obtain ⟨w9, hw9⟩ : ∃ x, x = wr := ⟨_, rfl⟩
     subst hw9
     have hOF := HOT.out.eq HP.out hI7
     have hg0 := (goodL_iff _).2 HP.out.good
     have HO9 := hid (HO5.out.kept HKs.out (fun _ _ => id))
     have HM9 := hid (HM5.out.same HKs.out)
     have HKw9 := hid (HKw5.out.trans HKs.out)
     have hlm : w.heap.size + 1 < w9.heap.size := (HM9.out.lt _ rfl).2
     have hlen := HP.out.len
     have k6 := implLockAsk_any ⟨ye, ya, yn, yc, yb⟩ (T : Int) (I : Int) mode w9 (FR.own_rd HO9.out)
     have k7 := fun wx (hk : Same w9 wx) => implLockOthers_any ⟨ye, ya, yn, yc, yb⟩ (T : Int) (I : Int) wx ((FR.own_rd HO9.out).same hk)
     dsimp only [FR.v] at k6 k7
     have hoP : othersP (tri yb) (T : Int) (I : Int) = ov := by unfold othersP; rw [if_pos hg0]; exact hOF
     have hmP : modeP (tri yb) (T : Int) (I : Int) = modeFrom (T : Int) (I : Int) (tri yb) := if_pos hg0
     rw [hoP] at k7
     have hiT : inB (T : Int) 1 2147483647 = true := by simp [inB]; omega
     have hiI : inB (I : Int) 0 511 = true := by simp [inB]; omega
     have hiM : inB mode 1 2 = true := by simp [inB]; omega
     have HAP := (show Hid (askP (tri yb) (T : Int) (I : Int) mode = if ov = 2 ∨ ¬ ov = 0 ∧ mode = 2 then (1, []) else (0, flat3 (insF ((I : Int), (T : Int), if mode < modeFrom (T : Int) (I : Int) (tri yb) then modeFrom (T : Int) (I : Int) (tri yb) else mode) false (tri yb)))) from by
      unfold Hid askP
      rw [if_pos ⟨hg0, hiI, hiT, hiM⟩, if_neg (by omega), hoP, hmP])
     have HOF := hid hOF
     clear hOF hg0 hoP hmP hiT hiI hiM HOT
     go_wp2_with fail
     refine k6.mono ?_
     rintro e w6 ⟨⟨cd, ze, za, zn, zc, zb⟩, rfl, hd, hf, ho, hk6⟩
     rw [HAP.out] at hd
     dsimp only [StLockResult.val, FR.v]
     have HB7 := (show Hid (Blk (w6.alloc (.cells #[.int .i64 cd, .slice za zn zc] 27)) w6.heap.size 27 [.int .i64 cd, .slice za zn zc]) from Blk.newL w6 _ _)
     have HK67 := (show Hid (Same w6 (w6.alloc (.cells #[.int .i64 cd, .slice za zn zc] 27))) from (Kept.refl _ _).alloc _)
     have HK6 := (show Hid (Same w9 w6) from hk6)
     have HF6 := (show Hid (∀ b, FootL (FR.rows 3 ⟨ze, za, zn, zc, zb⟩) b → w9.heap.size ≤ b) from hf)
     have HO6 := (show Hid (OwnL w6 (FR.rows 3 ⟨ze, za, zn, zc, zb⟩)) from ho)
     clear hf ho hk6 k6 HAP
     simp only [StLockResult.dat] at hd
     by_cases hc2 : ov = 2 ∨ ¬ ov = 0 ∧ mode = 2
     ·rw [if_pos hc2] at hd
      simp only [Prod.mk.injEq] at hd
      obtain ⟨rfl, rfl⟩ := hd
      by_cases ho2 : ov = 2
      ·subst ho2
       go_wp2_with fail
       refine (k7 _ (HK6.out.trans HK67.out)).mono ?_
       rintro e w8 ⟨rfl, hk8⟩
       have HB8 := hid (HB7.out.same hk8)
       have HK98 := (show Hid (Same w9 w8) from (HK6.out.trans HK67.out).trans hk8)
       have HK68 := hid (HK67.out.trans hk8)
       obtain ⟨x0, x1⟩ := HB8.out.all2
       clear hk8
       have HP9 := hid (HP.out.next)
       have HOq := (show Hid (OwnL w8 (FR.rows 3 ⟨ye, ya, yn, yc, yb⟩)) from HO9.out.kept HK98.out (fun _ _ => id))
       have HF9 := (show Hid (∀ b, FootL (FR.rows 3 ⟨ye, ya, yn, yc, yb⟩) b → w.heap.size ≤ b ∧ b ≠ w.heap.size + 1) from HF.out)
       have HMq := hid (HM9.out.same HK98.out)
       have HK9 := hid (HKw9.out.trans HK98.out)
       have g0 := (goodL_iff _).2 HP9.out.good
       have t1 := implLocksFault_any ⟨ye, ya, yn, yc, yb⟩ w8 (FR.own_rd HOq.out)
       have t2 := fun wx (hk : Same w8 wx) => specLocksFault_any ⟨ye, ya, yn, yc, yb⟩ wx ((FR.own_rd HOq.out).same hk)
       have t3 := fun wx (hk : Same w8 wx) t => implLockMode_any ⟨ye, ya, yn, yc, yb⟩ t (I : Int) wx ((FR.own_rd HOq.out).same hk)
       dsimp only [FR.v, modeP] at t1 t2 t3
       rw [g0] at t1 t2
       simp only [g0, if_true] at t3
       clear g0
       go_wp2_with fail
       refine t1.mono ?_
       rintro e wa ⟨rfl, hka⟩
       have HKa := (show Hid (Same w8 wa) from hka)
       clear hka t1
       go_wp2_with fail
       refine (t2 _ HKa.out).mono ?_
       rintro e wb ⟨rfl, hkb⟩
       have HKb := hid (HKa.out.trans hkb)
       clear hkb t2
       go_wp2_with fail
       go_loopw [13] (fun t wx => ∃ s : Nat, 1 ≤ s ∧ s ≤ 5 ∧ t = .int .i64 s ∧ Hid (Same w8 wx)) (fun t _ => 5 - (Go.RowKit.intOf t).toNat)
       case atStart => exact ⟨1, by omega, by omega, rfl, HKb⟩
       case round =>
        obtain ⟨s, hs1, hs5, rfl, HKs⟩ := hrel
        by_cases hs : s < 5
        ·have hsi : (s : Int) < 5 := by omega
         obtain ⟨m, hm⟩ : ∃ m, (ms).getD (s * 8 + I) 0 = m := ⟨_, rfl⟩
         have hrl := HP9.out.rel s I hs1 (by omega) hI7
         rw [hm] at hrl
         have d0 : wr.cell? ⟨w.heap.size + 1, s * 8 + I, none⟩ = some (.int .i64 m) := by rw [← hm]; exact (HMq.out.same HKs.out).cell HP9.out.mlen.symm (s * 8 + I) (by omega)
         have t4 := t3 wr.drew HKs.out.drew (s : Int)
         rw [← hrl] at t4
         have hx3 : IntKind.i64.wrap ((s : Int) * 8) = (s : Int) * 8 := by rw [IntKind.wrap_i64]; omega
         have hx4 : IntKind.i64.wrap ((s : Int) * 8 + (I : Int)) = ((s * 8 + I : Nat) : Int) := by rw [IntKind.wrap_i64]; omega
         obtain ⟨J, hJ⟩ : ∃ J, s * 8 + I = J := ⟨_, rfl⟩
         rw [hJ] at hx4 d0
         have hJ40 : (J : Int) < 40 := by omega
         have hJ0 : (0 : Int) ≤ (J : Int) := by omega
         clear hrl hm hJ
         go_wp2_with fail
         have hS : (fun wx : World => wx.cell? ⟨w.heap.size + 1, J, none⟩ = some (.int .i64 m)) wr.drew := d0
         refine wp_region_V (fun wx : World => wx.cell? ⟨w.heap.size + 1, J, none⟩ = some (.int .i64 m)) 99 12 rfl (by kernel_rfl) ?_
         refine tk 0 149 hS ?_
         refine tk 1 150 hS ?_
         refine tk 2 151 hS ?_
         refine tk 4 153 hS ?_
         refine tk 5 154 hS ?_
         refine tk 6 155 hS ?_
         refine tk 7 156 hS ?_
         refine tkV 8 157 (.int .i64 (J : Int)) hS ?_
         refine tk 9 158 hS ?_
         refine tk 10 159 hS ?_
         refine wpAnyV_one (i := 3) (by kernel_rfl) rfl (fun K hK => ?_)
         go_simp
         refine t4.mono ?_
         rintro e wc ⟨rfl, hkc⟩
         have HKc := hid (HKs.out.drew.trans hkc)
         have hS : (fun wx : World => wx.cell? ⟨w.heap.size + 1, J, none⟩ = some (.int .i64 m)) wc := hkc.cellOf d0 id
         go_wp2_with fail
         refine hK.out _ _ (fun _ => hS) ?_
         clear hK K hkc t4
         try simp only [Act.put, sA, s0, sS]
         refine tk 11 160 hS ?_
         refine wpAnyV_done (by kernel_rfl) ?_
         go_wp2
         go_roundw
         case rel => exact ⟨s + 1, by omega, by omega, by go_num, HKc⟩
         case measure => simp [Go.RowKit.intOf]; omega
        ·obtain rfl : s = 5 := by omega
         have HO10 := hid (HOq.out.kept HKs.out (fun _ _ => id))
         have HM10 := hid (HMq.out.same HKs.out)
         have HK10 := hid (HK9.out.trans HKs.out)
         go_wp2
         go_roundw
         case rel => exact ⟨k + 1, _, _, _, _, _, _, by omega, rfl, by go_num, HP9, HO10, HF9, HM10, HK10⟩
         case measure => simp [Go.RowKit.intOf]; omega
      ·obtain ⟨ho0, hm2⟩ : ¬ ov = 0 ∧ mode = 2 := hc2.resolve_left ho2
       subst hm2
       have eo2 : (ov == 2) = false := by simp [ho2]
       have eo0 : (ov != 0) = true := by simp [ho0]
       go_wp2_with fail
       refine (k7 _ (HK6.out.trans HK67.out)).mono ?_
       rintro e w8 ⟨rfl, hk8⟩
       have HB8 := hid (HB7.out.same hk8)
       have HK98 := (show Hid (Same w9 w8) from (HK6.out.trans HK67.out).trans hk8)
       have HK68 := hid (HK67.out.trans hk8)
       obtain ⟨x0, x1⟩ := HB8.out.all2
       clear hk8
       have HP9 := hid (HP.out.next)
       have HOq := (show Hid (OwnL w8 (FR.rows 3 ⟨ye, ya, yn, yc, yb⟩)) from HO9.out.kept HK98.out (fun _ _ => id))
       have HF9 := (show Hid (∀ b, FootL (FR.rows 3 ⟨ye, ya, yn, yc, yb⟩) b → w.heap.size ≤ b ∧ b ≠ w.heap.size + 1) from HF.out)
       have HMq := hid (HM9.out.same HK98.out)
       have HK9 := hid (HKw9.out.trans HK98.out)
       have g0 := (goodL_iff _).2 HP9.out.good
       have t1 := implLocksFault_any ⟨ye, ya, yn, yc, yb⟩ w8 (FR.own_rd HOq.out)
       have t2 := fun wx (hk : Same w8 wx) => specLocksFault_any ⟨ye, ya, yn, yc, yb⟩ wx ((FR.own_rd HOq.out).same hk)
       have t3 := fun wx (hk : Same w8 wx) t => implLockMode_any ⟨ye, ya, yn, yc, yb⟩ t (I : Int) wx ((FR.own_rd HOq.out).same hk)
       dsimp only [FR.v, modeP] at t1 t2 t3
       rw [g0] at t1 t2
       simp only [g0, if_true] at t3
       clear g0
       go_wp2_with fail
       refine t1.mono ?_
       rintro e wa ⟨rfl, hka⟩
       have HKa := (show Hid (Same w8 wa) from hka)
       clear hka t1
       go_wp2_with fail
       refine (t2 _ HKa.out).mono ?_
       rintro e wb ⟨rfl, hkb⟩
       have HKb := hid (HKa.out.trans hkb)
       clear hkb t2
       go_wp2_with fail
       go_loopw [13] (fun t wx => ∃ s : Nat, 1 ≤ s ∧ s ≤ 5 ∧ t = .int .i64 s ∧ Hid (Same w8 wx)) (fun t _ => 5 - (Go.RowKit.intOf t).toNat)
       case atStart => exact ⟨1, by omega, by omega, rfl, HKb⟩
       case round =>
        obtain ⟨s, hs1, hs5, rfl, HKs⟩ := hrel
        by_cases hs : s < 5
        ·have hsi : (s : Int) < 5 := by omega
         obtain ⟨m, hm⟩ : ∃ m, (ms).getD (s * 8 + I) 0 = m := ⟨_, rfl⟩
         have hrl := HP9.out.rel s I hs1 (by omega) hI7
         rw [hm] at hrl
         have d0 : wr.cell? ⟨w.heap.size + 1, s * 8 + I, none⟩ = some (.int .i64 m) := by rw [← hm]; exact (HMq.out.same HKs.out).cell HP9.out.mlen.symm (s * 8 + I) (by omega)
         have t4 := t3 wr.drew HKs.out.drew (s : Int)
         rw [← hrl] at t4
         have hx3 : IntKind.i64.wrap ((s : Int) * 8) = (s : Int) * 8 := by rw [IntKind.wrap_i64]; omega
         have hx4 : IntKind.i64.wrap ((s : Int) * 8 + (I : Int)) = ((s * 8 + I : Nat) : Int) := by rw [IntKind.wrap_i64]; omega
         obtain ⟨J, hJ⟩ : ∃ J, s * 8 + I = J := ⟨_, rfl⟩
         rw [hJ] at hx4 d0
         have hJ40 : (J : Int) < 40 := by omega
         have hJ0 : (0 : Int) ≤ (J : Int) := by omega
         clear hrl hm hJ
         go_wp2_with fail
         have hS : (fun wx : World => wx.cell? ⟨w.heap.size + 1, J, none⟩ = some (.int .i64 m)) wr.drew := d0
         refine wp_region_V (fun wx : World => wx.cell? ⟨w.heap.size + 1, J, none⟩ = some (.int .i64 m)) 99 12 rfl (by kernel_rfl) ?_
         refine tk 0 149 hS ?_
         refine tk 1 150 hS ?_
         refine tk 2 151 hS ?_
         refine tk 4 153 hS ?_
         refine tk 5 154 hS ?_
         refine tk 6 155 hS ?_
         refine tk 7 156 hS ?_
         refine tkV 8 157 (.int .i64 (J : Int)) hS ?_
         refine tk 9 158 hS ?_
         refine tk 10 159 hS ?_
         refine wpAnyV_one (i := 3) (by kernel_rfl) rfl (fun K hK => ?_)
         go_simp
         refine t4.mono ?_
         rintro e wc ⟨rfl, hkc⟩
         have HKc := hid (HKs.out.drew.trans hkc)
         have hS : (fun wx : World => wx.cell? ⟨w.heap.size + 1, J, none⟩ = some (.int .i64 m)) wc := hkc.cellOf d0 id
         go_wp2_with fail
         refine hK.out _ _ (fun _ => hS) ?_
         clear hK K hkc t4
         try simp only [Act.put, sA, s0, sS]
         refine tk 11 160 hS ?_
         refine wpAnyV_done (by kernel_rfl) ?_
         go_wp2
         go_roundw
         case rel => exact ⟨s + 1, by omega, by omega, by go_num, HKc⟩
         case measure => simp [Go.RowKit.intOf]; omega
        ·obtain rfl : s = 5 := by omega
         have HO10 := hid (HOq.out.kept HKs.out (fun _ _ => id))
         have HM10 := hid (HMq.out.same HKs.out)
         have HK10 := hid (HK9.out.trans HKs.out)
         go_wp2
         go_roundw
         case rel => exact ⟨k + 1, _, _, _, _, _, _, by omega, rfl, by go_num, HP9, HO10, HF9, HM10, HK10⟩
         case measure => simp [Go.RowKit.intOf]; omega
     ·rw [if_neg hc2] at hd
      simp only [Prod.mk.injEq] at hd
      obtain ⟨rfl, rfl⟩ := hd
      have HNC := hid hc2
      have ho2 : ¬ ov = 2 := fun e => hc2 (.inl e)
      have eo2 : (ov == 2) = false := by simp [ho2]
      by_cases ho0 : ov = 0
      ·have eo0 : (ov != 0) = false := by simp [ho0]
       go_wp2_with fail
       refine (k7 _ (HK6.out.trans HK67.out)).mono ?_
       rintro e w8 ⟨rfl, hk8⟩
       have HB8 := hid (HB7.out.same hk8)
       have HK98 := (show Hid (Same w9 w8) from (HK6.out.trans HK67.out).trans hk8)
       have HK68 := hid (HK67.out.trans hk8)
       obtain ⟨x0, x1⟩ := HB8.out.all2
       clear hk8
       obtain ⟨J, hJ⟩ : ∃ J, T * 8 + I = J := ⟨_, rfl⟩
       have hm0 := HP.out.rel T I hT1.1 hT1.2 hI7
       rw [hJ] at hm0
       obtain ⟨m0, hm0'⟩ : ∃ m0, ms.getD J 0 = m0 := ⟨_, rfl⟩
       have HMz := hid (HM9.out.same HK98.out)
       have HOz := (show Hid (OwnL w8 (FR.rows 3 ⟨ze, za, zn, zc, flat3 (insF ((I : Int), (T : Int), (if mode < modeFrom (T : Int) (I : Int) (tri yb) then modeFrom (T : Int) (I : Int) (tri yb) else mode)) false (tri yb))⟩)) from HO6.out.kept HK68.out (fun _ _ => id))
       have HFz := (show Hid (∀ b, FootL (FR.rows 3 ⟨ze, za, zn, zc, flat3 (insF ((I : Int), (T : Int), (if mode < modeFrom (T : Int) (I : Int) (tri yb) then modeFrom (T : Int) (I : Int) (tri yb) else mode)) false (tri yb))⟩) b → w.heap.size ≤ b ∧ b ≠ w.heap.size + 1) from fun b hb => by have := HF6.out b hb; have := HKw9.out.size; omega)
       have HKz := hid (HKw9.out.trans HK98.out)
       have d0 : w8.cell? ⟨w.heap.size + 1, J, none⟩ = some (.int .i64 m0) := by rw [← hm0']; exact HMz.out.cell HP.out.mlen.symm J (by omega)
       have f0 : w8.frozen? ⟨w.heap.size + 1, J, none⟩ = false := HMz.out.frozen HP.out.mlen.symm J
       have hx5 : IntKind.i64.wrap ((T : Int) * 8 + (I : Int)) = (J : Int) := by rw [IntKind.wrap_i64]; omega
       have hJ40 : (J : Int) < 40 := by omega
       have hJ0 : (0 : Int) ≤ (J : Int) := by omega
       have hask := HP.out.ask (by omega) hT1 hI7 hmo (by rw [HOF.out]; exact HNC.out)
       rw [hJ] at hask
       have hJn : J < ms.length := by rw [HP.out.mlen]; omega
       by_cases hbig : m0 < mode
       ·have HPN := (show Hid (LkPure (insF ((I : Int), (T : Int), (if mode < modeFrom (T : Int) (I : Int) (tri yb) then modeFrom (T : Int) (I : Int) (tri yb) else mode)) false (tri yb)) (ms.set J mode) (k + 1)) from by
         have e : (if mode < modeFrom (T : Int) (I : Int) (tri yb) then modeFrom (T : Int) (I : Int) (tri yb) else mode) = mode := if_neg (by rw [← hm0, hm0']; omega)
         unfold Hid
         rw [e] at hask ⊢
         exact hask)
        have HKq := (show Hid (Kept (fun b => b = w.heap.size + 1) w8 (w8.setCell ⟨w.heap.size + 1, J, none⟩ (.int .i64 mode))) from Kept.setCell (R := fun b => b = w.heap.size + 1) (Kept.refl _ _) (p := ⟨w.heap.size + 1, J, none⟩) (.inr rfl) _)
        clear hask hm0 hm0' hJ
        go_wp2_with fail
        obtain ⟨wq, hwq⟩ : ∃ x, x = w8.setCell ⟨w.heap.size + 1, J, none⟩ (.int .i64 mode) := ⟨_, rfl⟩
        rw [← hwq] at HKq ⊢
        have HP9 := hid (HPN.out)
        have HO9 := (show Hid (OwnL wq (FR.rows 3 ⟨ze, za, zn, zc, flat3 (insF ((I : Int), (T : Int), (if mode < modeFrom (T : Int) (I : Int) (tri yb) then modeFrom (T : Int) (I : Int) (tri yb) else mode)) false (tri yb))⟩)) from HOz.out.kept (R := fun b => b = w.heap.size + 1) HKq.out (fun b hb e => (HFz.out b hb).2 e))
        have HF9 := (show Hid (∀ b, FootL (FR.rows 3 ⟨ze, za, zn, zc, flat3 (insF ((I : Int), (T : Int), (if mode < modeFrom (T : Int) (I : Int) (tri yb) then modeFrom (T : Int) (I : Int) (tri yb) else mode)) false (tri yb))⟩) b → w.heap.size ≤ b ∧ b ≠ w.heap.size + 1) from HFz.out)
        have HM9 := (show Hid (Own 0 2 .i64 wq (.slice (some ⟨w.heap.size + 1, 0, none⟩) 40 40) (ms.set J mode)) from (by rw [hwq]; exact HMz.out.stored HP.out.mlen.symm J mode))
        have HK9 := (show Hid (Same w wq) from HKz.out.next HKq.out (fun i hi e => by omega))
        have g0 := (goodL_iff _).2 HP9.out.good
        have t1 := implLocksFault_any ⟨ze, za, zn, zc, flat3 (insF ((I : Int), (T : Int), (if mode < modeFrom (T : Int) (I : Int) (tri yb) then modeFrom (T : Int) (I : Int) (tri yb) else mode)) false (tri yb))⟩ wq (FR.own_rd HO9.out)
        have t2 := fun wx (hk : Same wq wx) => specLocksFault_any ⟨ze, za, zn, zc, flat3 (insF ((I : Int), (T : Int), (if mode < modeFrom (T : Int) (I : Int) (tri yb) then modeFrom (T : Int) (I : Int) (tri yb) else mode)) false (tri yb))⟩ wx ((FR.own_rd HO9.out).same hk)
        have t3 := fun wx (hk : Same wq wx) t => implLockMode_any ⟨ze, za, zn, zc, flat3 (insF ((I : Int), (T : Int), (if mode < modeFrom (T : Int) (I : Int) (tri yb) then modeFrom (T : Int) (I : Int) (tri yb) else mode)) false (tri yb))⟩ t (I : Int) wx ((FR.own_rd HO9.out).same hk)
        dsimp only [FR.v, modeP] at t1 t2 t3
        simp only [tri_flat3] at t1 t2 t3
        rw [g0] at t1 t2
        simp only [g0, if_true] at t3
        clear g0
        go_wp2_with fail
        refine t1.mono ?_
        rintro e wa ⟨rfl, hka⟩
        have HKa := (show Hid (Same wq wa) from hka)
        clear hka t1
        go_wp2_with fail
        refine (t2 _ HKa.out).mono ?_
        rintro e wb ⟨rfl, hkb⟩
        have HKb := hid (HKa.out.trans hkb)
        clear hkb t2
        go_wp2_with fail
        go_loopw [13] (fun t wx => ∃ s : Nat, 1 ≤ s ∧ s ≤ 5 ∧ t = .int .i64 s ∧ Hid (Same wq wx)) (fun t _ => 5 - (Go.RowKit.intOf t).toNat)
        case atStart => exact ⟨1, by omega, by omega, rfl, HKb⟩
        case round =>
         obtain ⟨s, hs1, hs5, rfl, HKs⟩ := hrel
         by_cases hs : s < 5
         ·have hsi : (s : Int) < 5 := by omega
          obtain ⟨m, hm⟩ : ∃ m, ((ms.set J mode)).getD (s * 8 + I) 0 = m := ⟨_, rfl⟩
          have hrl := HP9.out.rel s I hs1 (by omega) hI7
          rw [hm] at hrl
          have d0 : wr.cell? ⟨w.heap.size + 1, s * 8 + I, none⟩ = some (.int .i64 m) := by rw [← hm]; exact (HM9.out.same HKs.out).cell HP9.out.mlen.symm (s * 8 + I) (by omega)
          have t4 := t3 wr.drew HKs.out.drew (s : Int)
          rw [← hrl] at t4
          have hx3 : IntKind.i64.wrap ((s : Int) * 8) = (s : Int) * 8 := by rw [IntKind.wrap_i64]; omega
          have hx4 : IntKind.i64.wrap ((s : Int) * 8 + (I : Int)) = ((s * 8 + I : Nat) : Int) := by rw [IntKind.wrap_i64]; omega
          obtain ⟨J, hJ⟩ : ∃ J, s * 8 + I = J := ⟨_, rfl⟩
          rw [hJ] at hx4 d0
          have hJ40 : (J : Int) < 40 := by omega
          have hJ0 : (0 : Int) ≤ (J : Int) := by omega
          clear hrl hm hJ
          go_wp2_with fail
          have hS : (fun wx : World => wx.cell? ⟨w.heap.size + 1, J, none⟩ = some (.int .i64 m)) wr.drew := d0
          refine wp_region_V (fun wx : World => wx.cell? ⟨w.heap.size + 1, J, none⟩ = some (.int .i64 m)) 99 12 rfl (by kernel_rfl) ?_
          refine tk 0 149 hS ?_
          refine tk 1 150 hS ?_
          refine tk 2 151 hS ?_
          refine tk 4 153 hS ?_
          refine tk 5 154 hS ?_
          refine tk 6 155 hS ?_
          refine tk 7 156 hS ?_
          refine tkV 8 157 (.int .i64 (J : Int)) hS ?_
          refine tk 9 158 hS ?_
          refine tk 10 159 hS ?_
          refine wpAnyV_one (i := 3) (by kernel_rfl) rfl (fun K hK => ?_)
          go_simp
          refine t4.mono ?_
          rintro e wc ⟨rfl, hkc⟩
          have HKc := hid (HKs.out.drew.trans hkc)
          have hS : (fun wx : World => wx.cell? ⟨w.heap.size + 1, J, none⟩ = some (.int .i64 m)) wc := hkc.cellOf d0 id
          go_wp2_with fail
          refine hK.out _ _ (fun _ => hS) ?_
          clear hK K hkc t4
          try simp only [Act.put, sA, s0, sS]
          refine tk 11 160 hS ?_
          refine wpAnyV_done (by kernel_rfl) ?_
          go_wp2
          go_roundw
          case rel => exact ⟨s + 1, by omega, by omega, by go_num, HKc⟩
          case measure => simp [Go.RowKit.intOf]; omega
         ·obtain rfl : s = 5 := by omega
          have HO10 := hid (HO9.out.kept HKs.out (fun _ _ => id))
          have HM10 := hid (HM9.out.same HKs.out)
          have HK10 := hid (HK9.out.trans HKs.out)
          go_wp2
          go_roundw
          case rel => exact ⟨k + 1, _, _, _, _, _, _, by omega, rfl, by go_num, (by unfold Hid; rw [tri_flat3]; exact HP9.out), HO10, HF9, HM10, HK10⟩
          case measure => simp [Go.RowKit.intOf]; omega
       ·have HPN := (show Hid (LkPure (insF ((I : Int), (T : Int), (if mode < modeFrom (T : Int) (I : Int) (tri yb) then modeFrom (T : Int) (I : Int) (tri yb) else mode)) false (tri yb)) ms (k + 1)) from by
         have e : (if mode < modeFrom (T : Int) (I : Int) (tri yb) then modeFrom (T : Int) (I : Int) (tri yb) else mode) = m0 := by rw [← hm0, hm0']; split <;> omega
         unfold Hid
         rw [e] at hask ⊢
         rw [set_same hm0' hJn] at hask
         exact hask)
        clear hask hm0 hm0' hJ
        go_wp2_with fail
        have HP9 := hid (HPN.out)
        have HO9 := (show Hid (OwnL w8 (FR.rows 3 ⟨ze, za, zn, zc, flat3 (insF ((I : Int), (T : Int), (if mode < modeFrom (T : Int) (I : Int) (tri yb) then modeFrom (T : Int) (I : Int) (tri yb) else mode)) false (tri yb))⟩)) from HOz.out)
        have HF9 := (show Hid (∀ b, FootL (FR.rows 3 ⟨ze, za, zn, zc, flat3 (insF ((I : Int), (T : Int), (if mode < modeFrom (T : Int) (I : Int) (tri yb) then modeFrom (T : Int) (I : Int) (tri yb) else mode)) false (tri yb))⟩) b → w.heap.size ≤ b ∧ b ≠ w.heap.size + 1) from HFz.out)
        have HM9 := (show Hid (Own 0 2 .i64 w8 (.slice (some ⟨w.heap.size + 1, 0, none⟩) 40 40) ms) from HMz.out)
        have HK9 := (show Hid (Same w w8) from HKz.out)
        have g0 := (goodL_iff _).2 HP9.out.good
        have t1 := implLocksFault_any ⟨ze, za, zn, zc, flat3 (insF ((I : Int), (T : Int), (if mode < modeFrom (T : Int) (I : Int) (tri yb) then modeFrom (T : Int) (I : Int) (tri yb) else mode)) false (tri yb))⟩ w8 (FR.own_rd HO9.out)
        have t2 := fun wx (hk : Same w8 wx) => specLocksFault_any ⟨ze, za, zn, zc, flat3 (insF ((I : Int), (T : Int), (if mode < modeFrom (T : Int) (I : Int) (tri yb) then modeFrom (T : Int) (I : Int) (tri yb) else mode)) false (tri yb))⟩ wx ((FR.own_rd HO9.out).same hk)
        have t3 := fun wx (hk : Same w8 wx) t => implLockMode_any ⟨ze, za, zn, zc, flat3 (insF ((I : Int), (T : Int), (if mode < modeFrom (T : Int) (I : Int) (tri yb) then modeFrom (T : Int) (I : Int) (tri yb) else mode)) false (tri yb))⟩ t (I : Int) wx ((FR.own_rd HO9.out).same hk)
        dsimp only [FR.v, modeP] at t1 t2 t3
        simp only [tri_flat3] at t1 t2 t3
        rw [g0] at t1 t2
        simp only [g0, if_true] at t3
        clear g0
        go_wp2_with fail
        refine t1.mono ?_
        rintro e wa ⟨rfl, hka⟩
        have HKa := (show Hid (Same w8 wa) from hka)
        clear hka t1
        go_wp2_with fail
        refine (t2 _ HKa.out).mono ?_
        rintro e wb ⟨rfl, hkb⟩
        have HKb := hid (HKa.out.trans hkb)
        clear hkb t2
        go_wp2_with fail
        go_loopw [13] (fun t wx => ∃ s : Nat, 1 ≤ s ∧ s ≤ 5 ∧ t = .int .i64 s ∧ Hid (Same w8 wx)) (fun t _ => 5 - (Go.RowKit.intOf t).toNat)
        case atStart => exact ⟨1, by omega, by omega, rfl, HKb⟩
        case round =>
         obtain ⟨s, hs1, hs5, rfl, HKs⟩ := hrel
         by_cases hs : s < 5
         ·have hsi : (s : Int) < 5 := by omega
          obtain ⟨m, hm⟩ : ∃ m, (ms).getD (s * 8 + I) 0 = m := ⟨_, rfl⟩
          have hrl := HP9.out.rel s I hs1 (by omega) hI7
          rw [hm] at hrl
          have d0 : wr.cell? ⟨w.heap.size + 1, s * 8 + I, none⟩ = some (.int .i64 m) := by rw [← hm]; exact (HM9.out.same HKs.out).cell HP9.out.mlen.symm (s * 8 + I) (by omega)
          have t4 := t3 wr.drew HKs.out.drew (s : Int)
          rw [← hrl] at t4
          have hx3 : IntKind.i64.wrap ((s : Int) * 8) = (s : Int) * 8 := by rw [IntKind.wrap_i64]; omega
          have hx4 : IntKind.i64.wrap ((s : Int) * 8 + (I : Int)) = ((s * 8 + I : Nat) : Int) := by rw [IntKind.wrap_i64]; omega
          obtain ⟨J, hJ⟩ : ∃ J, s * 8 + I = J := ⟨_, rfl⟩
          rw [hJ] at hx4 d0
          have hJ40 : (J : Int) < 40 := by omega
          have hJ0 : (0 : Int) ≤ (J : Int) := by omega
          clear hrl hm hJ
          go_wp2_with fail
          have hS : (fun wx : World => wx.cell? ⟨w.heap.size + 1, J, none⟩ = some (.int .i64 m)) wr.drew := d0
          refine wp_region_V (fun wx : World => wx.cell? ⟨w.heap.size + 1, J, none⟩ = some (.int .i64 m)) 99 12 rfl (by kernel_rfl) ?_
          refine tk 0 149 hS ?_
          refine tk 1 150 hS ?_
          refine tk 2 151 hS ?_
          refine tk 4 153 hS ?_
          refine tk 5 154 hS ?_
          refine tk 6 155 hS ?_
          refine tk 7 156 hS ?_
          refine tkV 8 157 (.int .i64 (J : Int)) hS ?_
          refine tk 9 158 hS ?_
          refine tk 10 159 hS ?_
          refine wpAnyV_one (i := 3) (by kernel_rfl) rfl (fun K hK => ?_)
          go_simp
          refine t4.mono ?_
          rintro e wc ⟨rfl, hkc⟩
          have HKc := hid (HKs.out.drew.trans hkc)
          have hS : (fun wx : World => wx.cell? ⟨w.heap.size + 1, J, none⟩ = some (.int .i64 m)) wc := hkc.cellOf d0 id
          go_wp2_with fail
          refine hK.out _ _ (fun _ => hS) ?_
          clear hK K hkc t4
          try simp only [Act.put, sA, s0, sS]
          refine tk 11 160 hS ?_
          refine wpAnyV_done (by kernel_rfl) ?_
          go_wp2
          go_roundw
          case rel => exact ⟨s + 1, by omega, by omega, by go_num, HKc⟩
          case measure => simp [Go.RowKit.intOf]; omega
         ·obtain rfl : s = 5 := by omega
          have HO10 := hid (HO9.out.kept HKs.out (fun _ _ => id))
          have HM10 := hid (HM9.out.same HKs.out)
          have HK10 := hid (HK9.out.trans HKs.out)
          go_wp2
          go_roundw
          case rel => exact ⟨k + 1, _, _, _, _, _, _, by omega, rfl, by go_num, (by unfold Hid; rw [tri_flat3]; exact HP9.out), HO10, HF9, HM10, HK10⟩
          case measure => simp [Go.RowKit.intOf]; omega
      ·have eo0 : (ov != 0) = true := by simp [ho0]
       have hm2 : ¬ mode = 2 := fun e => hc2 (.inr ⟨ho0, e⟩)
       have em2 : (mode == 2) = false := by simp [hm2]
       go_wp2_with fail
       refine (k7 _ (HK6.out.trans HK67.out)).mono ?_
       rintro e w8 ⟨rfl, hk8⟩
       have HB8 := hid (HB7.out.same hk8)
       have HK98 := (show Hid (Same w9 w8) from (HK6.out.trans HK67.out).trans hk8)
       have HK68 := hid (HK67.out.trans hk8)
       obtain ⟨x0, x1⟩ := HB8.out.all2
       clear hk8
       obtain ⟨J, hJ⟩ : ∃ J, T * 8 + I = J := ⟨_, rfl⟩
       have hm0 := HP.out.rel T I hT1.1 hT1.2 hI7
       rw [hJ] at hm0
       obtain ⟨m0, hm0'⟩ : ∃ m0, ms.getD J 0 = m0 := ⟨_, rfl⟩
       have HMz := hid (HM9.out.same HK98.out)
       have HOz := (show Hid (OwnL w8 (FR.rows 3 ⟨ze, za, zn, zc, flat3 (insF ((I : Int), (T : Int), (if mode < modeFrom (T : Int) (I : Int) (tri yb) then modeFrom (T : Int) (I : Int) (tri yb) else mode)) false (tri yb))⟩)) from HO6.out.kept HK68.out (fun _ _ => id))
       have HFz := (show Hid (∀ b, FootL (FR.rows 3 ⟨ze, za, zn, zc, flat3 (insF ((I : Int), (T : Int), (if mode < modeFrom (T : Int) (I : Int) (tri yb) then modeFrom (T : Int) (I : Int) (tri yb) else mode)) false (tri yb))⟩) b → w.heap.size ≤ b ∧ b ≠ w.heap.size + 1) from fun b hb => by have := HF6.out b hb; have := HKw9.out.size; omega)
       have HKz := hid (HKw9.out.trans HK98.out)
       have d0 : w8.cell? ⟨w.heap.size + 1, J, none⟩ = some (.int .i64 m0) := by rw [← hm0']; exact HMz.out.cell HP.out.mlen.symm J (by omega)
       have f0 : w8.frozen? ⟨w.heap.size + 1, J, none⟩ = false := HMz.out.frozen HP.out.mlen.symm J
       have hx5 : IntKind.i64.wrap ((T : Int) * 8 + (I : Int)) = (J : Int) := by rw [IntKind.wrap_i64]; omega
       have hJ40 : (J : Int) < 40 := by omega
       have hJ0 : (0 : Int) ≤ (J : Int) := by omega
       have hask := HP.out.ask (by omega) hT1 hI7 hmo (by rw [HOF.out]; exact HNC.out)
       rw [hJ] at hask
       have hJn : J < ms.length := by rw [HP.out.mlen]; omega
       by_cases hbig : m0 < mode
       ·have HPN := (show Hid (LkPure (insF ((I : Int), (T : Int), (if mode < modeFrom (T : Int) (I : Int) (tri yb) then modeFrom (T : Int) (I : Int) (tri yb) else mode)) false (tri yb)) (ms.set J mode) (k + 1)) from by
         have e : (if mode < modeFrom (T : Int) (I : Int) (tri yb) then modeFrom (T : Int) (I : Int) (tri yb) else mode) = mode := if_neg (by rw [← hm0, hm0']; omega)
         unfold Hid
         rw [e] at hask ⊢
         exact hask)
        have HKq := (show Hid (Kept (fun b => b = w.heap.size + 1) w8 (w8.setCell ⟨w.heap.size + 1, J, none⟩ (.int .i64 mode))) from Kept.setCell (R := fun b => b = w.heap.size + 1) (Kept.refl _ _) (p := ⟨w.heap.size + 1, J, none⟩) (.inr rfl) _)
        clear hask hm0 hm0' hJ
        go_wp2_with fail
        obtain ⟨wq, hwq⟩ : ∃ x, x = w8.setCell ⟨w.heap.size + 1, J, none⟩ (.int .i64 mode) := ⟨_, rfl⟩
        rw [← hwq] at HKq ⊢
        have HP9 := hid (HPN.out)
        have HO9 := (show Hid (OwnL wq (FR.rows 3 ⟨ze, za, zn, zc, flat3 (insF ((I : Int), (T : Int), (if mode < modeFrom (T : Int) (I : Int) (tri yb) then modeFrom (T : Int) (I : Int) (tri yb) else mode)) false (tri yb))⟩)) from HOz.out.kept (R := fun b => b = w.heap.size + 1) HKq.out (fun b hb e => (HFz.out b hb).2 e))
        have HF9 := (show Hid (∀ b, FootL (FR.rows 3 ⟨ze, za, zn, zc, flat3 (insF ((I : Int), (T : Int), (if mode < modeFrom (T : Int) (I : Int) (tri yb) then modeFrom (T : Int) (I : Int) (tri yb) else mode)) false (tri yb))⟩) b → w.heap.size ≤ b ∧ b ≠ w.heap.size + 1) from HFz.out)
        have HM9 := (show Hid (Own 0 2 .i64 wq (.slice (some ⟨w.heap.size + 1, 0, none⟩) 40 40) (ms.set J mode)) from (by rw [hwq]; exact HMz.out.stored HP.out.mlen.symm J mode))
        have HK9 := (show Hid (Same w wq) from HKz.out.next HKq.out (fun i hi e => by omega))
        have g0 := (goodL_iff _).2 HP9.out.good
        have t1 := implLocksFault_any ⟨ze, za, zn, zc, flat3 (insF ((I : Int), (T : Int), (if mode < modeFrom (T : Int) (I : Int) (tri yb) then modeFrom (T : Int) (I : Int) (tri yb) else mode)) false (tri yb))⟩ wq (FR.own_rd HO9.out)
        have t2 := fun wx (hk : Same wq wx) => specLocksFault_any ⟨ze, za, zn, zc, flat3 (insF ((I : Int), (T : Int), (if mode < modeFrom (T : Int) (I : Int) (tri yb) then modeFrom (T : Int) (I : Int) (tri yb) else mode)) false (tri yb))⟩ wx ((FR.own_rd HO9.out).same hk)
        have t3 := fun wx (hk : Same wq wx) t => implLockMode_any ⟨ze, za, zn, zc, flat3 (insF ((I : Int), (T : Int), (if mode < modeFrom (T : Int) (I : Int) (tri yb) then modeFrom (T : Int) (I : Int) (tri yb) else mode)) false (tri yb))⟩ t (I : Int) wx ((FR.own_rd HO9.out).same hk)
        dsimp only [FR.v, modeP] at t1 t2 t3
        simp only [tri_flat3] at t1 t2 t3
        rw [g0] at t1 t2
        simp only [g0, if_true] at t3
        clear g0
        go_wp2_with fail
        refine t1.mono ?_
        rintro e wa ⟨rfl, hka⟩
        have HKa := (show Hid (Same wq wa) from hka)
        clear hka t1
        go_wp2_with fail
        refine (t2 _ HKa.out).mono ?_
        rintro e wb ⟨rfl, hkb⟩
        have HKb := hid (HKa.out.trans hkb)
        clear hkb t2
        go_wp2_with fail
        go_loopw [13] (fun t wx => ∃ s : Nat, 1 ≤ s ∧ s ≤ 5 ∧ t = .int .i64 s ∧ Hid (Same wq wx)) (fun t _ => 5 - (Go.RowKit.intOf t).toNat)
        case atStart => exact ⟨1, by omega, by omega, rfl, HKb⟩
        case round =>
         obtain ⟨s, hs1, hs5, rfl, HKs⟩ := hrel
         by_cases hs : s < 5
         ·have hsi : (s : Int) < 5 := by omega
          obtain ⟨m, hm⟩ : ∃ m, ((ms.set J mode)).getD (s * 8 + I) 0 = m := ⟨_, rfl⟩
          have hrl := HP9.out.rel s I hs1 (by omega) hI7
          rw [hm] at hrl
          have d0 : wr.cell? ⟨w.heap.size + 1, s * 8 + I, none⟩ = some (.int .i64 m) := by rw [← hm]; exact (HM9.out.same HKs.out).cell HP9.out.mlen.symm (s * 8 + I) (by omega)
          have t4 := t3 wr.drew HKs.out.drew (s : Int)
          rw [← hrl] at t4
          have hx3 : IntKind.i64.wrap ((s : Int) * 8) = (s : Int) * 8 := by rw [IntKind.wrap_i64]; omega
          have hx4 : IntKind.i64.wrap ((s : Int) * 8 + (I : Int)) = ((s * 8 + I : Nat) : Int) := by rw [IntKind.wrap_i64]; omega
          obtain ⟨J, hJ⟩ : ∃ J, s * 8 + I = J := ⟨_, rfl⟩
          rw [hJ] at hx4 d0
          have hJ40 : (J : Int) < 40 := by omega
          have hJ0 : (0 : Int) ≤ (J : Int) := by omega
          clear hrl hm hJ
          go_wp2_with fail
          have hS : (fun wx : World => wx.cell? ⟨w.heap.size + 1, J, none⟩ = some (.int .i64 m)) wr.drew := d0
          refine wp_region_V (fun wx : World => wx.cell? ⟨w.heap.size + 1, J, none⟩ = some (.int .i64 m)) 99 12 rfl (by kernel_rfl) ?_
          refine tk 0 149 hS ?_
          refine tk 1 150 hS ?_
          refine tk 2 151 hS ?_
          refine tk 4 153 hS ?_
          refine tk 5 154 hS ?_
          refine tk 6 155 hS ?_
          refine tk 7 156 hS ?_
          refine tkV 8 157 (.int .i64 (J : Int)) hS ?_
          refine tk 9 158 hS ?_
          refine tk 10 159 hS ?_
          refine wpAnyV_one (i := 3) (by kernel_rfl) rfl (fun K hK => ?_)
          go_simp
          refine t4.mono ?_
          rintro e wc ⟨rfl, hkc⟩
          have HKc := hid (HKs.out.drew.trans hkc)
          have hS : (fun wx : World => wx.cell? ⟨w.heap.size + 1, J, none⟩ = some (.int .i64 m)) wc := hkc.cellOf d0 id
          go_wp2_with fail
          refine hK.out _ _ (fun _ => hS) ?_
          clear hK K hkc t4
          try simp only [Act.put, sA, s0, sS]
          refine tk 11 160 hS ?_
          refine wpAnyV_done (by kernel_rfl) ?_
          go_wp2
          go_roundw
          case rel => exact ⟨s + 1, by omega, by omega, by go_num, HKc⟩
          case measure => simp [Go.RowKit.intOf]; omega
         ·obtain rfl : s = 5 := by omega
          have HO10 := hid (HO9.out.kept HKs.out (fun _ _ => id))
          have HM10 := hid (HM9.out.same HKs.out)
          have HK10 := hid (HK9.out.trans HKs.out)
          go_wp2
          go_roundw
          case rel => exact ⟨k + 1, _, _, _, _, _, _, by omega, rfl, by go_num, (by unfold Hid; rw [tri_flat3]; exact HP9.out), HO10, HF9, HM10, HK10⟩
          case measure => simp [Go.RowKit.intOf]; omega
       ·have HPN := (show Hid (LkPure (insF ((I : Int), (T : Int), (if mode < modeFrom (T : Int) (I : Int) (tri yb) then modeFrom (T : Int) (I : Int) (tri yb) else mode)) false (tri yb)) ms (k + 1)) from by
         have e : (if mode < modeFrom (T : Int) (I : Int) (tri yb) then modeFrom (T : Int) (I : Int) (tri yb) else mode) = m0 := by rw [← hm0, hm0']; split <;> omega
         unfold Hid
         rw [e] at hask ⊢
         rw [set_same hm0' hJn] at hask
         exact hask)
        clear hask hm0 hm0' hJ
        go_wp2_with fail
        have HP9 := hid (HPN.out)
        have HO9 := (show Hid (OwnL w8 (FR.rows 3 ⟨ze, za, zn, zc, flat3 (insF ((I : Int), (T : Int), (if mode < modeFrom (T : Int) (I : Int) (tri yb) then modeFrom (T : Int) (I : Int) (tri yb) else mode)) false (tri yb))⟩)) from HOz.out)
        have HF9 := (show Hid (∀ b, FootL (FR.rows 3 ⟨ze, za, zn, zc, flat3 (insF ((I : Int), (T : Int), (if mode < modeFrom (T : Int) (I : Int) (tri yb) then modeFrom (T : Int) (I : Int) (tri yb) else mode)) false (tri yb))⟩) b → w.heap.size ≤ b ∧ b ≠ w.heap.size + 1) from HFz.out)
        have HM9 := (show Hid (Own 0 2 .i64 w8 (.slice (some ⟨w.heap.size + 1, 0, none⟩) 40 40) ms) from HMz.out)
        have HK9 := (show Hid (Same w w8) from HKz.out)
        have g0 := (goodL_iff _).2 HP9.out.good
        have t1 := implLocksFault_any ⟨ze, za, zn, zc, flat3 (insF ((I : Int), (T : Int), (if mode < modeFrom (T : Int) (I : Int) (tri yb) then modeFrom (T : Int) (I : Int) (tri yb) else mode)) false (tri yb))⟩ w8 (FR.own_rd HO9.out)
        have t2 := fun wx (hk : Same w8 wx) => specLocksFault_any ⟨ze, za, zn, zc, flat3 (insF ((I : Int), (T : Int), (if mode < modeFrom (T : Int) (I : Int) (tri yb) then modeFrom (T : Int) (I : Int) (tri yb) else mode)) false (tri yb))⟩ wx ((FR.own_rd HO9.out).same hk)
        have t3 := fun wx (hk : Same w8 wx) t => implLockMode_any ⟨ze, za, zn, zc, flat3 (insF ((I : Int), (T : Int), (if mode < modeFrom (T : Int) (I : Int) (tri yb) then modeFrom (T : Int) (I : Int) (tri yb) else mode)) false (tri yb))⟩ t (I : Int) wx ((FR.own_rd HO9.out).same hk)
        dsimp only [FR.v, modeP] at t1 t2 t3
        simp only [tri_flat3] at t1 t2 t3
        rw [g0] at t1 t2
        simp only [g0, if_true] at t3
        clear g0
        go_wp2_with fail
        refine t1.mono ?_
        rintro e wa ⟨rfl, hka⟩
        have HKa := (show Hid (Same w8 wa) from hka)
        clear hka t1
        go_wp2_with fail
        refine (t2 _ HKa.out).mono ?_
        rintro e wb ⟨rfl, hkb⟩
        have HKb := hid (HKa.out.trans hkb)
        clear hkb t2
        go_wp2_with fail
        go_loopw [13] (fun t wx => ∃ s : Nat, 1 ≤ s ∧ s ≤ 5 ∧ t = .int .i64 s ∧ Hid (Same w8 wx)) (fun t _ => 5 - (Go.RowKit.intOf t).toNat)
        case atStart => exact ⟨1, by omega, by omega, rfl, HKb⟩
        case round =>
         obtain ⟨s, hs1, hs5, rfl, HKs⟩ := hrel
         by_cases hs : s < 5
         ·have hsi : (s : Int) < 5 := by omega
          obtain ⟨m, hm⟩ : ∃ m, (ms).getD (s * 8 + I) 0 = m := ⟨_, rfl⟩
          have hrl := HP9.out.rel s I hs1 (by omega) hI7
          rw [hm] at hrl
          have d0 : wr.cell? ⟨w.heap.size + 1, s * 8 + I, none⟩ = some (.int .i64 m) := by rw [← hm]; exact (HM9.out.same HKs.out).cell HP9.out.mlen.symm (s * 8 + I) (by omega)
          have t4 := t3 wr.drew HKs.out.drew (s : Int)
          rw [← hrl] at t4
          have hx3 : IntKind.i64.wrap ((s : Int) * 8) = (s : Int) * 8 := by rw [IntKind.wrap_i64]; omega
          have hx4 : IntKind.i64.wrap ((s : Int) * 8 + (I : Int)) = ((s * 8 + I : Nat) : Int) := by rw [IntKind.wrap_i64]; omega
          obtain ⟨J, hJ⟩ : ∃ J, s * 8 + I = J := ⟨_, rfl⟩
          rw [hJ] at hx4 d0
          have hJ40 : (J : Int) < 40 := by omega
          have hJ0 : (0 : Int) ≤ (J : Int) := by omega
          clear hrl hm hJ
          go_wp2_with fail
          have hS : (fun wx : World => wx.cell? ⟨w.heap.size + 1, J, none⟩ = some (.int .i64 m)) wr.drew := d0
          refine wp_region_V (fun wx : World => wx.cell? ⟨w.heap.size + 1, J, none⟩ = some (.int .i64 m)) 99 12 rfl (by kernel_rfl) ?_
          refine tk 0 149 hS ?_
          refine tk 1 150 hS ?_
          refine tk 2 151 hS ?_
          refine tk 4 153 hS ?_
          refine tk 5 154 hS ?_
          refine tk 6 155 hS ?_
          refine tk 7 156 hS ?_
          refine tkV 8 157 (.int .i64 (J : Int)) hS ?_
          refine tk 9 158 hS ?_
          refine tk 10 159 hS ?_
          refine wpAnyV_one (i := 3) (by kernel_rfl) rfl (fun K hK => ?_)
          go_simp
          refine t4.mono ?_
          rintro e wc ⟨rfl, hkc⟩
          have HKc := hid (HKs.out.drew.trans hkc)
          have hS : (fun wx : World => wx.cell? ⟨w.heap.size + 1, J, none⟩ = some (.int .i64 m)) wc := hkc.cellOf d0 id
          go_wp2_with fail
          refine hK.out _ _ (fun _ => hS) ?_
          clear hK K hkc t4
          try simp only [Act.put, sA, s0, sS]
          refine tk 11 160 hS ?_
          refine wpAnyV_done (by kernel_rfl) ?_
          go_wp2
          go_roundw
          case rel => exact ⟨s + 1, by omega, by omega, by go_num, HKc⟩
          case measure => simp [Go.RowKit.intOf]; omega
         ·obtain rfl : s = 5 := by omega
          have HO10 := hid (HO9.out.kept HKs.out (fun _ _ => id))
          have HM10 := hid (HM9.out.same HKs.out)
          have HK10 := hid (HK9.out.trans HKs.out)
          go_wp2
          go_roundw
          case rel => exact ⟨k + 1, _, _, _, _, _, _, by omega, rfl, by go_num, (by unfold Hid; rw [tri_flat3]; exact HP9.out), HO10, HF9, HM10, HK10⟩
          case measure => simp [Go.RowKit.intOf]; omega
end Go.Proofs.Ytelijknekfipfaa
