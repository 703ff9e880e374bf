import Derived.Test.YtbilnlgjpchgiaaDoorStepI
import Derived.Test.YtbilnlgjpchgiaaDoorG01
import Derived.Test.YtbilnlgjpchgiaaDoorG02
import Derived.Deep.DeepCutAuto
namespace Go.Proofs.YtbilnlgjpchgiaaDoor
set_option maxRecDepth 100000
set_option maxHeartbeats 4000000
set_option linter.unusedVariables false
set_option linter.unusedSimpArgs false
open Go.RowKit
theorem ownFields_bad (k t i c : Int) (da : Option Addr) (nd dc : Nat) (ka : Option Addr) (nk kc : Nat) (w : World) (hb : k < 1 ∨ 11 < k) : Calls Tryd.prog 95 #[.agg #[.int .i64 k, .int .i64 t, .int .i64 i, .int .i64 c, .slice da nd dc, .slice ka nk kc]] w fun e w' => e = .returned (.tuple #[.agg #[.int .i64 0, .int .i64 0, .int .i64 0, .int .i64 0, .slice none 0 0, .slice none 0 0], .bool false]) ∧ Same w w' := by
 have n1 : ¬ k = 1 := by omega
 have n2 : ¬ k = 2 := by omega
 have n3 : ¬ k = 3 := by omega
 have n4 : ¬ k = 4 := by omega
 have n5 : ¬ k = 5 := by omega
 have n6 : ¬ k = 6 := by omega
 have n7 : ¬ k = 7 := by omega
 have n8 : ¬ k = 8 := by omega
 have n9 : ¬ k = 9 := by omega
 have n10 : ¬ k = 10 := by omega
 have n11 : ¬ k = 11 := by omega
 clear hb
 go_enter Tryd.func95, Tryd.ntmps95
 go_wp2
 (try simp only [Exit.inBlock, Exit.then])
 refine bodyPost_ret (v := .tuple #[.agg #[.int .i64 0, .int .i64 0, .int .i64 0, .int .i64 0, .slice none 0 0, .slice none 0 0], .bool false]) ?_ rfl ⟨rfl, (((Kept.refl _ _).alloc _).alloc _).alloc _⟩
 rw [results_cell_tmp rfl]
 go_simp
theorem sameFields_any (k1 t1 i1 c1 : Int) (ea : Option Addr) (n1 ec : Nat) (fa : Option Addr) (m1 fc : Nat) (k t i c : Int) (da : Option Addr) (nd dc : Nat) (ka : Option Addr) (nk kc : Nat) (w : World) : Calls Tryd.prog 96 #[.agg #[.int .i64 k1, .int .i64 t1, .int .i64 i1, .int .i64 c1, .slice ea n1 ec, .slice fa m1 fc], .agg #[.int .i64 k, .int .i64 t, .int .i64 i, .int .i64 c, .slice da nd dc, .slice ka nk kc]] w fun e w' => e = .returned (.bool (decide (t1 = t ∧ i1 = i ∧ c1 = c ∧ n1 = nd ∧ m1 = nk))) ∧ Same w w' := by
 by_cases h0 : t1 = t
 case neg =>
  rw [decide_eq_false (fun h => h0 (by simp only [h]))]
  go_enter Tryd.func96, Tryd.ntmps96
  go_wp2
  go_ret
  exact ⟨rfl, ((Kept.refl _ _).alloc _).alloc _⟩
 subst h0
 by_cases h1 : i1 = i
 case neg =>
  rw [decide_eq_false (fun h => h1 (by simp only [h]))]
  go_enter Tryd.func96, Tryd.ntmps96
  go_wp2
  go_ret
  exact ⟨rfl, ((Kept.refl _ _).alloc _).alloc _⟩
 subst h1
 by_cases h2 : c1 = c
 case neg =>
  rw [decide_eq_false (fun h => h2 (by simp only [h]))]
  go_enter Tryd.func96, Tryd.ntmps96
  go_wp2
  go_ret
  exact ⟨rfl, ((Kept.refl _ _).alloc _).alloc _⟩
 subst h2
 by_cases h3 : n1 = nd
 case neg =>
  have h3' : ((n1 : Int) == (nd : Int)) = false := by simp; omega
  rw [decide_eq_false (fun h => h3 (by simp only [h]))]
  go_enter Tryd.func96, Tryd.ntmps96
  go_wp2
  go_ret
  exact ⟨rfl, ((Kept.refl _ _).alloc _).alloc _⟩
 subst h3
 by_cases h4 : m1 = nk
 case neg =>
  have h4' : ((m1 : Int) == (nk : Int)) = false := by simp; omega
  rw [decide_eq_false (fun h => h4 (by simp only [h]))]
  go_enter Tryd.func96, Tryd.ntmps96
  go_wp2
  go_ret
  exact ⟨rfl, ((Kept.refl _ _).alloc _).alloc _⟩
 subst h4
 rw [decide_eq_true (by simp)]
 go_enter Tryd.func96, Tryd.ntmps96
 go_wp2
 go_ret
 exact ⟨rfl, ((Kept.refl _ _).alloc _).alloc _⟩
theorem implStep_of (t1 i1 c1 : Int) (ea : Option Addr) (n1 ec : Nat) (fa : Option Addr) (m1 fc : Nat) (k t i c : Int) (da : Option Addr) (nd dc : Nat) (ka : Option Addr) (nk kc : Nat) (w : World) (hm : nk ≤ maxLen)
  (hown : ∀ wx, Calls Tryd.prog 95 #[.agg #[.int .i64 k, .int .i64 t, .int .i64 i, .int .i64 c, .slice da nd dc, .slice ka nk kc]] wx fun e w' => e = .returned (.tuple #[.agg #[.int .i64 k, .int .i64 t1, .int .i64 i1, .int .i64 c1, .slice ea n1 ec, .slice fa m1 fc], .bool true]) ∧ Same wx w') :
  Calls Tryd.prog 81 #[.agg #[.int .i64 k, .int .i64 t, .int .i64 i, .int .i64 c, .slice da nd dc, .slice ka nk kc]] w fun e w' => e = .returned (.int .i64 (if ¬ (t1 = t ∧ i1 = i ∧ c1 = c ∧ n1 = nd ∧ m1 = nk) then 2 else if c < -1 ∨ 1000000 < c then 3 else if 8192 < nk then 4 else 0)) ∧ Same w w' := by
 unfold maxLen at hm
 have HK0 := hid (sameA w [.int .i64 k, .int .i64 t, .int .i64 i, .int .i64 c, .slice da nd dc, .slice ka nk kc] 61)
 have b0 := hid (Blk.newL w [.int .i64 k, .int .i64 t, .int .i64 i, .int .i64 c, .slice da nd dc, .slice ka nk kc] 61)
 obtain ⟨q, hq⟩ : ∃ q, decide (t1 = t ∧ i1 = i ∧ c1 = c ∧ n1 = nd ∧ m1 = nk) = q := ⟨_, rfl⟩
 have k2 := fun wx => sameFields_any k t1 i1 c1 ea n1 ec fa m1 fc k t i c da nd dc ka nk kc wx
 rw [hq] at k2
 cases q with
 | false =>
  rw [if_pos (of_decide_eq_false hq)]
  clear hq
  go_enter Tryd.func81, Tryd.ntmps81
  go_wp2_with fail
  refine (hown _).mono ?_
  rintro e w1 ⟨rfl, hk1⟩
  have HK1 := hid (HK0.out.trans hk1)
  have b1 := hid (b0.out.same hk1)
  have c0_ := b1.out.cell 0
  have c1_ := b1.out.cell 1
  have c2_ := b1.out.cell 2
  have c3_ := b1.out.cell 3
  have c4_ := b1.out.cell 4
  have c5_ := b1.out.cell 5
  have l1 := b1.out.lt
  clear hk1
  go_wp2_with fail
  have HK2 := hid (HK1.out.alloc (.cells #[.int .i64 k, .int .i64 t1, .int .i64 i1, .int .i64 c1, .slice ea n1 ec, .slice fa m1 fc] 61))
  have b2 := hid (b1.out.alloc (.cells #[.int .i64 k, .int .i64 t1, .int .i64 i1, .int .i64 c1, .slice ea n1 ec, .slice fa m1 fc] 61))
  refine (k2 _).mono ?_
  rintro e w3 ⟨rfl, hk3⟩
  have HK3 := hid (HK2.out.trans hk3)
  have b3 := hid (b2.out.same hk3)
  have d0_ := b3.out.cell 0
  have d1_ := b3.out.cell 1
  have d2_ := b3.out.cell 2
  have d3_ := b3.out.cell 3
  have d4_ := b3.out.cell 4
  have d5_ := b3.out.cell 5
  clear hk3
  go_wp2
  go_ret
  exact ⟨rfl, HK3.out⟩
 | true =>
  rw [if_neg (fun h => h (of_decide_eq_true hq))]
  clear hq
  by_cases h1 : c < -1
  ·rw [if_pos (.inl h1)]
   go_enter Tryd.func81, Tryd.ntmps81
   go_wp2_with fail
   refine (hown _).mono ?_
   rintro e w1 ⟨rfl, hk1⟩
   have HK1 := hid (HK0.out.trans hk1)
   have b1 := hid (b0.out.same hk1)
   have c0_ := b1.out.cell 0
   have c1_ := b1.out.cell 1
   have c2_ := b1.out.cell 2
   have c3_ := b1.out.cell 3
   have c4_ := b1.out.cell 4
   have c5_ := b1.out.cell 5
   have l1 := b1.out.lt
   clear hk1
   go_wp2_with fail
   have HK2 := hid (HK1.out.alloc (.cells #[.int .i64 k, .int .i64 t1, .int .i64 i1, .int .i64 c1, .slice ea n1 ec, .slice fa m1 fc] 61))
   have b2 := hid (b1.out.alloc (.cells #[.int .i64 k, .int .i64 t1, .int .i64 i1, .int .i64 c1, .slice ea n1 ec, .slice fa m1 fc] 61))
   refine (k2 _).mono ?_
   rintro e w3 ⟨rfl, hk3⟩
   have HK3 := hid (HK2.out.trans hk3)
   have b3 := hid (b2.out.same hk3)
   have d0_ := b3.out.cell 0
   have d1_ := b3.out.cell 1
   have d2_ := b3.out.cell 2
   have d3_ := b3.out.cell 3
   have d4_ := b3.out.cell 4
   have d5_ := b3.out.cell 5
   clear hk3
   go_wp2
   go_ret
   exact ⟨rfl, HK3.out⟩
  by_cases h2 : 1000000 < c
  ·rw [if_pos (.inr h2)]
   go_enter Tryd.func81, Tryd.ntmps81
   go_wp2_with fail
   refine (hown _).mono ?_
   rintro e w1 ⟨rfl, hk1⟩
   have HK1 := hid (HK0.out.trans hk1)
   have b1 := hid (b0.out.same hk1)
   have c0_ := b1.out.cell 0
   have c1_ := b1.out.cell 1
   have c2_ := b1.out.cell 2
   have c3_ := b1.out.cell 3
   have c4_ := b1.out.cell 4
   have c5_ := b1.out.cell 5
   have l1 := b1.out.lt
   clear hk1
   go_wp2_with fail
   have HK2 := hid (HK1.out.alloc (.cells #[.int .i64 k, .int .i64 t1, .int .i64 i1, .int .i64 c1, .slice ea n1 ec, .slice fa m1 fc] 61))
   have b2 := hid (b1.out.alloc (.cells #[.int .i64 k, .int .i64 t1, .int .i64 i1, .int .i64 c1, .slice ea n1 ec, .slice fa m1 fc] 61))
   refine (k2 _).mono ?_
   rintro e w3 ⟨rfl, hk3⟩
   have HK3 := hid (HK2.out.trans hk3)
   have b3 := hid (b2.out.same hk3)
   have d0_ := b3.out.cell 0
   have d1_ := b3.out.cell 1
   have d2_ := b3.out.cell 2
   have d3_ := b3.out.cell 3
   have d4_ := b3.out.cell 4
   have d5_ := b3.out.cell 5
   clear hk3
   go_wp2
   go_ret
   exact ⟨rfl, HK3.out⟩
  rw [if_neg (by omega)]
  by_cases h3 : 8192 < nk
  ·rw [if_pos h3]
   have h3' : (8192 : Int) < nk := by omega
   go_enter Tryd.func81, Tryd.ntmps81
   go_wp2_with fail
   refine (hown _).mono ?_
   rintro e w1 ⟨rfl, hk1⟩
   have HK1 := hid (HK0.out.trans hk1)
   have b1 := hid (b0.out.same hk1)
   have c0_ := b1.out.cell 0
   have c1_ := b1.out.cell 1
   have c2_ := b1.out.cell 2
   have c3_ := b1.out.cell 3
   have c4_ := b1.out.cell 4
   have c5_ := b1.out.cell 5
   have l1 := b1.out.lt
   clear hk1
   go_wp2_with fail
   have HK2 := hid (HK1.out.alloc (.cells #[.int .i64 k, .int .i64 t1, .int .i64 i1, .int .i64 c1, .slice ea n1 ec, .slice fa m1 fc] 61))
   have b2 := hid (b1.out.alloc (.cells #[.int .i64 k, .int .i64 t1, .int .i64 i1, .int .i64 c1, .slice ea n1 ec, .slice fa m1 fc] 61))
   refine (k2 _).mono ?_
   rintro e w3 ⟨rfl, hk3⟩
   have HK3 := hid (HK2.out.trans hk3)
   have b3 := hid (b2.out.same hk3)
   have d0_ := b3.out.cell 0
   have d1_ := b3.out.cell 1
   have d2_ := b3.out.cell 2
   have d3_ := b3.out.cell 3
   have d4_ := b3.out.cell 4
   have d5_ := b3.out.cell 5
   clear hk3
   go_wp2
   go_ret
   exact ⟨rfl, HK3.out⟩
  rw [if_neg h3]
  have h3' : ¬ (8192 : Int) < nk := by omega
  go_enter Tryd.func81, Tryd.ntmps81
  go_wp2_with fail
  refine (hown _).mono ?_
  rintro e w1 ⟨rfl, hk1⟩
  have HK1 := hid (HK0.out.trans hk1)
  have b1 := hid (b0.out.same hk1)
  have c0_ := b1.out.cell 0
  have c1_ := b1.out.cell 1
  have c2_ := b1.out.cell 2
  have c3_ := b1.out.cell 3
  have c4_ := b1.out.cell 4
  have c5_ := b1.out.cell 5
  have l1 := b1.out.lt
  clear hk1
  go_wp2_with fail
  have HK2 := hid (HK1.out.alloc (.cells #[.int .i64 k, .int .i64 t1, .int .i64 i1, .int .i64 c1, .slice ea n1 ec, .slice fa m1 fc] 61))
  have b2 := hid (b1.out.alloc (.cells #[.int .i64 k, .int .i64 t1, .int .i64 i1, .int .i64 c1, .slice ea n1 ec, .slice fa m1 fc] 61))
  refine (k2 _).mono ?_
  rintro e w3 ⟨rfl, hk3⟩
  have HK3 := hid (HK2.out.trans hk3)
  have b3 := hid (b2.out.same hk3)
  have d0_ := b3.out.cell 0
  have d1_ := b3.out.cell 1
  have d2_ := b3.out.cell 2
  have d3_ := b3.out.cell 3
  have d4_ := b3.out.cell 4
  have d5_ := b3.out.cell 5
  clear hk3
  go_wp2
  go_ret
  exact ⟨rfl, HK3.out⟩
theorem implStep_any (k t i c : Int) (da : Option Addr) (nd dc : Nat) (ka : Option Addr) (nk kc : Nat) (w : World) (hm : nk ≤ maxLen) : Calls Tryd.prog 81 #[.agg #[.int .i64 k, .int .i64 t, .int .i64 i, .int .i64 c, .slice da nd dc, .slice ka nk kc]] w fun e w' => e = .returned (.int .i64 (stepF k t i c nd nk)) ∧ Same w w' := by
 by_cases hb : k < 1 ∨ 11 < k
 ·rw [show stepF k t i c nd nk = 1 from by unfold stepF; rw [if_pos hb]]
  have HK0 := hid (sameA w [.int .i64 k, .int .i64 t, .int .i64 i, .int .i64 c, .slice da nd dc, .slice ka nk kc] 61)
  have b0 := hid (Blk.newL w [.int .i64 k, .int .i64 t, .int .i64 i, .int .i64 c, .slice da nd dc, .slice ka nk kc] 61)
  have hown := fun wx => ownFields_bad k t i c da nd dc ka nk kc wx hb
  go_enter Tryd.func81, Tryd.ntmps81
  go_wp2_with fail
  refine (hown _).mono ?_
  rintro e w1 ⟨rfl, hk1⟩
  have HK1 := hid (HK0.out.trans hk1)
  clear hk1
  go_wp2
  go_ret
  exact ⟨rfl, HK1.out.alloc _⟩
 ·have fin : ∀ (t1 i1 c1 : Int) (n1 m1 : Nat), ((t1 = t ∧ i1 = i ∧ c1 = c ∧ n1 = nd ∧ m1 = nk) ↔ stepOK k t i c nd nk) → (if ¬ (t1 = t ∧ i1 = i ∧ c1 = c ∧ n1 = nd ∧ m1 = nk) then 2 else if c < -1 ∨ 1000000 < c then 3 else if 8192 < nk then 4 else 0) = stepF k t i c nd nk := fun t1 i1 c1 n1 m1 h => by
   unfold stepF
   rw [if_neg hb]
   simp only [h]
  obtain rfl | rfl | rfl | rfl | rfl | rfl | rfl | rfl | rfl | rfl | rfl : k = 1 ∨ k = 2 ∨ k = 3 ∨ k = 4 ∨ k = 5 ∨ k = 6 ∨ k = 7 ∨ k = 8 ∨ k = 9 ∨ k = 10 ∨ k = 11 := by omega
  ·have h := implStep_of 0 0 0 none 0 0 none 0 0 1 t i c da nd dc ka nk kc w hm (fun wx => ownFields_1 t i c da nd dc ka nk kc wx)
   rw [fin 0 0 0 0 0 (by unfold stepOK; omega)] at h
   exact h
  ·have h := implStep_of t 0 0 da nd dc none 0 0 2 t i c da nd dc ka nk kc w hm (fun wx => ownFields_2 t i c da nd dc ka nk kc wx)
   rw [fin t 0 0 nd 0 (by unfold stepOK; omega)] at h
   exact h
  ·have h := implStep_of t i 0 da nd dc none 0 0 3 t i c da nd dc ka nk kc w hm (fun wx => ownFields_3 t i c da nd dc ka nk kc wx)
   rw [fin t i 0 nd 0 (by unfold stepOK; omega)] at h
   exact h
  ·have h := implStep_of t i 0 none 0 0 none 0 0 4 t i c da nd dc ka nk kc w hm (fun wx => ownFields_4 t i c da nd dc ka nk kc wx)
   rw [fin t i 0 0 0 (by unfold stepOK; omega)] at h
   exact h
  ·have h := implStep_of t i 0 none 0 0 none 0 0 5 t i c da nd dc ka nk kc w hm (fun wx => ownFields_5 t i c da nd dc ka nk kc wx)
   rw [fin t i 0 0 0 (by unfold stepOK; omega)] at h
   exact h
  ·have h := implStep_of t 0 0 none 0 0 none 0 0 6 t i c da nd dc ka nk kc w hm (fun wx => ownFields_6 t i c da nd dc ka nk kc wx)
   rw [fin t 0 0 0 0 (by unfold stepOK; omega)] at h
   exact h
  ·have h := implStep_of t 0 0 none 0 0 none 0 0 7 t i c da nd dc ka nk kc w hm (fun wx => ownFields_7 t i c da nd dc ka nk kc wx)
   rw [fin t 0 0 0 0 (by unfold stepOK; omega)] at h
   exact h
  ·have h := implStep_of 0 0 0 none 0 0 none 0 0 8 t i c da nd dc ka nk kc w hm (fun wx => ownFields_8 t i c da nd dc ka nk kc wx)
   rw [fin 0 0 0 0 0 (by unfold stepOK; omega)] at h
   exact h
  ·have h := implStep_of 0 0 0 none 0 0 none 0 0 9 t i c da nd dc ka nk kc w hm (fun wx => ownFields_9 t i c da nd dc ka nk kc wx)
   rw [fin 0 0 0 0 0 (by unfold stepOK; omega)] at h
   exact h
  ·have h := implStep_of 0 0 0 none 0 0 ka nk kc 10 t i c da nd dc ka nk kc w hm (fun wx => ownFields_10 t i c da nd dc ka nk kc wx)
   rw [fin 0 0 0 0 nk (by unfold stepOK; omega)] at h
   exact h
  ·have h := implStep_of 0 0 c none 0 0 none 0 0 11 t i c da nd dc ka nk kc w hm (fun wx => ownFields_11 t i c da nd dc ka nk kc wx)
   rw [fin 0 0 c 0 0 (by unfold stepOK; omega)] at h
   exact h
def StStep.isB (x : StStep) : Prop := True
theorem StStep.size_rd {w : World} {x : StStep} (h : StStep.rd w x) : x.size ≤ 4 * x.szs := by
 have h1 := h.2.2.1
 simp only [StStep.size, StStep.szs]
 omega
def stepFd (d : Int × Int × Int × Int × List Int × List Int) : Int := stepF d.1 d.2.1 d.2.2.1 d.2.2.2.1 d.2.2.2.2.1.length d.2.2.2.2.2.length
theorem specStepD_any (x : StStep) (w : World) (hB : x.isB) (hn : x.szs ≤ 1073741824) (hv : StStep.rd w x) :
  Calls Tryd.prog 18 #[x.val] w fun e w' => e = .returned (.int .i64 (stepFd x.dat)) ∧ Same w w' := by
 have h1 := hv.1.1
 have h2 := hv.2.1
 have h3 : x.keep.bs.length = x.keep.n := by have := hv.2.2.1; omega
 simp only [stepFd, StStep.dat, h3]
 exact specStep_any x.kd x.tx x.rid x.cnt x.data.a x.data.bs.length x.data.c x.keep.a x.keep.n x.keep.c w h1 h2
theorem implStepD_any (x : StStep) (w : World) (hB : x.isB) (hn : x.szs ≤ 1073741824) (hv : StStep.rd w x) :
  Calls Tryd.prog 81 #[x.val] w fun e w' => e = .returned (.int .i64 (stepFd x.dat)) ∧ Same w w' := by
 have h1 := hv.1.1
 have h2 := hv.2.1
 have h3 : x.keep.bs.length = x.keep.n := by have := hv.2.2.1; omega
 simp only [stepFd, StStep.dat, h3]
 exact implStep_any x.kd x.tx x.rid x.cnt x.data.a x.data.bs.length x.data.c x.keep.a x.keep.n x.keep.c w h2
def badS (d : StDat) : Bool := (stepFd d != 0) || d.2.2.2.2.2.any noDig
def totS (ds : List StDat) : Int := (ds.map fun d => (d.2.2.2.2.1.length : Int)).sum
def noTxt (p f l : Int) (ds : List StDat) : Bool := (geoF p f l != 0) || (decide (400 < ds.length) || decide (100000 < totS ds)) || ds.any badS
def scT (p f l : Int) (ds : List StDat) : List UInt8 := if noTxt p f l ds = true then [] else gLn p f l ++ ds.flatMap lnS
theorem stepFd_kind {d : StDat} (h : stepFd d = 0) : 1 ≤ d.1 ∧ d.1 ≤ 11 := by
 unfold stepFd stepF at h
 split at h
 ·cases h
 ·omega
theorem conv_one (w : World) (x : Int) : ∀ wx, (∀ i : Nat, wx.cell? ⟨w.heap.size, i, none⟩ = (w.alloc (.cells #[.int .u8 x] 5)).cell? ⟨w.heap.size, i, none⟩) → (convert 34 9 (.slice (some ⟨w.heap.size, 0, none⟩) 1 1)).run Tryd.prog wx = .ok (.string (strOfNums [x])) wx := by
 intro wx h
 refine run_convert_bytes_arg wx 34 5 Tryd.underlying34 Tryd.underlying5 w.heap.size 0 _ _ [x] rfl ?_ 9 Tryd.underlying9
 intro i hi
 have hi : i = 0 := by simp at hi; omega
 subst hi
 rw [h]
 have hb : Blk (w.alloc (.cells #[.int .u8 x] 5)) w.heap.size 5 (vals .u8 [x]) := Blk.new w #[.int .u8 x] 5
 exact hb.cell 0
theorem dig_tx (n : Nat) : strOfNums [48 + (n : Int)] = Tx [UInt8.ofNat (48 + n)] := by
 have h : (48 + (n : Int)).toNat = 48 + n := by omega
 unfold strOfNums
 simp only [List.map_cons, List.map_nil, h]
theorem dec_small {n : Nat} (h : n < 10) : Lib.decDigits n = [UInt8.ofNat (48 + n)] := by rw [Lib.decDigits, dif_pos h]
theorem dec_big {n : Nat} (h : ¬ n < 10) : Lib.decDigits n = Lib.decDigits (n / 10) ++ [UInt8.ofNat (48 + n % 10)] := by rw [Lib.decDigits, dif_neg h]
theorem nDig_le : ∀ (k u : Nat), u < 10 ^ (k + 1) → Lib.nDigits u ≤ k + 1
 | 0, u, h => by rw [Lib.nDigits, dif_pos (by omega)]; omega
 | k + 1, u, h => by
  by_cases hs : u < 10
  ·rw [Lib.nDigits, dif_pos hs]; omega
  ·rw [Lib.nDigits, dif_neg hs]
   have := nDig_le k (u / 10) (by rw [Nat.pow_succ] at h; omega)
   omega
theorem dec_len (u : Nat) (h : u ≤ 18446744073709551615) : (Lib.decDigits u).length ≤ 20 := by
 rw [Lib.decDigits_length]
 exact nDig_le 19 u (by omega)
theorem itoa_len (n : Int) (h0 : -9223372036854775808 ≤ n) (h1 : n ≤ 9223372036854775807) : (Lib.itoa n).length ≤ 21 := by
 unfold Lib.itoa
 split
 ·have := dec_len n.natAbs (by omega)
  simp only [List.length_cons]
  omega
 ·have := dec_len n.toNat (by omega)
  omega
theorem numS_small (n : Nat) (h : n < 10) (w : World) : Calls Tryd.prog 19 #[.int .i64 n] w fun e w' => e = .returned (.string (Tx (Lib.decDigits n))) ∧ Same w w' := by
 have hw : IntKind.u8.wrap (48 + (n : Int)) = 48 + n := by rw [IntKind.wrap_u8]; omega
 have hcv := conv_one w (48 + (n : Int)) _ (fun _ => rfl)
 have h1 : ¬ (n : Int) < 0 := by omega
 have h2 : (n : Int) < 10 := by omega
 have HD := hid ((dig_tx n).trans (congrArg Tx (dec_small h).symm))
 go_enter Tryd.func19, Tryd.ntmps19
 go_wp2
 go_ret
 exact ⟨by rw [HD.out]; rfl, (Kept.refl _ _).alloc _⟩
theorem numS_pos : ∀ (m n : Nat), n < m → (n : Int) ≤ 9223372036854775807 → ∀ (w : World), Calls Tryd.prog 19 #[.int .i64 n] w fun e w' => e = .returned (.string (Tx (Lib.decDigits n))) ∧ Same w w'
 | 0, n, h, _, _ => absurd h (Nat.not_lt_zero _)
 | m + 1, n, h, hb, w => by
  by_cases hs : n < 10
  ·exact numS_small n hs w
  have h1 : ¬ (n : Int) < 0 := by omega
  have h2 : ¬ (n : Int) < 10 := by omega
  have HC := (show Hid (∀ wx, Calls Tryd.prog 19 #[.int .i64 ((n / 10 : Nat) : Int)] wx fun e w' => e = .returned (.string (Tx (Lib.decDigits (n / 10)))) ∧ Same wx w') from fun wx => numS_pos m (n / 10) (by omega) (by omega) wx)
  have HD := (show Hid (Tx (Lib.decDigits (n / 10)) ++ strOfNums [48 + ((n % 10 : Nat) : Int)] = Tx (Lib.decDigits n)) from by unfold Hid; rw [dig_tx, tx_app, ← dec_big hs])
  obtain ⟨q, hq⟩ : ∃ q, n / 10 = q := ⟨_, rfl⟩
  obtain ⟨r, hr⟩ : ∃ r, n % 10 = r := ⟨_, rfl⟩
  have hrb : r < 10 := by omega
  have t1 : (n : Int).tdiv 10 = (q : Int) := by rw [Int.tdiv_eq_ediv_of_nonneg (by omega)]; omega
  have t2 : (n : Int).tmod 10 = (r : Int) := by rw [Int.tmod_eq_emod_of_nonneg (by omega)]; omega
  have t3 : IntKind.i64.wrap (q : Int) = q := by rw [IntKind.wrap_i64]; omega
  have hw : IntKind.u8.wrap (48 + (r : Int)) = 48 + r := by rw [IntKind.wrap_u8]; omega
  have hw2 : IntKind.i64.wrap (48 + (r : Int)) = 48 + r := by rw [IntKind.wrap_i64]; omega
  have hsz : ¬ 9223372036854775807 < (Lib.decDigits q).length + (strOfNums [48 + (r : Int)]).size := by
   have := dec_len q (by omega)
   rw [strOfNums_size]
   simp only [List.length_cons, List.length_nil]
   omega
  rw [hq, hr] at HD
  rw [hq] at HC
  clear hq hr
  go_enter Tryd.func19, Tryd.ntmps19
  go_upto_region 9 with fail
  refine wp_region_V (fun _ => True) 99 11 rfl (by kernel_rfl) ?_
  have HK0 := (show Hid (Same w w.drew) from (Kept.refl _ _).drew)
  generalize w.drew = u at HK0 ⊢
  refine tk 0 32 trivial ?_
  refine tkV 1 33 (.int .i64 q) trivial ?_
  refine tk 3 35 trivial ?_
  refine tkV 4 36 (.int .i64 r) trivial ?_
  refine tk 5 37 trivial ?_
  refine tkV 6 38 (.int .u8 (48 + r)) trivial ?_
  refine wpAnyV_two (i := 2) (j := 7) (by kernel_rfl) rfl rfl (fun K hK => ?_) (fun K hK => ?_)
  ·go_simp
   refine (HC.out _).mono ?_
   rintro e w1 ⟨rfl, hk1⟩
   have HK1 := hid (HK0.out.trans hk1)
   refine hK.out _ _ (fun _ => trivial) ?_
   clear hK K hk1
   try simp only [Act.put, sA, s0, sS]
   have hcv := conv_one w1 (48 + (r : Int)) _ (fun _ => rfl)
   refine wpAnyV_one (i := 7) (by kernel_rfl) rfl (fun K hK => ?_)
   go_simp
   refine hK.out _ _ (fun _ => trivial) ?_
   clear hK K
   try simp only [Act.put, sA, s0, sS]
   have HK2 := hid (HK1.out.alloc (.cells #[.int .u8 (48 + (r : Int))] 5))
   refine wpAnyV_one (i := 8) (by kernel_rfl) rfl (fun K hK => ?_)
   go_simp
   refine hK.out _ _ (fun _ => trivial) ?_
   clear hK K hcv
   try simp only [Act.put, sA, s0, sS]
   refine tkV 9 41 (.string (Tx (Lib.decDigits q) ++ strOfNums [48 + (r : Int)])) trivial ?_
   refine tk 10 2 trivial ?_
   refine wpAnyV_done (by kernel_rfl) ?_
   go_wp2
   go_ret
   exact ⟨by rw [HD.out]; rfl, HK2.out⟩
  ·go_simp
   refine hK.out _ _ (fun _ => trivial) ?_
   clear hK K
   try simp only [Act.put, sA, s0, sS]
   have HK1 := hid (HK0.out.alloc (.cells #[.int .u8 (48 + (r : Int))] 5))
   have HB := (show Hid (∀ wx, Same (u.alloc (.cells #[.int .u8 (48 + (r : Int))] 5)) wx → (convert 34 9 (.slice (some ⟨u.heap.size, 0, none⟩) 1 1)).run Tryd.prog wx = .ok (.string (strOfNums [48 + (r : Int)])) wx) from fun wx hk => by
    have hb : Blk (u.alloc (.cells #[.int .u8 (48 + (r : Int))] 5)) u.heap.size 5 [.int .u8 (48 + (r : Int))] := Blk.new u #[.int .u8 (48 + (r : Int))] 5
    exact conv_one u (48 + (r : Int)) wx (fun i => by rw [(hb.same hk).cell, hb.cell]))
   generalize u.alloc (.cells #[.int .u8 (48 + (r : Int))] 5) = u1 at HK1 HB ⊢
   generalize u.heap.size = U at HB ⊢
   refine wpAnyV_two (i := 2) (j := 8) (by kernel_rfl) rfl rfl (fun K hK => ?_) (fun K hK => ?_)
   ·go_simp
    refine (HC.out _).mono ?_
    rintro e w1 ⟨rfl, hk1⟩
    have HK2 := hid (HK1.out.trans hk1)
    have hcv := HB.out w1 hk1
    refine hK.out _ _ (fun _ => trivial) ?_
    clear hK K hk1
    try simp only [Act.put, sA, s0, sS]
    refine wpAnyV_one (i := 8) (by kernel_rfl) rfl (fun K hK => ?_)
    go_simp
    refine hK.out _ _ (fun _ => trivial) ?_
    clear hK K hcv
    try simp only [Act.put, sA, s0, sS]
    refine tkV 9 41 (.string (Tx (Lib.decDigits q) ++ strOfNums [48 + (r : Int)])) trivial ?_
    refine tk 10 2 trivial ?_
    refine wpAnyV_done (by kernel_rfl) ?_
    go_wp2
    go_ret
    exact ⟨by rw [HD.out]; rfl, HK2.out⟩
   ·have hcv := HB.out u1 (Kept.refl _ _)
    go_simp
    refine hK.out _ _ (fun _ => trivial) ?_
    clear hK K hcv
    try simp only [Act.put, sA, s0, sS]
    refine wpAnyV_one (i := 2) (by kernel_rfl) rfl (fun K hK => ?_)
    go_simp
    refine (HC.out _).mono ?_
    rintro e w1 ⟨rfl, hk1⟩
    have HK2 := hid (HK1.out.trans hk1)
    refine hK.out _ _ (fun _ => trivial) ?_
    clear hK K hk1
    try simp only [Act.put, sA, s0, sS]
    refine tkV 9 41 (.string (Tx (Lib.decDigits q) ++ strOfNums [48 + (r : Int)])) trivial ?_
    refine tk 10 2 trivial ?_
    refine wpAnyV_done (by kernel_rfl) ?_
    go_wp2
    go_ret
    exact ⟨by rw [HD.out]; rfl, HK2.out⟩
theorem numS_neg (n : Nat) (h0 : 0 < n) (hb : (n : Int) ≤ 9223372036854775808) (w : World) : Calls Tryd.prog 19 #[.int .i64 (-(n : Int))] w fun e w' => e = .returned (.string (Tx (45 :: Lib.decDigits n))) ∧ Same w w' := by
 have h1 : -(n : Int) < 0 := by omega
 obtain ⟨q, hq⟩ : ∃ q, n / 10 = q := ⟨_, rfl⟩
 obtain ⟨r, hr⟩ : ∃ r, n % 10 = r := ⟨_, rfl⟩
 have hrb : r < 10 := by omega
 have t1 : (-(n : Int)).tdiv 10 = -(q : Int) := by rw [Int.neg_tdiv, Int.tdiv_eq_ediv_of_nonneg (by omega)]; omega
 have t2 : (-(n : Int)).tmod 10 = -(r : Int) := by rw [Int.neg_tmod, Int.tmod_eq_emod_of_nonneg (by omega)]; omega
 have hqb : (q : Int) ≤ 922337203685477580 := by omega
 have hw : IntKind.u8.wrap (48 + (r : Int)) = 48 + r := by rw [IntKind.wrap_u8]; omega
 have hcv := conv_one w (48 + (r : Int)) _ (fun _ => rfl)
 have HK0 := (show Hid (Same w (w.alloc (.cells #[.int .u8 (48 + (r : Int))] 5))) from (Kept.refl _ _).alloc _)
 by_cases hz : q = 0
 ·have hz' : ((q : Int) == 0) = true := by simp [hz]
  have HD := (show Hid ((⟨#[45]⟩ : ByteArray) ++ strOfNums [48 + (r : Int)] = Tx (45 :: Lib.decDigits n)) from by
   unfold Hid; rw [dig_tx, show (⟨#[45]⟩ : ByteArray) = Tx [45] from rfl, tx_app, dec_small (by omega : n < 10), show r = n by omega]; rfl)
  clear hq hr hz
  go_enter Tryd.func19, Tryd.ntmps19
  go_wp2
  go_ret
  exact ⟨by rw [HD.out]; rfl, HK0.out⟩
 ·have hz' : ((q : Int) == 0) = false := beq_eq_false_iff_ne.2 (by omega)
  have HC := (show Hid (∀ wx, Calls Tryd.prog 19 #[.int .i64 (q : Int)] wx fun e w' => e = .returned (.string (Tx (Lib.decDigits q))) ∧ Same wx w') from fun wx => numS_pos (q + 1) q (by omega) (by omega) wx)
  have HD := (show Hid ((⟨#[45]⟩ : ByteArray) ++ Tx (Lib.decDigits q) ++ strOfNums [48 + (r : Int)] = Tx (45 :: Lib.decDigits n)) from by
   unfold Hid; rw [dig_tx, show (⟨#[45]⟩ : ByteArray) = Tx [45] from rfl, tx_app, tx_app, dec_big (by omega : ¬ n < 10), hq, hr]; rfl)
  have hl := dec_len q (by omega)
  have l1 : ¬ 9223372036854775807 < 1 + (Lib.decDigits q).length := by omega
  have l2 : ¬ 9223372036854775807 < 1 + (Lib.decDigits q).length + (strOfNums [48 + (r : Int)]).size := by rw [strOfNums_size]; simp only [List.length_cons, List.length_nil]; omega
  clear hq hr hz hl
  go_enter Tryd.func19, Tryd.ntmps19
  go_wp2_with (go_at_call 19; refine (HC.out _).mono ?_; rintro e w1 ⟨rfl, hk1⟩; have HK1 := hid (HK0.out.trans hk1); clear hk1)
  go_ret
  exact ⟨by rw [HD.out]; rfl, HK1.out⟩
theorem numS_any (n : Int) (h0 : -9223372036854775808 ≤ n) (h1 : n ≤ 9223372036854775807) (w : World) : Calls Tryd.prog 19 #[.int .i64 n] w fun e w' => e = .returned (.string (Tx (Lib.itoa n))) ∧ Same w w' := by
 unfold Lib.itoa
 split
 ·obtain ⟨m, rfl⟩ : ∃ m : Nat, n = -(m : Int) := ⟨n.natAbs, by omega⟩
  have e : (-(m : Int)).natAbs = m := by omega
  rw [e]
  exact numS_neg m (by omega) (by omega) w
 ·obtain ⟨m, rfl⟩ : ∃ m : Nat, n = (m : Int) := ⟨n.toNat, by omega⟩
  exact numS_pos (m + 1) m (by omega) h1 w
theorem kp_take {ks : List Int} {k : Nat} (h : k < ks.length) : (ks.take (k + 1)).map (48 + ·) = (ks.take k).map (48 + ·) ++ [48 + ks[k]] := by
 rw [List.take_succ_eq_append_getElem h, List.map_append]
 rfl
theorem RdF.formK {w : World} {x : FR} (h : RdF 1 w x) : ∃ a c, x.v = .slice a x.bs.length c := ⟨x.a, x.c, by unfold FR.v; rw [show x.n = x.bs.length from by have := h.2.1; omega]⟩
theorem RdF.intsK {w : World} {x : FR} (h : RdF 1 w x) (h0 : x.bs.length ≠ 0) : Rd .i64 w x.v x.bs := h.ints (by have := h.2.1; omega)
theorem keepS_any (v : Value) (ks : List Int) (w : World) (hd : ∀ k ∈ ks, k = 0 ∨ k = 1) (hn : ks.length ≤ 1048576) (hf : ∃ a c, v = .slice a ks.length c) (hv : ks.length ≠ 0 → Rd .i64 w v ks) :
  Calls Tryd.prog 55 #[v] w fun e w' => e = .returned (.string (Tx (kpW ks))) ∧ Same w w' := by
 obtain ⟨av, cv, rfl⟩ := hf
 by_cases h0 : ks.length = 0
 ·have h0' : ((ks.length : Int) == 0) = true := by simp [h0]
  have HE := (show Hid (kpW ks = [45]) from by unfold Hid kpW kpB; rw [if_pos h0]; rfl)
  go_enter Tryd.func55, Tryd.ntmps55
  go_wp2
  go_ret
  exact ⟨by rw [HE.out]; rfl, Kept.refl _ _⟩
 have h0' : ((ks.length : Int) == 0) = false := beq_eq_false_iff_ne.2 (by omega)
 have hv := hv h0
 obtain ⟨b, off, rfl, hx⟩ : ∃ b off, av = some ⟨b, off, none⟩ ∧ ∀ i, i < ks.length → w.cell? ⟨b, off + i, none⟩ = some (.int .i64 (ks.getD i 0)) := by
  rcases hv.2 with ⟨h, _⟩ | ⟨b, off, c', e1, _, hx⟩
  ·rw [h] at h0; simp at h0
  ·injection e1 with e1 e2 e3
   exact ⟨b, off, e1, hx⟩
 have HX := hid hx
 have hbl : b < w.heap.size := World.block_lt_of_cell? w _ (hx 0 (by omega))
 have HD := (show Hid (∀ k ∈ ks, k = 0 ∨ k = 1) from hd)
 clear hx hv hd
 go_enter Tryd.func55, Tryd.ntmps55
 go_wp2
 go_loopw [3, 4] (fun o i wr => ∃ (k : Nat) (a : Option Addr) (n c : Nat), k ≤ ks.length ∧ o = .slice a n c ∧ i = .int .i64 (k : Int) ∧ Hid (Own 0 5 .u8 wr (.slice a n c) ((ks.take k).map (48 + ·))) ∧ Hid (∀ b, (Value.slice a n c).ownBlock = some b → w.heap.size ≤ b) ∧ Hid (Same w wr)) (fun _ i _ => ks.length - (intOf i).toNat)
 case atStart => exact ⟨0, _, _, _, Nat.zero_le _, rfl, rfl, own_empty w _, fun b hb => by simp [Value.ownBlock] at hb; omega, (Kept.refl _ _).alloc _⟩
 case round =>
  obtain ⟨k, a, n, c, hk, rfl, rfl, HO, HF, HK⟩ := hrel
  by_cases hlt : k < ks.length
  ·have hki : (k : Int) < (ks.length : Int) := by omega
   obtain ⟨x, hx⟩ : ∃ x, ks[k] = x := ⟨_, rfl⟩
   have hc : wr.cell? ⟨b, off + k, none⟩ = some (.int .i64 x) := HK.out.cellOf (by rw [HX.out k hlt, List.getD_eq_getElem?_getD, List.getElem?_eq_getElem hlt, hx]; rfl) id
   have hxb : 0 ≤ x ∧ x ≤ 1 := by have := HD.out _ (List.getElem_mem hlt); rw [hx] at this; omega
   have HXK := hid hx
   have hw1 : IntKind.i64.wrap (48 + x) = 48 + x := by rw [IntKind.wrap_i64]; omega
   have hw2 : IntKind.u8.wrap (48 + x) = 48 + x := by rw [IntKind.wrap_u8]; omega
   have hk2 : Same wr (wr.alloc (.cells #[.int .u8 (48 + x)] 5)) := (Kept.refl _ _).alloc _
   have HO2 := hid (HO.out.same hk2)
   have HX2 := hid (rd_one wr (48 + x))
   have HK2 := hid (HK.out.trans hk2)
   clear hx hk2
   go_wp2_with (at_builtin; refine wpList_app rfl (.tmp 15) (.tmp 22) rfl (.slice a n c) (.slice (some ⟨wr.heap.size, 0, none⟩) 1 1) ((ks.take k).map (48 + ·)) [48 + x] (by rfl) (by rfl) HO2.out HX2.out (by simp; omega) ?_; intro a3 n3 c3 w3 hown hgr; have HO3 := (show Hid (Own 0 5 .u8 w3 (.slice a3 n3 c3) ((ks.take (k + 1)).map (48 + ·))) from by unfold Hid; rw [kp_take hlt, HXK.out]; exact hown); have HF3 := (show Hid (∀ b, (Value.slice a3 n3 c3).ownBlock = some b → w.heap.size ≤ b) from hgr.fresh HK2.out HF.out); have HK3 := hid (hgr.same HK2.out HF.out); clear hown hgr HO2 HX2 HK2)
   go_roundw
   case rel => exact ⟨k + 1, a3, n3, c3, by omega, rfl, by go_num, HO3, HF3, HK3⟩
   case measure => simp [intOf]; omega
  ·have hge : ¬ (k : Int) < (ks.length : Int) := by omega
   obtain rfl : k = ks.length := by omega
   have hcv := conv_own (v := .slice a n c) HO.out (by simp; omega)
   rw [List.take_length] at hcv
   have HE := (show Hid (strOfNums (ks.map (48 + ·)) = Tx (kpW ks)) from by unfold Hid kpW kpB; rw [if_neg h0]; rfl)
   clear HO HF
   go_wp2
   go_ret
   exact ⟨by rw [HE.out]; rfl, HK.out⟩
theorem keepI_any (v : Value) (ks : List Int) (w : World) (hd : ∀ k ∈ ks, k = 0 ∨ k = 1) (hn : ks.length ≤ 1048576) (hf : ∃ a c, v = .slice a ks.length c) (hv : ks.length ≠ 0 → Rd .i64 w v ks) :
  Calls Tryd.prog 86 #[v] w fun e w' => e = .returned (.string (Tx (kpW ks))) ∧ Same w w' := by
 obtain ⟨av, cv, rfl⟩ := hf
 by_cases h0 : ks.length = 0
 ·have h0' : ((ks.length : Int) == 0) = true := by simp [h0]
  have HE := (show Hid (kpW ks = [45]) from by unfold Hid kpW kpB; rw [if_pos h0]; rfl)
  go_enter Tryd.func86, Tryd.ntmps86
  go_wp2
  go_ret
  exact ⟨by rw [HE.out]; rfl, Kept.refl _ _⟩
 have h0' : ((ks.length : Int) == 0) = false := beq_eq_false_iff_ne.2 (by omega)
 have hv := hv h0
 obtain ⟨b, off, rfl, hx⟩ : ∃ b off, av = some ⟨b, off, none⟩ ∧ ∀ i, i < ks.length → w.cell? ⟨b, off + i, none⟩ = some (.int .i64 (ks.getD i 0)) := by
  rcases hv.2 with ⟨h, _⟩ | ⟨b, off, c', e1, _, hx⟩
  ·rw [h] at h0; simp at h0
  ·injection e1 with e1 e2 e3
   exact ⟨b, off, e1, hx⟩
 have HX := hid hx
 have hbl : b < w.heap.size := World.block_lt_of_cell? w _ (hx 0 (by omega))
 have HD := (show Hid (∀ k ∈ ks, k = 0 ∨ k = 1) from hd)
 clear hx hv hd
 obtain ⟨i0, hi0, hz0, hz1, hz2⟩ := info_parts Tryd.infoByte'
 go_enter Tryd.func86, Tryd.ntmps86
 go_wp2_with (at_make; refine wpList_make_own _ rfl (.const (.int .i64 0)) (.tmp 10) 34 rfl 0 5 i0 (.int .u8 0) 1 Tryd.underlying34 hi0 hz0 hz1 .i64 .i64 _ ks.length rfl rfl (by rfl) (by rw [hz2]; omega) (by unfold maxLen; omega) (Nat.zero_le _) ?_; intro w1 hown1 hgrow1; have HO1 := (show Hid (Own 0 5 .u8 w1 (.slice (some ⟨w.heap.size, 0, none⟩) 0 ks.length) []) from hown1); have HK1 := (show Hid (Same w w1) from Kept.of_grown hgrow1 (fun k e => by cases e)); clear hown1 hgrow1)
 go_loopw [3, 5, 14] (fun o y i wr => ∃ (k : Nat) (a : Option Addr) (n c : Nat), k ≤ ks.length ∧ o = .slice a n c ∧ i = .int .i64 (k : Int) ∧ Hid (Own 0 5 .u8 wr (.slice a n c) ((ks.take k).map (48 + ·))) ∧ Hid (∀ b, (Value.slice a n c).ownBlock = some b → w.heap.size ≤ b) ∧ Hid (Same w wr)) (fun _ _ i _ => ks.length - (intOf i).toNat)
 case atStart => exact ⟨0, _, _, _, Nat.zero_le _, rfl, rfl, HO1, fun b hb => by simp [Value.ownBlock] at hb; omega, HK1⟩
 case round =>
  obtain ⟨k, a, n, c, hk, rfl, rfl, HO, HF, HK⟩ := hrel
  by_cases hlt : k < ks.length
  ·have hki : (k : Int) < (ks.length : Int) := by omega
   obtain ⟨x, hx⟩ : ∃ x, ks[k] = x := ⟨_, rfl⟩
   have hc : wr.cell? ⟨b, off + k, none⟩ = some (.int .i64 x) := HK.out.cellOf (by rw [HX.out k hlt, List.getD_eq_getElem?_getD, List.getElem?_eq_getElem hlt, hx]; rfl) id
   have hxb : 0 ≤ x ∧ x ≤ 1 := by have := HD.out _ (List.getElem_mem hlt); rw [hx] at this; omega
   have HXK := hid hx
   have hw1 : IntKind.i64.wrap (48 + x) = 48 + x := by rw [IntKind.wrap_i64]; omega
   have hw2 : IntKind.u8.wrap (48 + x) = 48 + x := by rw [IntKind.wrap_u8]; omega
   have hk2 : Same wr (wr.alloc (.cells #[.int .u8 (48 + x)] 5)) := (Kept.refl _ _).alloc _
   have HO2 := hid (HO.out.same hk2)
   have HX2 := hid (rd_one wr (48 + x))
   have HK2 := hid (HK.out.trans hk2)
   clear hx hk2
   go_wp2_with (at_builtin; refine wpList_app rfl (.tmp 18) (.tmp 22) rfl (.slice a n c) (.slice (some ⟨wr.heap.size, 0, none⟩) 1 1) ((ks.take k).map (48 + ·)) [48 + x] (by rfl) (by rfl) HO2.out HX2.out (by simp; omega) ?_; intro a3 n3 c3 w3 hown hgr; have HO3 := (show Hid (Own 0 5 .u8 w3 (.slice a3 n3 c3) ((ks.take (k + 1)).map (48 + ·))) from by unfold Hid; rw [kp_take hlt, HXK.out]; exact hown); have HF3 := (show Hid (∀ b, (Value.slice a3 n3 c3).ownBlock = some b → w.heap.size ≤ b) from hgr.fresh HK2.out HF.out); have HK3 := hid (hgr.same HK2.out HF.out); clear hown hgr HO2 HX2 HK2)
   go_roundw
   case rel => exact ⟨k + 1, a3, n3, c3, by omega, rfl, by go_num, HO3, HF3, HK3⟩
   case measure => simp [intOf]; omega
  ·have hge : ¬ (k : Int) < (ks.length : Int) := by omega
   obtain rfl : k = ks.length := by omega
   have hcv := conv_own (v := .slice a n c) HO.out (by simp; omega)
   rw [List.take_length] at hcv
   have HE := (show Hid (strOfNums (ks.map (48 + ·)) = Tx (kpW ks)) from by unfold Hid kpW kpB; rw [if_neg h0]; rfl)
   clear HO HF
   go_wp2
   go_ret
   exact ⟨by rw [HE.out]; rfl, HK.out⟩
end Go.Proofs.YtbilnlgjpchgiaaDoor
