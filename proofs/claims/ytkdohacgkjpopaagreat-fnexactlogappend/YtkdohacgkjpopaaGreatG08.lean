import Derived.Test.YtkdohacgkjpopaaGreatTyLogRecord
import Derived.Test.YtkdohacgkjpopaaGreatG00
import Derived.Laws.BytesArg
import Derived.Laws.StructEq
import Derived.Laws.BitsAllLaws
import Derived.Tactics
import Derived.Tactics2
import Derived.Defers
import Derived.Laws.Pointers
import Derived.Laws.LoneSync
import Derived.RegionTactic
import Derived.RegionCalls
import Derived.WalkKit
import Derived.OrdersHeld
import Derived.Deep.RegionHeld3
namespace Go.Proofs.YtkdohacgkjpopaaGreat
set_option maxRecDepth 100000
set_option maxHeartbeats 16000000
set_option linter.unusedVariables false
set_option linter.unusedSimpArgs false
open Go.RowKit Go
theorem extra_8 (txn : Int) (prev : Int) (page : Int) (slot : Int) (beforeu : Bool) (beforea : Option Addr) (beforen beforec : Nat) (afteru : Bool) (aftera : Option Addr) (aftern afterc : Nat) (uN : Int) (nT : Int) (txnsa : Option Addr) (txnsn txnsc : Nat) (dirtya : Option Addr) (dirtyn dirtyc : Nat) (imagea : Option Addr) (imagen imagec : Nat) (w : World) (eafter ebefore : Bool) (hafter : ∀ wx, Same w wx → Calls Tryz.prog 63 #[.agg #[.bool afteru, .slice aftera aftern afterc]] wx fun e w' => e = .returned (.bool eafter) ∧ Same wx w') (hbefore : ∀ wx, Same w wx → Calls Tryz.prog 63 #[.agg #[.bool beforeu, .slice beforea beforen beforec]] wx fun e w' => e = .returned (.bool ebefore) ∧ Same wx w') (hmtxns : txnsn ≤ maxLen) (hmdirty : dirtyn ≤ maxLen) :
  Calls Tryz.prog 43 #[.agg #[.int .i64 8, .int .i64 txn, .int .i64 prev, .int .i64 page, .int .i64 slot, .bool beforeu, .slice beforea beforen beforec, .bool afteru, .slice aftera aftern afterc, .int .i64 uN, .int .i64 nT, .slice txnsa txnsn txnsc, .slice dirtya dirtyn dirtyc, .slice imagea imagen imagec]] w fun e w' => e = .returned (.bool (!(decide (0 = txn) && decide (0 = prev) && decide (0 = slot) && eafter && ebefore && decide (0 = uN) && decide (0 = nT) && decide (txnsn = 0) && decide (dirtyn = 0)))) ∧ Same w w' := by
 unfold maxLen at hmtxns hmdirty
 by_cases qtxn : 0 = txn
 case neg =>
  rw [decide_eq_false qtxn]
  simp only [Bool.false_and, Bool.and_false, Bool.not_false]
  have rtxn : ¬ txn = 0 := fun e => qtxn e.symm
  obtain ⟨HK0, HB0⟩ := new1 w [.int .i64 8, .int .i64 txn, .int .i64 prev, .int .i64 page, .int .i64 slot, .bool beforeu, .slice beforea beforen beforec, .bool afteru, .slice aftera aftern afterc, .int .i64 uN, .int .i64 nT, .slice txnsa txnsn txnsc, .slice dirtya dirtyn dirtyc, .slice imagea imagen imagec] 42
  go_enter Tryz.func43, Tryz.ntmps43
  go_wp2
  go_ret
  exact ⟨rfl, HK0.out⟩
 subst qtxn
 rw [decide_eq_true rfl]
 by_cases qprev : 0 = prev
 case neg =>
  rw [decide_eq_false qprev]
  simp only [Bool.false_and, Bool.and_false, Bool.not_false]
  have rprev : ¬ prev = 0 := fun e => qprev e.symm
  obtain ⟨HK0, HB0⟩ := new1 w [.int .i64 8, .int .i64 0, .int .i64 prev, .int .i64 page, .int .i64 slot, .bool beforeu, .slice beforea beforen beforec, .bool afteru, .slice aftera aftern afterc, .int .i64 uN, .int .i64 nT, .slice txnsa txnsn txnsc, .slice dirtya dirtyn dirtyc, .slice imagea imagen imagec] 42
  go_enter Tryz.func43, Tryz.ntmps43
  go_wp2
  go_ret
  exact ⟨rfl, HK0.out⟩
 subst qprev
 rw [decide_eq_true rfl]
 by_cases qslot : 0 = slot
 case neg =>
  rw [decide_eq_false qslot]
  simp only [Bool.false_and, Bool.and_false, Bool.not_false]
  have rslot : ¬ slot = 0 := fun e => qslot e.symm
  obtain ⟨HK0, HB0⟩ := new1 w [.int .i64 8, .int .i64 0, .int .i64 0, .int .i64 page, .int .i64 slot, .bool beforeu, .slice beforea beforen beforec, .bool afteru, .slice aftera aftern afterc, .int .i64 uN, .int .i64 nT, .slice txnsa txnsn txnsc, .slice dirtya dirtyn dirtyc, .slice imagea imagen imagec] 42
  go_enter Tryz.func43, Tryz.ntmps43
  go_wp2
  go_ret
  exact ⟨rfl, HK0.out⟩
 subst qslot
 rw [decide_eq_true rfl]
 cases eafter with
 | false =>
  simp only [Bool.false_and, Bool.and_false, Bool.not_false]
  obtain ⟨HK0, HB0⟩ := new1 w [.int .i64 8, .int .i64 0, .int .i64 0, .int .i64 page, .int .i64 0, .bool beforeu, .slice beforea beforen beforec, .bool afteru, .slice aftera aftern afterc, .int .i64 uN, .int .i64 nT, .slice txnsa txnsn txnsc, .slice dirtya dirtyn dirtyc, .slice imagea imagen imagec] 42
  go_enter Tryz.func43, Tryz.ntmps43
  go_wp2_with fail
  refine (hafter _ HK0.out).mono ?_
  rintro e w1 ⟨rfl, hk⟩
  have HK1 := hid (HK0.out.trans hk)
  have HB1 := hid (HB0.out.same hk)
  clear hk
  obtain ⟨d1_0, d1_1, d1_2, d1_3, d1_4, d1_5, d1_6, d1_7, d1_8, d1_9, d1_10, d1_11, d1_12, d1_13⟩ := HB1.out.all14
  go_wp2
  go_ret
  exact ⟨rfl, HK1.out⟩
 | true =>
  cases ebefore with
  | false =>
   simp only [Bool.false_and, Bool.and_false, Bool.not_false]
   obtain ⟨HK0, HB0⟩ := new1 w [.int .i64 8, .int .i64 0, .int .i64 0, .int .i64 page, .int .i64 0, .bool beforeu, .slice beforea beforen beforec, .bool afteru, .slice aftera aftern afterc, .int .i64 uN, .int .i64 nT, .slice txnsa txnsn txnsc, .slice dirtya dirtyn dirtyc, .slice imagea imagen imagec] 42
   go_enter Tryz.func43, Tryz.ntmps43
   go_wp2_with fail
   refine (hafter _ HK0.out).mono ?_
   rintro e w1 ⟨rfl, hk⟩
   have HK1 := hid (HK0.out.trans hk)
   have HB1 := hid (HB0.out.same hk)
   clear hk
   obtain ⟨d1_0, d1_1, d1_2, d1_3, d1_4, d1_5, d1_6, d1_7, d1_8, d1_9, d1_10, d1_11, d1_12, d1_13⟩ := HB1.out.all14
   go_wp2_with fail
   refine (hbefore _ HK1.out).mono ?_
   rintro e w2 ⟨rfl, hk⟩
   have HK2 := hid (HK1.out.trans hk)
   have HB2 := hid (HB1.out.same hk)
   clear hk
   obtain ⟨d2_0, d2_1, d2_2, d2_3, d2_4, d2_5, d2_6, d2_7, d2_8, d2_9, d2_10, d2_11, d2_12, d2_13⟩ := HB2.out.all14
   go_wp2
   go_ret
   exact ⟨rfl, HK2.out⟩
  | true =>
   by_cases quN : 0 = uN
   case neg =>
    rw [decide_eq_false quN]
    simp only [Bool.false_and, Bool.and_false, Bool.not_false]
    have ruN : ¬ uN = 0 := fun e => quN e.symm
    obtain ⟨HK0, HB0⟩ := new1 w [.int .i64 8, .int .i64 0, .int .i64 0, .int .i64 page, .int .i64 0, .bool beforeu, .slice beforea beforen beforec, .bool afteru, .slice aftera aftern afterc, .int .i64 uN, .int .i64 nT, .slice txnsa txnsn txnsc, .slice dirtya dirtyn dirtyc, .slice imagea imagen imagec] 42
    go_enter Tryz.func43, Tryz.ntmps43
    go_wp2_with fail
    refine (hafter _ HK0.out).mono ?_
    rintro e w1 ⟨rfl, hk⟩
    have HK1 := hid (HK0.out.trans hk)
    have HB1 := hid (HB0.out.same hk)
    clear hk
    obtain ⟨d1_0, d1_1, d1_2, d1_3, d1_4, d1_5, d1_6, d1_7, d1_8, d1_9, d1_10, d1_11, d1_12, d1_13⟩ := HB1.out.all14
    go_wp2_with fail
    refine (hbefore _ HK1.out).mono ?_
    rintro e w2 ⟨rfl, hk⟩
    have HK2 := hid (HK1.out.trans hk)
    have HB2 := hid (HB1.out.same hk)
    clear hk
    obtain ⟨d2_0, d2_1, d2_2, d2_3, d2_4, d2_5, d2_6, d2_7, d2_8, d2_9, d2_10, d2_11, d2_12, d2_13⟩ := HB2.out.all14
    go_wp2
    go_ret
    exact ⟨rfl, HK2.out⟩
   subst quN
   rw [decide_eq_true rfl]
   by_cases qnT : 0 = nT
   case neg =>
    rw [decide_eq_false qnT]
    simp only [Bool.false_and, Bool.and_false, Bool.not_false]
    have rnT : ¬ nT = 0 := fun e => qnT e.symm
    obtain ⟨HK0, HB0⟩ := new1 w [.int .i64 8, .int .i64 0, .int .i64 0, .int .i64 page, .int .i64 0, .bool beforeu, .slice beforea beforen beforec, .bool afteru, .slice aftera aftern afterc, .int .i64 0, .int .i64 nT, .slice txnsa txnsn txnsc, .slice dirtya dirtyn dirtyc, .slice imagea imagen imagec] 42
    go_enter Tryz.func43, Tryz.ntmps43
    go_wp2_with fail
    refine (hafter _ HK0.out).mono ?_
    rintro e w1 ⟨rfl, hk⟩
    have HK1 := hid (HK0.out.trans hk)
    have HB1 := hid (HB0.out.same hk)
    clear hk
    obtain ⟨d1_0, d1_1, d1_2, d1_3, d1_4, d1_5, d1_6, d1_7, d1_8, d1_9, d1_10, d1_11, d1_12, d1_13⟩ := HB1.out.all14
    go_wp2_with fail
    refine (hbefore _ HK1.out).mono ?_
    rintro e w2 ⟨rfl, hk⟩
    have HK2 := hid (HK1.out.trans hk)
    have HB2 := hid (HB1.out.same hk)
    clear hk
    obtain ⟨d2_0, d2_1, d2_2, d2_3, d2_4, d2_5, d2_6, d2_7, d2_8, d2_9, d2_10, d2_11, d2_12, d2_13⟩ := HB2.out.all14
    go_wp2
    go_ret
    exact ⟨rfl, HK2.out⟩
   subst qnT
   rw [decide_eq_true rfl]
   by_cases qtxns : txnsn = 0
   case neg =>
    rw [decide_eq_false qtxns]
    simp only [Bool.false_and, Bool.and_false, Bool.not_false]
    have rtxns : (0 : Int) < txnsn := by omega
    obtain ⟨HK0, HB0⟩ := new1 w [.int .i64 8, .int .i64 0, .int .i64 0, .int .i64 page, .int .i64 0, .bool beforeu, .slice beforea beforen beforec, .bool afteru, .slice aftera aftern afterc, .int .i64 0, .int .i64 0, .slice txnsa txnsn txnsc, .slice dirtya dirtyn dirtyc, .slice imagea imagen imagec] 42
    go_enter Tryz.func43, Tryz.ntmps43
    go_wp2_with fail
    refine (hafter _ HK0.out).mono ?_
    rintro e w1 ⟨rfl, hk⟩
    have HK1 := hid (HK0.out.trans hk)
    have HB1 := hid (HB0.out.same hk)
    clear hk
    obtain ⟨d1_0, d1_1, d1_2, d1_3, d1_4, d1_5, d1_6, d1_7, d1_8, d1_9, d1_10, d1_11, d1_12, d1_13⟩ := HB1.out.all14
    go_wp2_with fail
    refine (hbefore _ HK1.out).mono ?_
    rintro e w2 ⟨rfl, hk⟩
    have HK2 := hid (HK1.out.trans hk)
    have HB2 := hid (HB1.out.same hk)
    clear hk
    obtain ⟨d2_0, d2_1, d2_2, d2_3, d2_4, d2_5, d2_6, d2_7, d2_8, d2_9, d2_10, d2_11, d2_12, d2_13⟩ := HB2.out.all14
    go_wp2
    go_ret
    exact ⟨by first | rfl | (simp; omega), HK2.out⟩
   subst qtxns
   rw [decide_eq_true rfl]
   by_cases qdirty : dirtyn = 0
   case neg =>
    rw [decide_eq_false qdirty]
    simp only [Bool.false_and, Bool.and_false, Bool.not_false]
    have rdirty : (0 : Int) < dirtyn := by omega
    obtain ⟨HK0, HB0⟩ := new1 w [.int .i64 8, .int .i64 0, .int .i64 0, .int .i64 page, .int .i64 0, .bool beforeu, .slice beforea beforen beforec, .bool afteru, .slice aftera aftern afterc, .int .i64 0, .int .i64 0, .slice txnsa 0 txnsc, .slice dirtya dirtyn dirtyc, .slice imagea imagen imagec] 42
    go_enter Tryz.func43, Tryz.ntmps43
    go_wp2_with fail
    refine (hafter _ HK0.out).mono ?_
    rintro e w1 ⟨rfl, hk⟩
    have HK1 := hid (HK0.out.trans hk)
    have HB1 := hid (HB0.out.same hk)
    clear hk
    obtain ⟨d1_0, d1_1, d1_2, d1_3, d1_4, d1_5, d1_6, d1_7, d1_8, d1_9, d1_10, d1_11, d1_12, d1_13⟩ := HB1.out.all14
    go_wp2_with fail
    refine (hbefore _ HK1.out).mono ?_
    rintro e w2 ⟨rfl, hk⟩
    have HK2 := hid (HK1.out.trans hk)
    have HB2 := hid (HB1.out.same hk)
    clear hk
    obtain ⟨d2_0, d2_1, d2_2, d2_3, d2_4, d2_5, d2_6, d2_7, d2_8, d2_9, d2_10, d2_11, d2_12, d2_13⟩ := HB2.out.all14
    go_wp2
    go_ret
    exact ⟨by first | rfl | (simp; omega), HK2.out⟩
   subst qdirty
   rw [decide_eq_true rfl]
   simp only [Bool.and_true, Bool.and_self, Bool.not_true]
   obtain ⟨HK0, HB0⟩ := new1 w [.int .i64 8, .int .i64 0, .int .i64 0, .int .i64 page, .int .i64 0, .bool beforeu, .slice beforea beforen beforec, .bool afteru, .slice aftera aftern afterc, .int .i64 0, .int .i64 0, .slice txnsa 0 txnsc, .slice dirtya 0 dirtyc, .slice imagea imagen imagec] 42
   go_enter Tryz.func43, Tryz.ntmps43
   go_wp2_with fail
   refine (hafter _ HK0.out).mono ?_
   rintro e w1 ⟨rfl, hk⟩
   have HK1 := hid (HK0.out.trans hk)
   have HB1 := hid (HB0.out.same hk)
   clear hk
   obtain ⟨d1_0, d1_1, d1_2, d1_3, d1_4, d1_5, d1_6, d1_7, d1_8, d1_9, d1_10, d1_11, d1_12, d1_13⟩ := HB1.out.all14
   go_wp2_with fail
   refine (hbefore _ HK1.out).mono ?_
   rintro e w2 ⟨rfl, hk⟩
   have HK2 := hid (HK1.out.trans hk)
   have HB2 := hid (HB1.out.same hk)
   clear hk
   obtain ⟨d2_0, d2_1, d2_2, d2_3, d2_4, d2_5, d2_6, d2_7, d2_8, d2_9, d2_10, d2_11, d2_12, d2_13⟩ := HB2.out.all14
   go_wp2
   go_ret
   exact ⟨rfl, HK2.out⟩
theorem conv_any {w : World} {v : Value} {bs : List Int} (h : Rd .u8 w v bs) : (convert 22 9 v).run Tryz.prog w = .ok (.string (strOfNums bs)) w := by
 rcases h.2 with ⟨rfl, a, c, rfl, _⟩ | ⟨b, off, c, rfl, _, hc⟩
 ·rw [run_convert_bytes_string w 22 9 5 _ 0 c (by kernel_rfl) (by kernel_rfl) (by kernel_rfl)]
  cases a <;> simp [Conv.bytesToString, loadCells]
  all_goals rfl
 ·exact run_convert_bytes_arg w 22 5 (by kernel_rfl) (by kernel_rfl) b off bs.length c bs rfl hc 9 (by kernel_rfl)
theorem strOfNums_inj : ∀ {xs bs : List Int}, IsB xs → IsB bs → strOfNums xs = strOfNums bs → xs = bs := by
 intro xs bs ha hb h
 have h2 : xs.map (fun n => UInt8.ofNat n.toNat) = bs.map (fun n => UInt8.ofNat n.toNat) := by
  have h3 := congrArg (fun s => s.data.toList) h
  simpa [strOfNums] using h3
 have hl : xs.length = bs.length := by have := congrArg List.length h2; simpa using this
 apply List.ext_getElem hl
 intro i h1 h4
 have h5 := congrArg (fun l => l[i]?) h2
 simp [h1, h4] at h5
 have h6 := ha _ (List.getElem_mem h1)
 have h7 := hb _ (List.getElem_mem h4)
 have h8 := congrArg UInt8.toNat h5
 simp at h8
 omega
theorem bytesEq_any (va vb : Value) (xs bs : List Int) (w : World) (ha : IsB xs) (hb : IsB bs) (hra : Rd .u8 w va xs) (hrb : Rd .u8 w vb bs) :
  Calls Tryz.prog 83 #[va, vb] w fun e w' => e = .returned (.bool (decide (xs = bs))) ∧ Same w w' := by
 have h1 := conv_any hra
 have h2 := conv_any hrb
 have HE := (show Hid (((strOfNums xs).toList == (strOfNums bs).toList) = decide (xs = bs)) from by
  by_cases h : xs = bs
  ·subst h
   show _ = _
   simp
  ·rw [decide_eq_false h]
   refine beq_eq_false_iff_ne.2 (fun e => h (strOfNums_inj ha hb ?_))
   rw [ByteArray.toList_eq, ByteArray.toList_eq] at e
   exact ByteArray.ext (Array.ext' e))
 generalize strOfNums xs = s at *
 generalize strOfNums bs = t at *
 clear ha hb hra hrb
 go_enter Tryz.func83, Tryz.ntmps83
 go_wp2
 go_ret
 exact ⟨by rw [← HE.out]; rfl, Kept.refl _ _⟩
theorem sameTxnEntry_nil (a : Option Addr) (n c : Nat) (w : World) (hn : n ≤ maxLen) : Calls Tryz.prog 81 #[.slice none 0 0, .slice a n c] w fun e w' => e = .returned (.bool (decide (n = 0))) ∧ Same w w' := by
 by_cases h : n = 0
 ·subst h
  go_enter Tryz.func81, Tryz.ntmps81
  go_wp2
  refine wp_loop_rounds 1 ?_
  rw [rounds_succ]
  go_wp2
  go_ret
  exact ⟨rfl, Kept.refl _ _⟩
 ·have h2 : ¬ (0 : Int) = (n : Int) := by omega
  go_enter Tryz.func81, Tryz.ntmps81
  go_wp2
  go_ret
  exact ⟨by rw [decide_eq_false h]; rfl, Kept.refl _ _⟩
theorem sameTxnEntry_self (x : FR) (w : World) (hn : x.n ≤ 1125899906842624) (hv : RdF 4 w x) : Calls Tryz.prog 81 #[x.v, x.v] w fun e w' => e = .returned (.bool true) ∧ Same w w' := by
 obtain ⟨hmax, hlen, hform⟩ := hv
 obtain ⟨xe, xa, len, xc, bs⟩ := x
 dsimp only [FR.v] at *
 by_cases h0 : len = 0
 ·subst h0
  go_enter Tryz.func81, Tryz.ntmps81
  go_wp2
  refine wp_loop_rounds 1 ?_
  rw [rounds_succ]
  go_wp2
  go_ret
  exact ⟨rfl, Kept.refl _ _⟩
 ·obtain ⟨b, off, rfl, hle, hc⟩ := hform.resolve_left h0
  have HC := (show Hid (∀ i, i < len * 4 → w.cell? ⟨b, off + i, none⟩ = some (.int .i64 (bs.getD i 0))) from hc)
  clear hc hform hlen hmax
  go_enter Tryz.func81, Tryz.ntmps81
  go_wp2
  go_loopw [5, 13] (fun _ i wr => ∃ (k : Nat), k ≤ len ∧ i = .int .i64 k ∧ Hid (Same w wr)) (fun _ i _ => len - (intOf i).toNat)
  case atStart => exact ⟨0, Nat.zero_le _, rfl, Kept.refl _ _⟩
  case round =>
   obtain ⟨k, hk, rfl, HK⟩ := hrel
   by_cases hlt : k < len
   ·have q0 : wr.cell? ⟨b, off + k * 4, none⟩ = some (.int .i64 (bs.getD (k * 4) 0)) := by have h := HK.out.cellOf (HC.out (k * 4) (by omega)) id; simpa only [Nat.add_assoc] using h
    have q1 : wr.cell? ⟨b, off + k * 4 + 1, none⟩ = some (.int .i64 (bs.getD (k * 4 + 1) 0)) := by have h := HK.out.cellOf (HC.out (k * 4 + 1) (by omega)) id; simpa only [Nat.add_assoc] using h
    have q2 : wr.cell? ⟨b, off + k * 4 + 2, none⟩ = some (.int .i64 (bs.getD (k * 4 + 2) 0)) := by have h := HK.out.cellOf (HC.out (k * 4 + 2) (by omega)) id; simpa only [Nat.add_assoc] using h
    have q3 : wr.cell? ⟨b, off + k * 4 + 3, none⟩ = some (.int .i64 (bs.getD (k * 4 + 3) 0)) := by have h := HK.out.cellOf (HC.out (k * 4 + 3) (by omega)) id; simpa only [Nat.add_assoc] using h
    generalize bs.getD (k * 4) 0 = x0 at *
    generalize bs.getD (k * 4 + 1) 0 = x1 at *
    generalize bs.getD (k * 4 + 2) 0 = x2 at *
    generalize bs.getD (k * 4 + 3) 0 = x3 at *
    go_wp2
    go_quiet (fail)
    go_wp2
    go_roundw
    case rel => exact ⟨k + 1, by omega, by go_num, HK.out.drewN _⟩
    case measure => simp [intOf]; omega
   ·go_wp2
    go_ret
    exact ⟨rfl, HK.out⟩
theorem sameDirtyEntry_nil (a : Option Addr) (n c : Nat) (w : World) (hn : n ≤ maxLen) : Calls Tryz.prog 82 #[.slice none 0 0, .slice a n c] w fun e w' => e = .returned (.bool (decide (n = 0))) ∧ Same w w' := by
 by_cases h : n = 0
 ·subst h
  go_enter Tryz.func82, Tryz.ntmps82
  go_wp2
  refine wp_loop_rounds 1 ?_
  rw [rounds_succ]
  go_wp2
  go_ret
  exact ⟨rfl, Kept.refl _ _⟩
 ·have h2 : ¬ (0 : Int) = (n : Int) := by omega
  go_enter Tryz.func82, Tryz.ntmps82
  go_wp2
  go_ret
  exact ⟨by rw [decide_eq_false h]; rfl, Kept.refl _ _⟩
theorem sameDirtyEntry_self (x : FR) (w : World) (hn : x.n ≤ 1125899906842624) (hv : RdF 2 w x) : Calls Tryz.prog 82 #[x.v, x.v] w fun e w' => e = .returned (.bool true) ∧ Same w w' := by
 obtain ⟨hmax, hlen, hform⟩ := hv
 obtain ⟨xe, xa, len, xc, bs⟩ := x
 dsimp only [FR.v] at *
 by_cases h0 : len = 0
 ·subst h0
  go_enter Tryz.func82, Tryz.ntmps82
  go_wp2
  refine wp_loop_rounds 1 ?_
  rw [rounds_succ]
  go_wp2
  go_ret
  exact ⟨rfl, Kept.refl _ _⟩
 ·obtain ⟨b, off, rfl, hle, hc⟩ := hform.resolve_left h0
  have HC := (show Hid (∀ i, i < len * 2 → w.cell? ⟨b, off + i, none⟩ = some (.int .i64 (bs.getD i 0))) from hc)
  clear hc hform hlen hmax
  go_enter Tryz.func82, Tryz.ntmps82
  go_wp2
  go_loopw [5, 13] (fun _ i wr => ∃ (k : Nat), k ≤ len ∧ i = .int .i64 k ∧ Hid (Same w wr)) (fun _ i _ => len - (intOf i).toNat)
  case atStart => exact ⟨0, Nat.zero_le _, rfl, Kept.refl _ _⟩
  case round =>
   obtain ⟨k, hk, rfl, HK⟩ := hrel
   by_cases hlt : k < len
   ·have q0 : wr.cell? ⟨b, off + k * 2, none⟩ = some (.int .i64 (bs.getD (k * 2) 0)) := by have h := HK.out.cellOf (HC.out (k * 2) (by omega)) id; simpa only [Nat.add_assoc] using h
    have q1 : wr.cell? ⟨b, off + k * 2 + 1, none⟩ = some (.int .i64 (bs.getD (k * 2 + 1) 0)) := by have h := HK.out.cellOf (HC.out (k * 2 + 1) (by omega)) id; simpa only [Nat.add_assoc] using h
    generalize bs.getD (k * 2) 0 = x0 at *
    generalize bs.getD (k * 2 + 1) 0 = x1 at *
    go_wp2
    go_quiet (fail)
    go_wp2
    go_roundw
    case rel => exact ⟨k + 1, by omega, by go_num, HK.out.drewN _⟩
    case measure => simp [intOf]; omega
   ·go_wp2
    go_ret
    exact ⟨rfl, HK.out⟩
def sh (r : Nat) : Nat := if r % 2 = 1 then r / 2 ^^^ 3988292384 else r / 2
def shN : Nat → Nat → Nat
 | 0, r => r
 | k + 1, r => shN k (sh r)
theorem sh_lt (r : Nat) (h : r < 4294967296) : sh r < 4294967296 := by
 unfold sh
 split
 ·exact Nat.xor_lt_two_pow (n := 32) (by omega) (by omega)
 ·omega
theorem shN_lt (k r : Nat) (h : r < 4294967296) : shN k r < 4294967296 := by
 induction k generalizing r with
 | zero => exact h
 | succ k ih => exact ih _ (sh_lt r h)
theorem shN_succ (k r : Nat) : shN (k + 1) r = sh (shN k r) := by
 induction k generalizing r with
 | zero => rfl
 | succ k ih => exact ih (sh r)
theorem half_xor (a b : Nat) : (a ^^^ b) / 2 = a / 2 ^^^ b / 2 := by
 apply Nat.eq_of_testBit_eq
 intro i
 rw [Nat.testBit_xor, Nat.testBit_div_two, Nat.testBit_div_two, Nat.testBit_div_two, Nat.testBit_xor]
theorem odd_xor (a b : Nat) : (a ^^^ b) % 2 = (a % 2 + b % 2) % 2 := by
 have h := Nat.testBit_xor a b 0
 simp only [Nat.testBit_zero] at h
 have := Nat.mod_two_eq_zero_or_one a
 have := Nat.mod_two_eq_zero_or_one b
 have := Nat.mod_two_eq_zero_or_one (a ^^^ b)
 rcases ‹a % 2 = 0 ∨ a % 2 = 1› with h1 | h1 <;> rcases ‹b % 2 = 0 ∨ b % 2 = 1› with h2 | h2 <;> rcases ‹(a ^^^ b) % 2 = 0 ∨ (a ^^^ b) % 2 = 1› with h3 | h3 <;> rw [h1, h2, h3] at h <;> rw [h1, h2, h3] <;> first | rfl | (simp at h)
theorem sh_xor (a b : Nat) : sh (a ^^^ b) = sh a ^^^ sh b := by
 unfold sh
 rw [half_xor, odd_xor]
 have := Nat.mod_two_eq_zero_or_one a
 have := Nat.mod_two_eq_zero_or_one b
 rcases ‹a % 2 = 0 ∨ a % 2 = 1› with h1 | h1 <;> rcases ‹b % 2 = 0 ∨ b % 2 = 1› with h2 | h2 <;> rw [h1, h2] <;> simp only [Nat.zero_add, Nat.add_zero, Nat.reduceMod, Nat.reduceAdd, if_true, if_false, Nat.zero_ne_one]
 ·rw [Nat.xor_assoc]
 ·rw [Nat.xor_assoc, Nat.xor_assoc, Nat.xor_comm 3988292384]
 ·rw [Nat.xor_assoc, Nat.xor_comm (b / 2), ← Nat.xor_assoc 3988292384, Nat.xor_self, Nat.zero_xor]
theorem shN_xor (k a b : Nat) : shN k (a ^^^ b) = shN k a ^^^ shN k b := by
 induction k generalizing a b with
 | zero => rfl
 | succ k ih => simp only [shN]; rw [sh_xor, ih]
theorem sh_even (r : Nat) : sh (2 * r) = r := by
 unfold sh
 rw [if_neg (by omega)]
 omega
theorem shN_mul (k r : Nat) : shN k (2 ^ k * r) = r := by
 induction k generalizing r with
 | zero => simp [shN]
 | succ k ih =>
  simp only [shN]
  rw [show 2 ^ (k + 1) * r = 2 * (2 ^ k * r) from by rw [Nat.pow_succ, Nat.mul_comm (2 ^ k) 2, Nat.mul_assoc], sh_even, ih]
def tab (i : Nat) : Nat := shN 8 i
theorem tab_lt (i : Nat) (h : i < 4294967296) : tab i < 4294967296 := shN_lt 8 i h
theorem parts_xor (r : Nat) : r = 2 ^ 8 * (r / 256) ^^^ r % 256 := by
 have h1 : 2 ^ 8 * (r / 256) ||| r % 256 = 2 ^ 8 * (r / 256) + r % 256 := (Nat.two_pow_add_eq_or_of_lt (i := 8) (by omega) (r / 256)).symm
 have h2 : 2 ^ 8 * (r / 256) &&& r % 256 = 0 := by
  apply Nat.eq_of_testBit_eq
  intro i
  rw [Nat.testBit_and, Nat.zero_testBit, Nat.testBit_two_pow_mul]
  by_cases hi : 8 ≤ i
  ·have : (r % 256).testBit i = false := Nat.testBit_lt_two_pow (Nat.lt_of_lt_of_le (Nat.mod_lt r (by decide)) (Nat.pow_le_pow_right (n := 2) (by decide) hi))
   simp [this]
  ·simp [hi]
 have h3 : 2 ^ 8 * (r / 256) ^^^ r % 256 = 2 ^ 8 * (r / 256) ||| r % 256 := by
  apply Nat.eq_of_testBit_eq
  intro i
  have := congrArg (fun n => n.testBit i) h2
  simp only [Nat.testBit_and, Nat.zero_testBit] at this
  rw [Nat.testBit_xor, Nat.testBit_or]
  revert this
  cases (2 ^ 8 * (r / 256)).testBit i <;> cases (r % 256).testBit i <;> simp
 rw [h3, h1]
 omega
theorem step_tab (r x : Nat) : shN 8 (r ^^^ x) = r / 256 ^^^ tab (r % 256 ^^^ x) := by
 conv => lhs; rw [parts_xor r]
 rw [Nat.xor_assoc, shN_xor, shN_mul]
 rfl
def reg (r : Nat) (bs : List Int) : Nat := bs.foldl (fun r b => shN 8 (r ^^^ b.toNat)) r
theorem reg_take (r : Nat) (bs : List Int) (k : Nat) (h : k < bs.length) : reg r (bs.take (k + 1)) = shN 8 (reg r (bs.take k) ^^^ (bs.getD k 0).toNat) := by
 rw [List.take_succ_eq_append_getElem h]
 unfold reg
 rw [List.foldl_append]
 simp [h]
theorem reg_lt (r : Nat) (bs : List Int) (h : r < 4294967296) (hb : IsB bs) : reg r bs < 4294967296 := by
 induction bs generalizing r with
 | nil => exact h
 | cons b bs ih =>
  have h1 := hb b (by simp)
  exact ih _ (shN_lt 8 _ (Nat.xor_lt_two_pow (n := 32) (by omega) (by omega))) (fun y hy => hb y (by simp [hy]))
def crcOn (sum : Int) (bs : List Int) : Int := if sum < 0 ∨ 4294967295 < sum then -1 else 4294967295 - reg (4294967295 - sum).toNat bs
/-! ### The table, as it is filled: m bits done, n entries of the next one -/
def tabM (m n : Nat) : List Int := (List.range 256).map fun j => if j % 2 ^ (8 - m) = 0 ∨ (j % 2 ^ (7 - m) = 0 ∧ j < 2 ^ (8 - m) * n) then ((tab j : Nat) : Int) else 0
theorem tabM_length (m n : Nat) : (tabM m n).length = 256 := by simp [tabM]
theorem tabM_at (m n j : Nat) (h : j < 256) : (tabM m n)[j]? = some (if j % 2 ^ (8 - m) = 0 ∨ (j % 2 ^ (7 - m) = 0 ∧ j < 2 ^ (8 - m) * n) then ((tab j : Nat) : Int) else 0) := by
 simp [tabM, h]
theorem tabM_zero : tabM 0 0 = List.replicate 256 0 := by decide +kernel
theorem tabM_next (m : Nat) (h : m < 8) : tabM m (2 ^ m) = tabM (m + 1) 0 := by
 have : ∀ m < 8, tabM m (2 ^ m) = tabM (m + 1) 0 := by decide +kernel
 exact this m h
theorem tabM_all (j : Nat) (h : j < 256) : (tabM 8 0)[j]? = some ((tab j : Nat) : Int) := by
 rw [tabM_at _ _ _ h, if_pos (.inl (by simp [Nat.mod_one]))]
theorem tabM_read (m n : Nat) (h : m < 8) (hn : n < 2 ^ m) : (tabM m n)[2 ^ (8 - m) * n]? = some ((tab (2 ^ (8 - m) * n) : Nat) : Int) := by
 have hb : 2 ^ (8 - m) * n < 256 := by
  have : 2 ^ (8 - m) * n < 2 ^ (8 - m) * 2 ^ m := Nat.mul_lt_mul_of_pos_left hn (Nat.two_pow_pos _)
  rwa [← Nat.pow_add, show 8 - m + m = 8 from by omega] at this
 rw [tabM_at _ _ _ hb, if_pos (.inl (Nat.mul_mod_right _ _))]
theorem tabM_step (m n : Nat) (h : m < 8) (hn : n < 2 ^ m) : (tabM m n).set (2 ^ (8 - m) * n + 2 ^ (7 - m)) ((tab (2 ^ (8 - m) * n) ^^^ shN (m + 1) 1 : Nat) : Int) = tabM m (n + 1) := by
 have key : ∀ m < 8, ∀ n < 2 ^ m, tab (2 ^ (8 - m) * n + 2 ^ (7 - m)) = tab (2 ^ (8 - m) * n) ^^^ shN (m + 1) 1 := by decide +kernel
 rw [← key m h n hn]
 apply List.ext_getElem?
 intro j
 by_cases hj : j < 256
 ·rw [tabM_at m (n + 1) j hj, List.getElem?_set, tabM_length, tabM_at m n j hj]
  clear key
  have : m = 0 ∨ m = 1 ∨ m = 2 ∨ m = 3 ∨ m = 4 ∨ m = 5 ∨ m = 6 ∨ m = 7 := by omega
  rcases this with rfl | rfl | rfl | rfl | rfl | rfl | rfl | rfl <;> simp only [Nat.reducePow, Nat.reduceSub] at hn ⊢ <;>
  (split
   ·rename_i he
    subst he
    rw [if_pos (by omega), if_pos (by omega)]
   ·congr 1
    apply ite_congr (propext ⟨fun h => by omega, fun h => by omega⟩) (fun _ => rfl) (fun _ => rfl))
 ·rw [List.getElem?_eq_none (by rw [List.length_set, tabM_length]; omega), List.getElem?_eq_none (by rw [tabM_length]; omega)]
theorem disable (w : World) : (callFunc 107 #[]).run Tryz.prog w = .ok (.value (.tuple #[])) w := run_call_mark0 Tryz.func107 (by kernel_rfl) (by kernel_rfl) (by kernel_rfl) .disable (by kernel_rfl) w
theorem enable (w : World) : (callFunc 109 #[]).run Tryz.prog w = .ok (.value (.tuple #[])) w := run_call_mark0 Tryz.func109 (by kernel_rfl) (by kernel_rfl) (by kernel_rfl) .enable (by kernel_rfl) w
theorem acquire (a : Addr) (w : World) : (callFunc 110 #[.pointer (some a)]).run Tryz.prog w = .ok (.value (.tuple #[])) w := run_call_marked Tryz.func110 (by kernel_rfl) (by kernel_rfl) (by kernel_rfl) .acquire (by kernel_rfl) a w
theorem releaseMerge (a : Addr) (w : World) : (callFunc 112 #[.pointer (some a)]).run Tryz.prog w = .ok (.value (.tuple #[])) w := run_call_marked Tryz.func112 (by kernel_rfl) (by kernel_rfl) (by kernel_rfl) .releaseMerge (by kernel_rfl) a w
theorem store_deferred (a : Addr) (x : Value) (u : FrameMode) (w : World) (hc : w.cell? a = some x) (hz : w.frozen? a = false) :
  CallsD Tryz.prog 102 #[.pointer (some a), .bool true] u w fun e u' w' => u' = u ∧ (e = .returned (.tuple #[]) ∧ w' = w.drew.setCell a (.int .u32 1)) := by
 have hc' : w.drew.cell? a = some x := by go_simp
 have hz' : w.drew.frozen? a = false := by go_simp
 have hst := run_call_store (P := Tryz.prog) Tryz.func105 (by kernel_rfl) (by kernel_rfl) (by kernel_rfl) (by kernel_rfl) (k := .u32) (y := 1) hc' hz'
 go_enter_d Tryz.func102, Tryz.ntmps102
 go_wp2
 go_region_calls
 all_goals (go_end0; exact ⟨rfl, rfl⟩)
theorem unlock_deferred (a : Addr) (u : FrameMode) (w : World) (hc : w.cell? a = some (.int .i32 1)) (hz : w.frozen? a = false) :
  CallsD Tryz.prog 101 #[.pointer (some a)] u w fun e u' w' => u' = u ∧ (e = .returned (.tuple #[]) ∧ w' = w.setCell a (.int .i32 0)) := by
 have hd := disable
 have he := enable
 have hr := releaseMerge
 have hadd := run_call_add (P := Tryz.prog) Tryz.func113 (by kernel_rfl) (by kernel_rfl) (by kernel_rfl) .i32 (by kernel_rfl) (y := -1) (s := 0) hc hz (by simp [go_sem]; rfl)
 have hcv := run_convert_to_unsafe (P := Tryz.prog) (src := 154) (dst := 158) Tryz.underlying154 Tryz.underlying158 (by kernel_rfl) hc
 go_enter_d Tryz.func101, Tryz.ntmps101
 go_wp2
 go_end0
 go_wp2
 go_end0
 exact ⟨rfl, rfl⟩
theorem lock_free (a : Addr) (w : World) (hc : w.cell? a = some (.int .i32 0)) (hz : w.frozen? a = false) :
  Calls Tryz.prog 100 #[.pointer (some a)] w fun e w' => e = .returned (.tuple #[]) ∧ w' = w.setCell a (.int .i32 1) := by
 have hd := disable
 have he := enable
 have ha := acquire
 have hcas := run_call_cas_hit (P := Tryz.prog) Tryz.func108 (by kernel_rfl) (by kernel_rfl) (by kernel_rfl) .i32 (by kernel_rfl) (y := 1) hc hz
 have hc' : (w.setCell a (.int .i32 1)).cell? a = some (.int .i32 1) := World.cell?_setCell_same w a _ hc
 have hcv := run_convert_to_unsafe (P := Tryz.prog) (src := 154) (dst := 158) Tryz.underlying154 Tryz.underlying158 (by kernel_rfl) hc'
 go_enter Tryz.func100, Tryz.ntmps100
 go_wp2
 first | go_end0 | (simp only [Exit.inBlock, Exit.then]; refine bodyPost_ret (results_none rfl _ _ _) rfl ?_) | refine bodyPost_ret (results_none rfl _ _ _) rfl ?_
 go_wp2
 go_end0
 exact ⟨rfl, rfl⟩
theorem load_zero (a : Addr) (w : World) (hc : w.cell? a = some (.int .u32 0)) :
  Calls Tryz.prog 96 #[.pointer (some a)] w fun e w' => e = .returned (.bool false) ∧ w' = w := by
 have hl := run_call_load (P := Tryz.prog) Tryz.func99 (by kernel_rfl) (by kernel_rfl) (by kernel_rfl) .u32 (by kernel_rfl) hc
 go_enter Tryz.func96, Tryz.ntmps96
 go_wp2
 go_ret
 exact ⟨rfl, rfl⟩
theorem slow_any (B : Nat) (t : TypeId) (xs : List Value) (w : World) (hb : Blk w B t xs) (h0 : xs[0]? = some (.int .u32 0)) (h1 : xs[1]? = some (.int .i32 0)) (Q : World → List Value → Prop)
  (hF : Calls Tryz.prog 95 #[.pointer (some ⟨B, 0, none⟩)] (w.setCell ⟨B, 1, none⟩ (.int .i32 1)) fun e w' => e = .returned (.tuple #[]) ∧ ∃ ys, Blk w' B t ys ∧ ys[0]? = some (.int .u32 0) ∧ ys[1]? = some (.int .i32 1) ∧ Q w' ys) :
  Calls Tryz.prog 97 #[.pointer (some ⟨B, 0, none⟩), .func (.func 95) #[.pointer (some ⟨B, 0, none⟩)] #[]] w fun e w' => e = .returned (.tuple #[]) ∧
   ∃ w1 ys, Blk w1 B t ys ∧ Q w1 ys ∧ w' = (w1.drew.setCell ⟨B, 0, none⟩ (.int .u32 1)).setCell ⟨B, 1, none⟩ (.int .i32 0) := by
 have c0 : w.cell? ⟨B, 0, none⟩ = some (.int .u32 0) := by rw [hb.cell, h0]
 have c1 : w.cell? ⟨B, 1, none⟩ = some (.int .i32 0) := by rw [hb.cell, h1]
 have f1 := hb.frozen 1
 have c0' : (w.setCell ⟨B, 1, none⟩ (.int .i32 1)).cell? ⟨B, 0, none⟩ = some (.int .u32 0) := (World.cell?_setCell_other _ ⟨B, 1, none⟩ ⟨B, 0, none⟩ _ (by simp)).trans c0
 go_enter_defers Tryz.func97, Tryz.ntmps97
 go_wp2_with (first
  | (go_at_call 100; refine (lock_free ⟨B, 1, none⟩ _ (by go_simp) (by go_simp)).mono ?_; rintro e w' ⟨rfl, rfl⟩)
  | (go_at_call 96; refine (load_zero ⟨B, 0, none⟩ _ c0').mono ?_; rintro e w' ⟨rfl, rfl⟩)
  | (go_at_call 95; refine hF.mono ?_; rintro e w' ⟨rfl, ys, hy, hy0, hy1, hq⟩))
 have k0 : w'.cell? ⟨B, 0, none⟩ = some (.int .u32 0) := by rw [hy.cell, hy0]
 have k1 : w'.cell? ⟨B, 1, none⟩ = some (.int .i32 1) := by rw [hy.cell, hy1]
 have z0 := hy.frozen 0
 have z1 := hy.frozen 1
 go_wp2
 refine leaves_cons (f := 102) (args := #[.pointer (some ⟨B, 0, none⟩), .bool true]) (by simp) (by simp [go_sem]) ?_
 refine (store_deferred ⟨B, 0, none⟩ (.int .u32 0) .returning _ k0 z0).mono ?_
 rintro e u' w'' ⟨rfl, rfl, rfl⟩
 refine leaves_cons (f := 101) (args := #[.pointer (some ⟨B, 1, none⟩)]) (by simp [settle]) (by simp [go_sem]) ?_
 refine (unlock_deferred ⟨B, 1, none⟩ _ _ ?_ (by simp [z1])).mono ?_
 ·refine (World.cell?_setCell_other _ ⟨B, 0, none⟩ ⟨B, 1, none⟩ _ (by simp)).trans ?_
  rw [World.cell?_drew]
  exact k1
 rintro e u' w'' ⟨rfl, rfl, rfl⟩
 have fin : ∃ w1 ys, Blk w1 B t ys ∧ Q w1 ys ∧ (w'.drew.setCell ⟨B, 0, none⟩ (.int .u32 1)).setCell ⟨B, 1, none⟩ (.int .i32 0) = (w1.drew.setCell ⟨B, 0, none⟩ (.int .u32 1)).setCell ⟨B, 1, none⟩ (.int .i32 0) := ⟨w', ys, hy, hq, rfl⟩
 simpa [Leaves, settle, results, Tryz.results97] using fin
theorem do_any (B : Nat) (t : TypeId) (xs : List Value) (w : World) (hb : Blk w B t xs) (h0 : xs[0]? = some (.int .u32 0)) (h1 : xs[1]? = some (.int .i32 0)) (Q : World → List Value → Prop)
  (hF : Calls Tryz.prog 95 #[.pointer (some ⟨B, 0, none⟩)] (w.setCell ⟨B, 1, none⟩ (.int .i32 1)) fun e w' => e = .returned (.tuple #[]) ∧ ∃ ys, Blk w' B t ys ∧ ys[0]? = some (.int .u32 0) ∧ ys[1]? = some (.int .i32 1) ∧ Q w' ys) :
  Calls Tryz.prog 94 #[.pointer (some ⟨B, 0, none⟩), .func (.func 95) #[.pointer (some ⟨B, 0, none⟩)] #[]] w fun e w' => e = .returned (.tuple #[]) ∧
   ∃ w1 ys, Blk w1 B t ys ∧ Q w1 ys ∧ w' = (w1.drew.setCell ⟨B, 0, none⟩ (.int .u32 1)).setCell ⟨B, 1, none⟩ (.int .i32 0) := by
 have c0 : w.cell? ⟨B, 0, none⟩ = some (.int .u32 0) := by rw [hb.cell, h0]
 go_enter Tryz.func94, Tryz.ntmps94
 go_wp2_with (first
  | (go_at_call 97; refine (slow_any B t xs _ hb h0 h1 Q hF).mono ?_; rintro e w' ⟨rfl, hr⟩)
  | (go_at_call 96; refine (load_zero ⟨B, 0, none⟩ _ c0).mono ?_; rintro e w' ⟨rfl, rfl⟩))
 go_end0
 exact ⟨rfl, hr⟩
section
variable {P : Program} {ops : Array Oper} {Q : Exit → Act → World → Prop} {md : Region.Mode} {S : World → Prop} {s : Nat}
def wpAnyV (P : Program) (md : Region.Mode) (ops : Array Oper) (Q : Exit → Act → World → Prop) (S : World → Prop) (s : Nat) : Nat → Array Bool → Act → World → Prop
 | 0, listed, a, w => Region.ready md ops listed = [] ∧ Q .normal a w
 | fuel + 1, listed, a, w =>
  (Region.ready md ops listed = [] → Q .normal a w) ∧
  ∀ i ∈ Region.ready md ops listed, wpOp P ops Q i (fun a' w' => (i ≠ s → S w') ∧ wpAnyV P md ops Q S s fuel (listed.setIfInBounds i true) a' w') a w
theorem wpAny_of_V : ∀ (fuel : Nat) (listed : Array Bool) (a : Act) (w : World), wpAnyV P md ops Q S s fuel listed a w → wpAny P md ops Q fuel listed a w
 | 0, _, _, _, h => h
 | fuel + 1, _, _, _, h => ⟨h.1, fun i hi => wpOp_mono (fun a' w' h' => wpAny_of_V fuel _ a' w' h'.2) (h.2 i hi)⟩
def waits (md : Region.Mode) (ops : Array Oper) (s i : Nat) : Bool :=
 match ops[s]? with
 | some o => o.after.any fun e => Region.binds md e && e.on == i
 | none => true
theorem waits_spec {i : Nat} (h : waits md ops s i = true) {os : Oper} (ho : ops[s]? = some os) (hn : ∀ e ∈ os.after, Region.binds md e = true → e.on ≠ i) : False := by
 unfold waits at h
 rw [ho] at h
 obtain ⟨e, he, hb⟩ := Array.any_eq_true'.1 h
 simp only [Bool.and_eq_true, beq_iff_eq] at hb
 exact hn e he hb.1 hb.2
theorem ready_apart {listed : Array Bool} {i j : Nat} (hi : i ∈ Region.ready md ops listed) (hj : j ∈ Region.ready md ops listed) {oj : Oper} (hoj : ops[j]? = some oj) :
  ∀ e ∈ oj.after, Region.binds md e = true → e.on ≠ i := by
 rintro e he hb rfl
 obtain ⟨_, o, ho, hall⟩ := mem_ready.1 hj
 obtain rfl : o = oj := by rw [hoj] at ho; exact (Option.some.inj ho).symm
 have hyes := hall e he hb
 have hno := (mem_ready.1 hi).1
 by_cases hl : e.on < listed.size <;> simp_all
def Loose (md : Region.Mode) (ops : Array Oper) (i : Nat) (oi : Oper) (listed : Array Bool) : Prop :=
 ∀ j oj, ops[j]? = some oj → j ≠ i → listed.getD j true = false → (∀ e ∈ oj.after, Region.binds md e = true → e.on ≠ i) → oi.apart ops oj = true
theorem Loose.on {i j : Nat} {oi : Oper} {listed : Array Bool} (h : Loose md ops i oi listed) (hj : listed.getD j true = false) : Loose md ops i oi (listed.setIfInBounds j true) := fun k ok hk hki hun hno =>
 h k ok hk hki (if e : j = k then e ▸ hj else (getD_set_ne true e) ▸ hun) hno
theorem wpAnyV_first {i : Nat} {oi : Oper} {v : Value} (hi : ops[i]? = some oi) (hsel : ∀ (j : Nat) (o : Oper) cs b, ops[j]? = some o → o.op ≠ .select cs b) (hs : waits md ops s i = true)
  (hQ : ∀ c a w, Q (.panic c) (a.put oi.dst v) w → Q (.panic c) a w) (fuel : Nat) : ∀ (listed : Array Bool) (a : Act) (w : World), Loose md ops i oi listed → i ∈ Region.ready md ops listed → YieldsIf P ops S oi v a → S w →
   wpAnyV P md ops Q S s fuel (listed.setIfInBounds i true) (a.put oi.dst v) w → wpAnyV P md ops Q S s (fuel + 1) listed a w := by
 induction fuel with
 | zero =>
  intro listed a w _ hr hy hS H
  constructor
  ·intro h0; simp [h0] at hr
  ·intro j hj
   by_cases e : j = i
   ·exact e ▸ hy.wpOp hi hS ⟨fun _ => hS, H⟩
   ·have := ready_mono hj e
    simp [H.1] at this
 | succ fuel ih =>
  intro listed a w hl hr hy hS H
  constructor
  ·intro h0; simp [h0] at hr
  ·intro j hj
   by_cases e : j = i
   ·exact e ▸ hy.wpOp hi hS ⟨fun _ => hS, H⟩
   ·obtain ⟨hun, oj, hoj, _⟩ := mem_ready.1 hj
    have hap := ready_apart hr hj hoj
    have hjs : j ≠ s := fun es => waits_spec hs (es ▸ hoj) hap
    refine wpOp_mono ?_ (wpOp_putIf hoj (hl j oj hoj e hun hap) (fun cs b => hsel i oi cs b hi) (fun cs b => hsel j oj cs b hoj) hQ hy (H.2 j (ready_mono hj e)))
    rintro a' w' ⟨hy', hS', hw'⟩
    exact ⟨hS', ih _ a' w' (hl.on hun) (ready_mono hr (Ne.symm e)) hy' (hS' hjs) (by rw [Array.setIfInBounds_comm _ _ e]; exact hw')⟩
theorem wpAnyV_take {i : Nat} {oi : Oper} {v : Value} {fuel : Nat} {listed : Array Bool} {a : Act} {w : World} (d : Option Tmp) (hi : ops[i]? = some oi) (hd : oi.dst = d)
  (hsl : Region.noSelect ops = true) (hf : Region.free md ops listed i = true) (hr : (Region.ready md ops listed).contains i = true) (hs : waits md ops s i = true)
  (hQ : ∀ c a w, Q (.panic c) (a.put d v) w → Q (.panic c) a w) (hy : YieldsIf P ops S oi v a) (hS : S w)
  (h : wpAnyV P md ops Q S s fuel (listed.setIfInBounds i true) (a.put d v) w) : wpAnyV P md ops Q S s (fuel + 1) listed a w := by
 subst hd
 exact wpAnyV_first hi (Region.noSelect_spec hsl) hs hQ fuel listed a w (Region.free_spec hi hf) (by simpa using hr) hy hS h
theorem sA {α : Type} {l : List α} {i : Nat} {a : α} : l.toArray.setIfInBounds i a = (l.set i a).toArray := List.setIfInBounds_toArray ..
theorem s0 {α : Type} {x : α} {xs : List α} {a : α} : (x :: xs).set 0 a = a :: xs := List.set_cons_zero
theorem sS {α : Type} {x : α} {xs : List α} {i : Nat} {a : α} : (x :: xs).set (i + 1) a = x :: xs.set i a := List.set_cons_succ
theorem tk (i d : Nat) {oi : Oper} {v : Value} {fuel : Nat} {listed : Array Bool} {a a' : Act} {w : World} (hS : S w)
  (h : wpAnyV P md ops Q S s fuel (listed.setIfInBounds i true) a' w) (hi : ops[i]? = some oi := by rfl) (hg : Region.wanted oi (yielded ops a.tmps) = true := by rfl) (hd : oi.dst = some d := by rfl)
  (hy : ∀ w, S w → (execOp a.eval oi).run P w = .ok (.value v) w := by intro w hSw; (try dsimp (config := { zetaDelta := true }) only at hSw); go_simp; (try with_reducible rfl))
  (hsl : Region.noSelect ops = true := by kernel_rfl) (hf : Region.free md ops listed i = true := by kernel_rfl) (hr : (Region.ready md ops listed).contains i = true := by kernel_rfl) (hs : waits md ops s i = true := by kernel_rfl)
  (hQ : ∀ c a w, Q (.panic c) (a.put (some d) v) w → Q (.panic c) a w := by exact fun _ _ _ h => h)
  (ha : a.put (some d) v = a' := by first | (simp only [Act.put, sA, s0, sS]; done) | (simp only [Act.put, sA, s0, sS]; rfl) | rfl) : wpAnyV P md ops Q S s (fuel + 1) listed a w :=
 wpAnyV_take (some d) hi hd hsl hf hr hs hQ (Or.inl ⟨hg, hy⟩) hS (ha ▸ h)
theorem tkV (i d : Nat) (v : Value) {oi : Oper} {fuel : Nat} {listed : Array Bool} {a a' : Act} {w : World} (hS : S w)
  (h : wpAnyV P md ops Q S s fuel (listed.setIfInBounds i true) a' w) (hi : ops[i]? = some oi := by rfl) (hg : Region.wanted oi (yielded ops a.tmps) = true := by rfl) (hd : oi.dst = some d := by rfl)
  (hy : ∀ w, S w → (execOp a.eval oi).run P w = .ok (.value v) w := by intro w hSw; (try dsimp (config := { zetaDelta := true }) only at hSw); go_simp; (try omega))
  (hsl : Region.noSelect ops = true := by kernel_rfl) (hf : Region.free md ops listed i = true := by kernel_rfl) (hr : (Region.ready md ops listed).contains i = true := by kernel_rfl) (hs : waits md ops s i = true := by kernel_rfl)
  (hQ : ∀ c a w, Q (.panic c) (a.put (some d) v) w → Q (.panic c) a w := by exact fun _ _ _ h => h)
  (ha : a.put (some d) v = a' := by first | (simp only [Act.put, sA, s0, sS]; done) | (simp only [Act.put, sA, s0, sS]; rfl) | rfl) : wpAnyV P md ops Q S s (fuel + 1) listed a w :=
 wpAnyV_take (some d) hi hd hsl hf hr hs hQ (Or.inl ⟨hg, hy⟩) hS (ha ▸ h)
theorem tkS (i d : Nat) {oi : Oper} {fuel : Nat} {listed : Array Bool} {a a' : Act} {w : World} (hS : S w)
  (h : wpAnyV P md ops Q S s fuel (listed.setIfInBounds i true) a' w) (hi : ops[i]? = some oi := by rfl) (hg : Region.wanted oi (yielded ops a.tmps) = false := by rfl) (hd : oi.dst = some d := by rfl)
  (hsl : Region.noSelect ops = true := by kernel_rfl) (hf : Region.free md ops listed i = true := by kernel_rfl) (hr : (Region.ready md ops listed).contains i = true := by kernel_rfl) (hs : waits md ops s i = true := by kernel_rfl)
  (hQ : ∀ c a w, Q (.panic c) (a.put (some d) undef) w → Q (.panic c) a w := by exact fun _ _ _ h => h)
  (ha : a.put (some d) undef = a' := by first | (simp only [Act.put, sA, s0, sS]; done) | (simp only [Act.put, sA, s0, sS]; rfl) | rfl) : wpAnyV P md ops Q S s (fuel + 1) listed a w :=
 wpAnyV_take (some d) hi hd hsl hf hr hs hQ (Or.inr ⟨hg, rfl⟩) hS (ha ▸ h)
theorem wpAnyV_one {i : Nat} {o : Oper} {fuel : Nat} {listed : Array Bool} {a : Act} {w : World} (hr : Region.ready md ops listed = [i]) (ho : ops[i]? = some o)
  (h : ∀ K' : Act → World → Prop, Shut (∀ a w, (i ≠ s → S w) → wpAnyV P md ops Q S s fuel (listed.setIfInBounds i true) a w → K' a w) → if Region.wanted o (yielded ops a.tmps) = true then Oper.wp P o a w K' Q else K' (a.put o.dst undef) w) :
  wpAnyV P md ops Q S s (fuel + 1) listed a w := by
 constructor
 ·intro h0; simp [hr] at h0
 ·intro j hj
  rw [hr] at hj
  obtain rfl : j = i := by simpa using hj
  exact wpOp_step ho (fun K' hK => h K' (fun a w hS hW => hK a w ⟨hS, hW⟩))
theorem wpAnyV_two {i j : Nat} {o o' : Oper} {fuel : Nat} {listed : Array Bool} {a : Act} {w : World} (hr : Region.ready md ops listed = [i, j]) (ho : ops[i]? = some o) (ho' : ops[j]? = some o')
  (h : ∀ K' : Act → World → Prop, Shut (∀ a w, (i ≠ s → S w) → wpAnyV P md ops Q S s fuel (listed.setIfInBounds i true) a w → K' a w) → if Region.wanted o (yielded ops a.tmps) = true then Oper.wp P o a w K' Q else K' (a.put o.dst undef) w)
  (h' : ∀ K' : Act → World → Prop, Shut (∀ a w, (j ≠ s → S w) → wpAnyV P md ops Q S s fuel (listed.setIfInBounds j true) a w → K' a w) → if Region.wanted o' (yielded ops a.tmps) = true then Oper.wp P o' a w K' Q else K' (a.put o'.dst undef) w) :
  wpAnyV P md ops Q S s (fuel + 1) listed a w := by
 constructor
 ·intro h0; simp [hr] at h0
 ·intro k hk
  rw [hr] at hk
  simp only [List.mem_cons, List.not_mem_nil, or_false] at hk
  rcases hk with rfl | rfl
  ·exact wpOp_step ho (fun K' hK => h K' (fun a w hS hW => hK a w ⟨hS, hW⟩))
  ·exact wpOp_step ho' (fun K' hK => h' K' (fun a w hS hW => hK a w ⟨hS, hW⟩))
theorem wpAnyV_done {fuel : Nat} {listed : Array Bool} {a : Act} {w : World} (hr : Region.ready md ops listed = []) (h : Q .normal a w) : wpAnyV P md ops Q S s fuel listed a w := by
 cases fuel with
 | zero => exact ⟨hr, h⟩
 | succ n => exact ⟨fun _ => h, by rw [hr]; simp⟩
theorem wp_region_V {id : Nat} {a : Act} {w : World} (S : World → Prop) (s n : Nat) (hn : ops.size = n) (hm : P.follows .mixedOrders = true) (h : wpAnyV P .any ops Q S s n (Array.replicate n false) a w.drew) : (Code.region id ops true).wp P Q a w := by
 subst hn
 exact wp_region_any hm (wpAny_of_V _ _ _ _ h)
end
def tcells (d s q : Int) (T : List Int) : List Value := .int .u32 d :: .int .i32 s :: .int .u32 q :: vals .u32 T
theorem tcells_at (d s q : Int) (T : List Int) (j : Nat) : (tcells d s q T)[j + 3]? = (vals .u32 T)[j]? := rfl
theorem tcells_set (d s q : Int) (T : List Int) (j : Nat) (x : Int) : (tcells d s q T).set (j + 3) (.int .u32 x) = tcells d s q (T.set j x) := by simp [tcells, vals]
theorem shiftSum_any (r : Nat) (h : r < 4294967296) (w : World) :
  Calls Tryz.prog 98 #[.int .u32 r] w fun e w' => e = .returned (.int .u32 (sh r)) ∧ w' = w := by
 have h1 : bits .and .u32 (r : Int) 1 = ((r % 2 : Nat) : Int) := by rw [show (1 : Int) = ((1 : Nat) : Int) from rfl, u32_and_nat r 1 h (by decide), nat_mask1]
 by_cases ho : r % 2 = 1
 ·have h2 : bits .xor .u32 ((r : Int) / 2) 3988292384 = ((r / 2 ^^^ 3988292384 : Nat) : Int) := u32_xor_nat (r / 2) 3988292384 (by omega) (by decide)
  have h3 : sh r = r / 2 ^^^ 3988292384 := by unfold sh; rw [if_pos ho]
  rw [h3]
  rw [ho] at h1
  go_enter Tryz.func98, Tryz.ntmps98
  go_wp2
  go_ret
  exact ⟨rfl, rfl⟩
 ·have h3 : sh r = r / 2 := by unfold sh; rw [if_neg ho]
  rw [h3]
  have ho' : r % 2 = 0 := by omega
  rw [ho'] at h1
  go_enter Tryz.func98, Tryz.ntmps98
  go_wp2
  go_ret
  exact ⟨rfl, rfl⟩
def bitOf (m : Nat) : Int := if m < 8 then ((2 ^ (7 - m) : Nat) : Int) else 0
theorem bitOf_next (m : Nat) (h : m < 8) : bitOf m / 2 = bitOf (m + 1) := by
 have : ∀ m < 8, bitOf m / 2 = bitOf (m + 1) := by decide +kernel
 exact this m h
theorem bitOf_lt (m : Nat) (h : m < 8) : 1 ≤ 2 ^ (7 - m) ∧ 2 ^ (7 - m) ≤ 128 ∧ 2 ^ (8 - m) = 2 * 2 ^ (7 - m) := by
 have : ∀ m < 8, 1 ≤ 2 ^ (7 - m) ∧ 2 ^ (7 - m) ≤ 128 ∧ 2 ^ (8 - m) = 2 * 2 ^ (7 - m) := by decide +kernel
 exact this m h
theorem entry_lt (m n : Nat) (h : m < 8) (hn : n < 2 ^ m) : 2 ^ (8 - m) * n + 2 ^ (7 - m) < 256 ∧ 2 ^ (8 - m) * (n + 1) ≤ 256 := by
 have h1 : 2 ^ (8 - m) * (n + 1) ≤ 2 ^ (8 - m) * 2 ^ m := Nat.mul_le_mul_left _ hn
 have h2 := bitOf_lt m h
 rw [← Nat.pow_add, show 8 - m + m = 8 from by omega] at h1
 rw [Nat.mul_succ] at h1
 rw [Nat.mul_succ]
 omega
theorem fill_any (B : Nat) (t : TypeId) (w : World) (hb : Blk w B t (tcells 0 1 0 (List.replicate 256 0))) :
  Calls Tryz.prog 95 #[.pointer (some ⟨B, 0, none⟩)] w fun e w' => e = .returned (.tuple #[]) ∧ Blk w' B t (tcells 0 1 0 (tabM 8 0)) ∧ Kept (fun b => b = B) w w' := by
 have HB : Hid (Blk w B t (tcells 0 1 0 (tabM 0 0))) := by rw [tabM_zero]; exact hb
 clear hb
 go_enter Tryz.func95, Tryz.ntmps95
 go_wp2
 go_loopw [2, 3] (fun r b wr => ∃ m : Nat, m ≤ 8 ∧ r = .int .u32 (shN m 1) ∧ b = .int .i64 (bitOf m) ∧ Hid (Blk wr B t (tcells 0 1 0 (tabM m 0))) ∧ Hid (Kept (fun b => b = B) w wr)) (fun _ b _ => (intOf b).toNat)
 case atStart => exact ⟨0, by omega, rfl, rfl, HB, Kept.refl _ _⟩
 case round =>
  obtain ⟨m, hm, rfl, rfl, HBr, HKr⟩ := hrel
  by_cases hlt : m < 8
  ·have hs1 := shN_lt m 1 (by decide)
   have hs2 := shN_lt (m + 1) 1 (by decide)
   have HS := (show Hid (sh (shN m 1) = shN (m + 1) 1) from (shN_succ m 1).symm)
   have HBN := (show Hid (bitOf m / 2 = bitOf (m + 1)) from bitOf_next m hlt)
   have hbo : bitOf m = ((2 ^ (7 - m) : Nat) : Int) := by unfold bitOf; rw [if_pos hlt]
   obtain ⟨p1, p2, p3⟩ := bitOf_lt m hlt
   rw [hbo]
   have HBO := (show Hid (bitOf m = ((2 ^ (7 - m) : Nat) : Int)) from hbo)
   clear hbo
   obtain ⟨b, hbb⟩ : ∃ b : Nat, 2 ^ (7 - m) = b := ⟨_, rfl⟩
   have HBB := (show Hid (2 ^ (7 - m) = b) from hbb)
   rw [hbb] at p1 p2 p3 ⊢
   clear hbb
   go_wp2_with (go_at_call 98; refine (shiftSum_any _ hs1 _).mono ?_; rintro e w' ⟨rfl, rfl⟩; rw [HS.out])
   obtain ⟨s1, hs1e⟩ : ∃ s1 : Nat, shN (m + 1) 1 = s1 := ⟨_, rfl⟩
   have HS1 := (show Hid (shN (m + 1) 1 = s1) from hs1e)
   rw [hs1e] at hs2 ⊢
   clear hs1e hs1 HS
   go_loopw [4] (fun i wr => ∃ n : Nat, n ≤ 2 ^ m ∧ i = .int .i64 ((2 ^ (8 - m) * n : Nat) : Int) ∧ Hid (Blk wr B t (tcells 0 1 0 (tabM m n))) ∧ Hid (Kept (fun b => b = B) w wr)) (fun i _ => 256 - (intOf i).toNat)
   case atStart => exact ⟨0, Nat.zero_le _, rfl, HBr, HKr⟩
   case round =>
    obtain ⟨n, hn, rfl, HBi, HKi⟩ := hrel
    by_cases hnl : n < 2 ^ m
    ·obtain ⟨q1, q2⟩ := entry_lt m n hlt hnl
     have HST := (show Hid (_ = _) from tabM_step m n hlt hnl)
     have q3 : wr.cell? ⟨B, 3 + 2 ^ (8 - m) * n, none⟩ = some (.int .u32 ((tab (2 ^ (8 - m) * n) : Nat) : Int)) := by
      rw [HBi.out.cell, Nat.add_comm, tcells_at]
      have := tabM_read m n hlt hnl
      simp [vals, this]
     have q4 := HBi.out.frozen (3 + (2 ^ (8 - m) * n + b))
     obtain ⟨y, q5⟩ : ∃ y, wr.cell? ⟨B, 3 + (2 ^ (8 - m) * n + b), none⟩ = some (.int .u32 y) := by
      rw [HBi.out.cell, Nat.add_comm, tcells_at, vals_at _ _ _ (by rw [tabM_length]; rw [HBB.out] at q1; exact q1)]
      exact ⟨_, rfl⟩
     have HNX := (show Hid (2 ^ (8 - m) * (n + 1) = 2 ^ (8 - m) * n + 2 * b) from (by rw [Nat.mul_succ, p3] : 2 ^ (8 - m) * (n + 1) = 2 ^ (8 - m) * n + 2 * b))
     rw [HNX.out] at q2
     have HQ := (show Hid (2 ^ (8 - m) * n + 2 * b ≤ 256) from q2)
     rw [HBB.out] at q1
     obtain ⟨i, hi⟩ : ∃ i : Nat, 2 ^ (8 - m) * n = i := ⟨_, rfl⟩
     have HI := (show Hid (2 ^ (8 - m) * n = i) from hi)
     rw [hi] at q1 q2 q3 q4 q5 ⊢
     have hti := tab_lt i (by omega)
     have hx := u32_xor_nat (tab i) s1 hti hs2
     have hil : i < 256 := by omega
     have HNL := (show Hid (n < 2 ^ m) from hnl)
     clear hi hn hnl
     have hc1 : (i : Int) < 256 := by omega
     have hc2 : (0 : Int) ≤ (i : Int) := by omega
     have hc3 : (i : Int) + (b : Int) < 256 := by omega
     have hc4 : (0 : Int) ≤ (i : Int) + (b : Int) := by omega
     have hc5 : ((i : Int) + (b : Int)).toNat = i + b := by omega
     have hc6 : IntKind.i64.wrap ((i : Int) + (b : Int)) = (i : Int) + (b : Int) := by rw [IntKind.wrap_i64]; omega
     have hdec : decide ((i : Int) < 256) = true := by simp; omega
     go_wp2
     have hS : (fun w' => w'.cell? ⟨B, 3 + i, none⟩ = some (.int .u32 ((tab i : Nat) : Int)) ∧ w'.cell? ⟨B, 3 + (i + b), none⟩ = some (.int .u32 y) ∧ w'.frozen? ⟨B, 3 + (i + b), none⟩ = false) wr.drew := by go_keep
     refine wp_region_V (fun w' => w'.cell? ⟨B, 3 + i, none⟩ = some (.int .u32 ((tab i : Nat) : Int)) ∧ w'.cell? ⟨B, 3 + (i + b), none⟩ = some (.int .u32 y) ∧ w'.frozen? ⟨B, 3 + (i + b), none⟩ = false) 15 16 rfl (by kernel_rfl) ?_
     refine tk 0 17 hS ?_
     refine tk 1 18 hS ?_
     refine tk 2 19 hS ?_
     refine tk 3 20 hS ?_
     refine tk 4 21 hS ?_
     refine tk 5 22 hS ?_
     refine tk 6 23 hS ?_
     refine tk 7 24 hS ?_
     refine tk 8 25 hS ?_
     refine tk 9 26 hS ?_
     refine tk 10 27 hS ?_
     refine tk 11 28 hS ?_
     refine wpAnyV_one (i := 12) (by kernel_rfl) rfl (fun K hK => ?_)
     go_simp
     have hS : (fun w' => w'.cell? ⟨B, 3 + i, none⟩ = some (.int .u32 ((tab i : Nat) : Int)) ∧ w'.cell? ⟨B, 3 + (i + b), none⟩ = some (.int .u32 y) ∧ w'.frozen? ⟨B, 3 + (i + b), none⟩ = false) wr.drew := by go_keep
     refine hK.out _ _ (fun _ => hS) ?_
     clear hK K
     try simp only [Act.put, sA, s0, sS]
     refine wpAnyV_one (i := 13) (by kernel_rfl) rfl (fun K hK => ?_)
     go_simp
     have hS : (fun w' => w'.cell? ⟨B, 3 + i, none⟩ = some (.int .u32 ((tab i : Nat) : Int)) ∧ w'.cell? ⟨B, 3 + (i + b), none⟩ = some (.int .u32 y) ∧ w'.frozen? ⟨B, 3 + (i + b), none⟩ = false) wr.drew := by go_keep
     refine hK.out _ _ (fun _ => hS) ?_
     clear hK K
     try simp only [Act.put, sA, s0, sS]
     refine tk 14 31 hS ?_
     refine wpAnyV_one (i := 15) (by kernel_rfl) rfl (fun K hK => ?_)
     go_simp
     refine hK.out _ _ (fun h => absurd rfl h) ?_
     clear hK K
     refine wpAnyV_done (by kernel_rfl) ?_
     try simp only [Act.put, sA, s0, sS]
     go_wp2
     go_roundw
     case rel =>
      have h := HBi.out.stored (3 + (i + b)) (.int .u32 ((tab i ^^^ s1 : Nat) : Int))
      rw [Nat.add_comm 3, tcells_set] at h
      have e := HST.out
      rw [HI.out, HBB.out, HS1.out] at e
      rw [e] at h
      refine ⟨n + 1, by have h1 := HNL.out; omega, ?_, ?_, ?_⟩
      ·rw [HNX.out, HI.out]
       simp
      ·rw [Nat.add_comm 3]
       exact h
      ·exact HKi.out.drew.setCell (.inr rfl) _
     case measure => simp [intOf]; omega
    ·obtain rfl : n = 2 ^ m := by omega
     have e : 2 ^ (8 - m) * 2 ^ m = 256 := by rw [← Nat.pow_add, show 8 - m + m = 8 from by omega]
     have HB2 := HBi.out
     rw [tabM_next m hlt] at HB2
     rw [e]
     clear e
     go_wp2
     go_roundw
     case rel => exact ⟨m + 1, by omega, by rw [HS1.out], by rw [← HBN.out, HBO.out, HBB.out], HB2, HKi⟩
     case measure => simp [intOf]; omega
  ·obtain rfl : m = 8 := by omega
   go_wp2
   go_end0
   exact ⟨rfl, HBr.out, HKr.out⟩
end Go.Proofs.YtkdohacgkjpopaaGreat
