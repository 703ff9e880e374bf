import Derived.Test.YtaojjcnmififoaaGreatG01
import Derived.Test.YtaojjcnmififoaaGreatG00
import Derived.Laws.BytesArg
import Derived.Laws.StructEq
import Derived.Laws.BitsAllLaws
namespace Go.Proofs.YtaojjcnmififoaaGreat
set_option maxRecDepth 100000
set_option maxHeartbeats 16000000
set_option linter.unusedVariables false
set_option linter.unusedSimpArgs false
open Go.RowKit
theorem jej (txn prev page slot : Int) (af : Bool) (ah : Option Addr) (ai ag : Nat) (ak : Bool) (ao : Option Addr) (ap al : Nat) (uN nT : Int) (aL : Option Addr) (aI aK : Nat) (aD : Option Addr) (av aF : Nat) (ax : Option Addr) (aj ay : Nat) (w : World) (dJ cj : Bool) (bh : ∀ wx, Same w wx → Calls Tryz.prog 105 #[.agg #[.bool ak, .slice ao ap al]] wx fun e w' => e = .returned (.bool dJ) ∧ Same wx w') (aX : ∀ wx, Same w wx → Calls Tryz.prog 105 #[.agg #[.bool af, .slice ah ai ag]] wx fun e w' => e = .returned (.bool cj) ∧ Same wx w') (eM : aI ≤ maxLen) (ek : av ≤ maxLen) :
  Calls Tryz.prog 75 #[.agg #[.int .i64 8, .int .i64 txn, .int .i64 prev, .int .i64 page, .int .i64 slot, .bool af, .slice ah ai ag, .bool ak, .slice ao ap al, .int .i64 uN, .int .i64 nT, .slice aL aI aK, .slice aD av aF, .slice ax aj ay]] w fun e w' => e = .returned (.bool (!(decide (0 = txn) && decide (0 = prev) && decide (0 = slot) && dJ && cj && decide (0 = uN) && decide (0 = nT) && decide (aI = 0) && decide (av = 0)))) ∧ Same w w' := by
 unfold maxLen at eM ek
 by_cases qtxn : 0 = txn
 case neg =>
  rw [decide_eq_false qtxn]
  simp only [Bool.false_and, Bool.and_false, Bool.not_false]
  have AG : ¬ txn = 0 := fun e => qtxn e.symm
  obtain ⟨aJ, bm⟩ := new1 w [.int .i64 8, .int .i64 txn, .int .i64 prev, .int .i64 page, .int .i64 slot, .bool af, .slice ah ai ag, .bool ak, .slice ao ap al, .int .i64 uN, .int .i64 nT, .slice aL aI aK, .slice aD av aF, .slice ax aj ay] 50
  go_enter Tryz.func75, Tryz.ntmps75
  go_wp2
  go_ret
  exact ⟨rfl, aJ.out⟩
 subst qtxn
 rw [decide_eq_true rfl]
 by_cases qprev : 0 = prev
 case neg =>
  rw [decide_eq_false qprev]
  simp only [Bool.false_and, Bool.and_false, Bool.not_false]
  have sJ : ¬ prev = 0 := fun e => qprev e.symm
  obtain ⟨aJ, bm⟩ := new1 w [.int .i64 8, .int .i64 0, .int .i64 prev, .int .i64 page, .int .i64 slot, .bool af, .slice ah ai ag, .bool ak, .slice ao ap al, .int .i64 uN, .int .i64 nT, .slice aL aI aK, .slice aD av aF, .slice ax aj ay] 50
  go_enter Tryz.func75, Tryz.ntmps75
  go_wp2
  go_ret
  exact ⟨rfl, aJ.out⟩
 subst qprev
 rw [decide_eq_true rfl]
 by_cases qslot : 0 = slot
 case neg =>
  rw [decide_eq_false qslot]
  simp only [Bool.false_and, Bool.and_false, Bool.not_false]
  have kA : ¬ slot = 0 := fun e => qslot e.symm
  obtain ⟨aJ, bm⟩ := new1 w [.int .i64 8, .int .i64 0, .int .i64 0, .int .i64 page, .int .i64 slot, .bool af, .slice ah ai ag, .bool ak, .slice ao ap al, .int .i64 uN, .int .i64 nT, .slice aL aI aK, .slice aD av aF, .slice ax aj ay] 50
  go_enter Tryz.func75, Tryz.ntmps75
  go_wp2
  go_ret
  exact ⟨rfl, aJ.out⟩
 subst qslot
 rw [decide_eq_true rfl]
 cases dJ with
 | false =>
  simp only [Bool.false_and, Bool.and_false, Bool.not_false]
  obtain ⟨aJ, bm⟩ := new1 w [.int .i64 8, .int .i64 0, .int .i64 0, .int .i64 page, .int .i64 0, .bool af, .slice ah ai ag, .bool ak, .slice ao ap al, .int .i64 uN, .int .i64 nT, .slice aL aI aK, .slice aD av aF, .slice ax aj ay] 50
  go_enter Tryz.func75, Tryz.ntmps75
  go_wp2_with fail
  refine (bh _ aJ.out).mono ?_
  rintro e w1 ⟨rfl, hk⟩
  have aM := hid (aJ.out.trans hk)
  have bf := hid (bm.out.same hk)
  clear hk
  obtain ⟨cQ, cP, cO, cW, df, cY, cT, cR, cV, cX, bK, bJ, bI, bL⟩ := bf.out.all14
  go_wp2
  go_ret
  exact ⟨rfl, aM.out⟩
 | true =>
  cases cj with
  | false =>
   simp only [Bool.false_and, Bool.and_false, Bool.not_false]
   obtain ⟨aJ, bm⟩ := new1 w [.int .i64 8, .int .i64 0, .int .i64 0, .int .i64 page, .int .i64 0, .bool af, .slice ah ai ag, .bool ak, .slice ao ap al, .int .i64 uN, .int .i64 nT, .slice aL aI aK, .slice aD av aF, .slice ax aj ay] 50
   go_enter Tryz.func75, Tryz.ntmps75
   go_wp2_with fail
   refine (bh _ aJ.out).mono ?_
   rintro e w1 ⟨rfl, hk⟩
   have aM := hid (aJ.out.trans hk)
   have bf := hid (bm.out.same hk)
   clear hk
   obtain ⟨cQ, cP, cO, cW, df, cY, cT, cR, cV, cX, bK, bJ, bI, bL⟩ := bf.out.all14
   go_wp2_with fail
   refine (aX _ aM.out).mono ?_
   rintro e w2 ⟨rfl, hk⟩
   have aY := hid (aM.out.trans hk)
   have cm := hid (bf.out.same hk)
   clear hk
   obtain ⟨dV, dW, dY, dS, ef, ec, dT, dX, dU, dZ, cL, cH, cI, cM⟩ := cm.out.all14
   go_wp2
   go_ret
   exact ⟨rfl, aY.out⟩
  | true =>
   by_cases quN : 0 = uN
   case neg =>
    rw [decide_eq_false quN]
    simp only [Bool.false_and, Bool.and_false, Bool.not_false]
    have wU : ¬ uN = 0 := fun e => quN e.symm
    obtain ⟨aJ, bm⟩ := new1 w [.int .i64 8, .int .i64 0, .int .i64 0, .int .i64 page, .int .i64 0, .bool af, .slice ah ai ag, .bool ak, .slice ao ap al, .int .i64 uN, .int .i64 nT, .slice aL aI aK, .slice aD av aF, .slice ax aj ay] 50
    go_enter Tryz.func75, Tryz.ntmps75
    go_wp2_with fail
    refine (bh _ aJ.out).mono ?_
    rintro e w1 ⟨rfl, hk⟩
    have aM := hid (aJ.out.trans hk)
    have bf := hid (bm.out.same hk)
    clear hk
    obtain ⟨cQ, cP, cO, cW, df, cY, cT, cR, cV, cX, bK, bJ, bI, bL⟩ := bf.out.all14
    go_wp2_with fail
    refine (aX _ aM.out).mono ?_
    rintro e w2 ⟨rfl, hk⟩
    have aY := hid (aM.out.trans hk)
    have cm := hid (bf.out.same hk)
    clear hk
    obtain ⟨dV, dW, dY, dS, ef, ec, dT, dX, dU, dZ, cL, cH, cI, cM⟩ := cm.out.all14
    go_wp2
    go_ret
    exact ⟨rfl, aY.out⟩
   subst quN
   rw [decide_eq_true rfl]
   by_cases qnT : 0 = nT
   case neg =>
    rw [decide_eq_false qnT]
    simp only [Bool.false_and, Bool.and_false, Bool.not_false]
    have wt : ¬ nT = 0 := fun e => qnT e.symm
    obtain ⟨aJ, bm⟩ := new1 w [.int .i64 8, .int .i64 0, .int .i64 0, .int .i64 page, .int .i64 0, .bool af, .slice ah ai ag, .bool ak, .slice ao ap al, .int .i64 0, .int .i64 nT, .slice aL aI aK, .slice aD av aF, .slice ax aj ay] 50
    go_enter Tryz.func75, Tryz.ntmps75
    go_wp2_with fail
    refine (bh _ aJ.out).mono ?_
    rintro e w1 ⟨rfl, hk⟩
    have aM := hid (aJ.out.trans hk)
    have bf := hid (bm.out.same hk)
    clear hk
    obtain ⟨cQ, cP, cO, cW, df, cY, cT, cR, cV, cX, bK, bJ, bI, bL⟩ := bf.out.all14
    go_wp2_with fail
    refine (aX _ aM.out).mono ?_
    rintro e w2 ⟨rfl, hk⟩
    have aY := hid (aM.out.trans hk)
    have cm := hid (bf.out.same hk)
    clear hk
    obtain ⟨dV, dW, dY, dS, ef, ec, dT, dX, dU, dZ, cL, cH, cI, cM⟩ := cm.out.all14
    go_wp2
    go_ret
    exact ⟨rfl, aY.out⟩
   subst qnT
   rw [decide_eq_true rfl]
   by_cases qtxns : aI = 0
   case neg =>
    rw [decide_eq_false qtxns]
    simp only [Bool.false_and, Bool.and_false, Bool.not_false]
    have j0 : (0 : Int) < aI := by omega
    obtain ⟨aJ, bm⟩ := new1 w [.int .i64 8, .int .i64 0, .int .i64 0, .int .i64 page, .int .i64 0, .bool af, .slice ah ai ag, .bool ak, .slice ao ap al, .int .i64 0, .int .i64 0, .slice aL aI aK, .slice aD av aF, .slice ax aj ay] 50
    go_enter Tryz.func75, Tryz.ntmps75
    go_wp2_with fail
    refine (bh _ aJ.out).mono ?_
    rintro e w1 ⟨rfl, hk⟩
    have aM := hid (aJ.out.trans hk)
    have bf := hid (bm.out.same hk)
    clear hk
    obtain ⟨cQ, cP, cO, cW, df, cY, cT, cR, cV, cX, bK, bJ, bI, bL⟩ := bf.out.all14
    go_wp2_with fail
    refine (aX _ aM.out).mono ?_
    rintro e w2 ⟨rfl, hk⟩
    have aY := hid (aM.out.trans hk)
    have cm := hid (bf.out.same hk)
    clear hk
    obtain ⟨dV, dW, dY, dS, ef, ec, dT, dX, dU, dZ, cL, cH, cI, cM⟩ := cm.out.all14
    go_wp2
    go_ret
    exact ⟨by first | rfl | (simp; omega), aY.out⟩
   subst qtxns
   rw [decide_eq_true rfl]
   by_cases qdirty : av = 0
   case neg =>
    rw [decide_eq_false qdirty]
    simp only [Bool.false_and, Bool.and_false, Bool.not_false]
    have iM : (0 : Int) < av := by omega
    obtain ⟨aJ, bm⟩ := new1 w [.int .i64 8, .int .i64 0, .int .i64 0, .int .i64 page, .int .i64 0, .bool af, .slice ah ai ag, .bool ak, .slice ao ap al, .int .i64 0, .int .i64 0, .slice aL 0 aK, .slice aD av aF, .slice ax aj ay] 50
    go_enter Tryz.func75, Tryz.ntmps75
    go_wp2_with fail
    refine (bh _ aJ.out).mono ?_
    rintro e w1 ⟨rfl, hk⟩
    have aM := hid (aJ.out.trans hk)
    have bf := hid (bm.out.same hk)
    clear hk
    obtain ⟨cQ, cP, cO, cW, df, cY, cT, cR, cV, cX, bK, bJ, bI, bL⟩ := bf.out.all14
    go_wp2_with fail
    refine (aX _ aM.out).mono ?_
    rintro e w2 ⟨rfl, hk⟩
    have aY := hid (aM.out.trans hk)
    have cm := hid (bf.out.same hk)
    clear hk
    obtain ⟨dV, dW, dY, dS, ef, ec, dT, dX, dU, dZ, cL, cH, cI, cM⟩ := cm.out.all14
    go_wp2
    go_ret
    exact ⟨by first | rfl | (simp; omega), aY.out⟩
   subst qdirty
   rw [decide_eq_true rfl]
   simp only [Bool.and_true, Bool.and_self, Bool.not_true]
   obtain ⟨aJ, bm⟩ := new1 w [.int .i64 8, .int .i64 0, .int .i64 0, .int .i64 page, .int .i64 0, .bool af, .slice ah ai ag, .bool ak, .slice ao ap al, .int .i64 0, .int .i64 0, .slice aL 0 aK, .slice aD 0 aF, .slice ax aj ay] 50
   go_enter Tryz.func75, Tryz.ntmps75
   go_wp2_with fail
   refine (bh _ aJ.out).mono ?_
   rintro e w1 ⟨rfl, hk⟩
   have aM := hid (aJ.out.trans hk)
   have bf := hid (bm.out.same hk)
   clear hk
   obtain ⟨cQ, cP, cO, cW, df, cY, cT, cR, cV, cX, bK, bJ, bI, bL⟩ := bf.out.all14
   go_wp2_with fail
   refine (aX _ aM.out).mono ?_
   rintro e w2 ⟨rfl, hk⟩
   have aY := hid (aM.out.trans hk)
   have cm := hid (bf.out.same hk)
   clear hk
   obtain ⟨dV, dW, dY, dS, ef, ec, dT, dX, dU, dZ, cL, cH, cI, cM⟩ := cm.out.all14
   go_wp2
   go_ret
   exact ⟨rfl, aY.out⟩
theorem WA {w : World} {v : Value} {bs : List Int} (h : Rd .u8 w v bs) : (convert 22 9 v).run Tryz.prog w = .ok (.string (strOfNums bs)) w := by
 rcases h.2 with ⟨rfl, a, c, rfl, _⟩ | ⟨b, off, c, rfl, _, hc⟩
 ·rw [run_convert_bytes_string w 22 9 5 _ 0 c (by kernel_rfl) (by kernel_rfl) (by kernel_rfl)]
  cases a <;> simp [Conv.bytesToString, loadCells]
  all_goals rfl
 ·exact run_convert_bytes_arg w 22 5 (by kernel_rfl) (by kernel_rfl) b off bs.length c bs rfl hc 9 (by kernel_rfl)
theorem VY : ∀ {xs bs : List Int}, IsB xs → IsB bs → strOfNums xs = strOfNums bs → xs = bs := by
 intro xs bs ha hb h
 have h2 : xs.map (fun n => UInt8.ofNat n.toNat) = bs.map (fun n => UInt8.ofNat n.toNat) := by
  have h3 := congrArg (fun s => s.data.toList) h
  simpa [strOfNums] using h3
 have hl : xs.length = bs.length := by have := congrArg List.length h2; simpa using this
 apply List.ext_getElem hl
 intro i h1 h4
 have h5 := congrArg (fun l => l[i]?) h2
 simp [h1, h4] at h5
 have h6 := ha _ (List.getElem_mem h1)
 have h7 := hb _ (List.getElem_mem h4)
 have h8 := congrArg UInt8.toNat h5
 simp at h8
 omega
theorem jbL (va vb : Value) (xs bs : List Int) (w : World) (ha : IsB xs) (hb : IsB bs) (fx : Rd .u8 w va xs) (fI : Rd .u8 w vb bs) :
  Calls Tryz.prog 65 #[va, vb] w fun e w' => e = .returned (.bool (decide (xs = bs))) ∧ Same w w' := by
 have h1 := WA fx
 have h2 := WA fI
 clear fx fI
 have HE := (show Hid (((strOfNums xs).toList == (strOfNums bs).toList) = decide (xs = bs)) from by
  by_cases h : xs = bs
  ·subst h
   show _ = _
   simp
  ·rw [decide_eq_false h]
   refine beq_eq_false_iff_ne.2 (fun e => h (VY ha hb ?_))
   rw [ByteArray.toList_eq, ByteArray.toList_eq] at e
   exact ByteArray.ext (Array.ext' e))
 generalize strOfNums xs = s at *
 generalize strOfNums bs = t at *
 clear ha hb
 go_enter Tryz.func65, Tryz.ntmps65
 go_wp2
 go_ret
 exact ⟨by rw [← HE.out]; rfl, kZ0⟩
theorem XA (va vb : Value) (xs bs : List Int) (w : World) (ha : IsB xs) (hb : IsB bs) (fx : Rd .u8 w va xs) (fI : Rd .u8 w vb bs) :
  Calls Tryz.prog 50 #[va, vb] w fun e w' => e = .returned (.bool (decide (xs = bs))) ∧ Same w w' := by
 have h1 := WA fx
 have h2 := WA fI
 have HE := (show Hid (((strOfNums xs).toList == (strOfNums bs).toList) = decide (xs = bs)) from by
  by_cases h : xs = bs
  ·subst h
   show _ = _
   simp
  ·rw [decide_eq_false h]
   refine beq_eq_false_iff_ne.2 (fun e => h (VY ha hb ?_))
   rw [ByteArray.toList_eq, ByteArray.toList_eq] at e
   exact ByteArray.ext (Array.ext' e))
 generalize strOfNums xs = s at *
 generalize strOfNums bs = t at *
 clear ha hb fx fI
 go_enter Tryz.func50, Tryz.ntmps50
 go_wp2
 go_ret
 exact ⟨by rw [← HE.out]; rfl, kZ0⟩
def sh (r : Nat) : Nat := if r % 2 = 1 then r / 2 ^^^ 3988292384 else r / 2
def shN : Nat → Nat → Nat
 | 0, r => r
 | k + 1, r => shN k (sh r)
theorem jfJ (r : Nat) (h : r < 4294967296) : sh r < 4294967296 := by
 unfold sh
 split
 ·exact Nat.xor_lt_two_pow (n := 32) (by omega) (by omega)
 ·omega
theorem X6 (k r : Nat) (h : r < 4294967296) : shN k r < 4294967296 := by
 induction k generalizing r with
 | zero => exact h
 | succ k ih => exact ih _ (jfJ r h)
theorem jaD (k r : Nat) : shN (k + 1) r = sh (shN k r) := by
 induction k generalizing r with
 | zero => rfl
 | succ k ih => exact ih (sh r)
theorem jdl (a b : Nat) : (a ^^^ b) / 2 = a / 2 ^^^ b / 2 := by
 apply Nat.eq_of_testBit_eq
 intro i
 rw [Nat.testBit_xor, Nat.testBit_div_two, Nat.testBit_div_two, Nat.testBit_div_two, Nat.testBit_xor]
theorem jek (a b : Nat) : (a ^^^ b) % 2 = (a % 2 + b % 2) % 2 := by
 have h := Nat.testBit_xor a b 0
 simp only [Nat.testBit_zero] at h
 have := Nat.mod_two_eq_zero_or_one a
 have := Nat.mod_two_eq_zero_or_one b
 have := Nat.mod_two_eq_zero_or_one (a ^^^ b)
 rcases ‹a % 2 = 0 ∨ a % 2 = 1› with h1 | h1 <;> rcases ‹b % 2 = 0 ∨ b % 2 = 1› with h2 | h2 <;> rcases ‹(a ^^^ b) % 2 = 0 ∨ (a ^^^ b) % 2 = 1› with h3 | h3 <;> rw [h1, h2, h3] at h <;> rw [h1, h2, h3] <;> first | rfl | (simp at h)
theorem jfq (a b : Nat) : sh (a ^^^ b) = sh a ^^^ sh b := by
 unfold sh
 rw [jdl, jek]
 have := Nat.mod_two_eq_zero_or_one a
 have := Nat.mod_two_eq_zero_or_one b
 rcases ‹a % 2 = 0 ∨ a % 2 = 1› with h1 | h1 <;> rcases ‹b % 2 = 0 ∨ b % 2 = 1› with h2 | h2 <;> rw [h1, h2] <;> simp only [Nat.zero_add, Nat.add_zero, Nat.reduceMod, Nat.reduceAdd, if_true, if_false, Nat.zero_ne_one]
 ·rw [Nat.xor_assoc]
 ·rw [Nat.xor_assoc, Nat.xor_assoc, Nat.xor_comm 3988292384]
 ·rw [Nat.xor_assoc, Nat.xor_comm (b / 2), ← Nat.xor_assoc 3988292384, Nat.xor_self, Nat.zero_xor]
theorem jel (k a b : Nat) : shN k (a ^^^ b) = shN k a ^^^ shN k b := by
 induction k generalizing a b with
 | zero => rfl
 | succ k ih => simp only [shN]; rw [jfq, ih]
theorem jem (r : Nat) : sh (2 * r) = r := by
 unfold sh
 rw [if_neg (by omega)]
 omega
theorem jen (k r : Nat) : shN k (2 ^ k * r) = r := by
 induction k generalizing r with
 | zero => simp [shN]
 | succ k ih =>
  simp only [shN]
  rw [show 2 ^ (k + 1) * r = 2 * (2 ^ k * r) from by rw [Nat.pow_succ, Nat.mul_comm (2 ^ k) 2, Nat.mul_assoc], jem, ih]
def tab (i : Nat) : Nat := shN 8 i
theorem jdm (i : Nat) (h : i < 4294967296) : tab i < 4294967296 := X6 8 i h
theorem jcF (r : Nat) : r = 2 ^ 8 * (r / 256) ^^^ r % 256 := by
 have h1 : 2 ^ 8 * (r / 256) ||| r % 256 = 2 ^ 8 * (r / 256) + r % 256 := (Nat.two_pow_add_eq_or_of_lt (i := 8) (by omega) (r / 256)).symm
 have h2 : 2 ^ 8 * (r / 256) &&& r % 256 = 0 := by
  apply Nat.eq_of_testBit_eq
  intro i
  rw [Nat.testBit_and, Nat.zero_testBit, Nat.testBit_two_pow_mul]
  by_cases hi : 8 ≤ i
  ·have : (r % 256).testBit i = false := Nat.testBit_lt_two_pow (Nat.lt_of_lt_of_le (Nat.mod_lt r (by decide)) (Nat.pow_le_pow_right (n := 2) (by decide) hi))
   simp [this]
  ·simp [hi]
 have h3 : 2 ^ 8 * (r / 256) ^^^ r % 256 = 2 ^ 8 * (r / 256) ||| r % 256 := by
  apply Nat.eq_of_testBit_eq
  intro i
  have := congrArg (fun n => n.testBit i) h2
  simp only [Nat.testBit_and, Nat.zero_testBit] at this
  rw [Nat.testBit_xor, Nat.testBit_or]
  revert this
  cases (2 ^ 8 * (r / 256)).testBit i <;> cases (r % 256).testBit i <;> simp
 rw [h3, h1]
 omega
theorem jdn (r x : Nat) : shN 8 (r ^^^ x) = r / 256 ^^^ tab (r % 256 ^^^ x) := by
 conv => lhs; rw [jcF r]
 rw [Nat.xor_assoc, jel, jen]
 rfl
def reg (r : Nat) (bs : List Int) : Nat := bs.foldl (fun r b => shN 8 (r ^^^ b.toNat)) r
theorem jaE (r : Nat) (bs : List Int) (k : Nat) (h : k < bs.length) : reg r (bs.take (k + 1)) = shN 8 (reg r (bs.take k) ^^^ (bs.getD k 0).toNat) := by
 rw [List.take_succ_eq_append_getElem h]
 unfold reg
 rw [List.foldl_append]
 simp [h]
theorem Z7 (r : Nat) (bs : List Int) (h : r < 4294967296) (hb : IsB bs) : reg r bs < 4294967296 := by
 induction bs generalizing r with
 | nil => exact h
 | cons b bs ih =>
  have h1 := hb b (by simp)
  exact ih _ (X6 8 _ (Nat.xor_lt_two_pow (n := 32) (by omega) (by omega))) (fun y hy => hb y (by simp [hy]))
def Tv (sum : Int) (bs : List Int) : Int := if sum < 0 ∨ 4294967295 < sum then -1 else 4294967295 - reg (4294967295 - sum).toNat bs
/-! ### The table, as it is filled: m bits done, n entries of the next one -/
def Vi (m n : Nat) : List Int := (List.range 256).map fun j => if j % 2 ^ (8 - m) = 0 ∨ (j % 2 ^ (7 - m) = 0 ∧ j < 2 ^ (8 - m) * n) then ((tab j : Nat) : Int) else 0
theorem UO (m n : Nat) : (Vi m n).length = 256 := by simp [Vi]
theorem XY (m n j : Nat) (h : j < 256) : (Vi m n)[j]? = some (if j % 2 ^ (8 - m) = 0 ∨ (j % 2 ^ (7 - m) = 0 ∧ j < 2 ^ (8 - m) * n) then ((tab j : Nat) : Int) else 0) := by
 simp [Vi, h]
theorem jcG : Vi 0 0 = List.replicate 256 0 := by decide +kernel
theorem jcH (m : Nat) (h : m < 8) : Vi m (2 ^ m) = Vi (m + 1) 0 := by
 have : ∀ m < 8, Vi m (2 ^ m) = Vi (m + 1) 0 := by decide +kernel
 exact this m h
theorem jdo (j : Nat) (h : j < 256) : (Vi 8 0)[j]? = some ((tab j : Nat) : Int) := by
 rw [XY _ _ _ h, if_pos (.inl (by simp [Nat.mod_one]))]
theorem jcI (m n : Nat) (h : m < 8) (hn : n < 2 ^ m) : (Vi m n)[2 ^ (8 - m) * n]? = some ((tab (2 ^ (8 - m) * n) : Nat) : Int) := by
 have hb : 2 ^ (8 - m) * n < 256 := by
  have : 2 ^ (8 - m) * n < 2 ^ (8 - m) * 2 ^ m := Nat.mul_lt_mul_of_pos_left hn (Nat.two_pow_pos _)
  rwa [← Nat.pow_add, show 8 - m + m = 8 from by omega] at this
 rw [XY _ _ _ hb, if_pos (.inl (Nat.mul_mod_right _ _))]
theorem jcJ (m n : Nat) (h : m < 8) (hn : n < 2 ^ m) : (Vi m n).set (2 ^ (8 - m) * n + 2 ^ (7 - m)) ((tab (2 ^ (8 - m) * n) ^^^ shN (m + 1) 1 : Nat) : Int) = Vi m (n + 1) := by
 have key : ∀ m < 8, ∀ n < 2 ^ m, tab (2 ^ (8 - m) * n + 2 ^ (7 - m)) = tab (2 ^ (8 - m) * n) ^^^ shN (m + 1) 1 := by decide +kernel
 rw [← key m h n hn]
 apply List.ext_getElem?
 intro j
 by_cases hj : j < 256
 ·rw [XY m (n + 1) j hj, List.getElem?_set, UO, XY m n j hj]
  clear key
  have : m = 0 ∨ m = 1 ∨ m = 2 ∨ m = 3 ∨ m = 4 ∨ m = 5 ∨ m = 6 ∨ m = 7 := by omega
  rcases this with rfl | rfl | rfl | rfl | rfl | rfl | rfl | rfl <;> simp only [Nat.reducePow, Nat.reduceSub] at hn ⊢ <;>
  (split
   ·rename_i he
    subst he
    rw [if_pos (by omega), if_pos (by omega)]
   ·congr 1
    apply ite_congr (propext ⟨fun h => by omega, fun h => by omega⟩) (fun _ => rfl) (fun _ => rfl))
 ·rw [List.getElem?_eq_none (by rw [List.length_set, UO]; omega), List.getElem?_eq_none (by rw [UO]; omega)]
end Go.Proofs.YtaojjcnmififoaaGreat
