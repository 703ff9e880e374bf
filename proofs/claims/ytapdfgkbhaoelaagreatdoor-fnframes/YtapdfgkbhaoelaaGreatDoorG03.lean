import Derived.Test.YtapdfgkbhaoelaaGreatDoorG02
import Derived.Laws.BitsLemmas
import Derived.Laws.Bits64
import Derived.Deep.AppendLies
namespace Go.Proofs.YtapdfgkbhaoelaaGreatDoor
set_option maxRecDepth 100000
set_option maxHeartbeats 4000000
set_option linter.unusedVariables false
set_option linter.unusedSimpArgs false
open Go.RowKit
def num (bs : List Int) : Int := bs.foldl (fun v b => v * 256 + b) 0
theorem jcx (bs : List Int) (b : Int) : num (bs ++ [b]) = num bs * 256 + b := by simp [num, List.foldl_append]
theorem R7 (bs : List Int) (k : Nat) (h : k < bs.length) : num (bs.take (k + 1)) = num (bs.take k) * 256 + bs.getD k 0 := by
 rw [List.take_succ_eq_append_getElem h, jcx];simp [h]
theorem QO (bs : List Int) (hb : IsB bs) (k : Nat) (h : k ≤ bs.length) : 0 ≤ num (bs.take k) ∧ num (bs.take k) < 256 ^ k := by
 induction k with
 | zero => simp [num]
 | succ k ih =>
  have h1 := ih (by omega);have h2 := hb.at k (by omega);rw [R7 bs k (by omega), Int.pow_succ];omega
theorem WG (x : Int) (bs : List Int) : num (x :: bs) = x * 256 ^ bs.length + num bs := by
 have key : ∀ (bs : List Int) (v : Int), bs.foldl (fun v b => v * 256 + b) v = v * 256 ^ bs.length + num bs := fun bs => by
  induction bs with
  | nil => intro v; simp [num]
  | cons y bs ih =>
   intro v;simp only [List.foldl_cons, num, List.length_cons];rw [ih, ih, Int.pow_succ, Int.add_mul, Int.mul_assoc, Int.mul_comm 256, Int.zero_mul, Int.zero_add];omega
 have := key bs x
 simpa [num] using this
theorem jcy (bs : List Int) (hb : IsB bs) (k : Nat) (h : k ≤ bs.length) {m : Int} (hm : num bs ≤ m) : num (bs.take k) ≤ m := by
 obtain ⟨d, hd⟩ : ∃ d, bs.length - k = d := ⟨_, rfl⟩
 induction d generalizing k with
 | zero =>
  obtain rfl : k = bs.length := by omega
  rw [List.take_length];exact hm
 | succ d ih =>
  have h1 := ih (k + 1) (by omega) (by omega);rw [R7 bs k (by omega)] at h1;have h2 := hb.at k (by omega);have h3 := QO bs hb k h;omega
theorem ja0 (bs : List Int) (hb : IsB bs) (k : Nat) (h : k ≤ bs.length) (h8 : k ≤ 8) : num (bs.take k) < 18446744073709551616 := by
 have h1 := (QO bs hb k h).2
 have h2 : (256 : Int) ^ k ≤ 256 ^ 8 := by
  have : k = 0 ∨ k = 1 ∨ k = 2 ∨ k = 3 ∨ k = 4 ∨ k = 5 ∨ k = 6 ∨ k = 7 ∨ k = 8 := by omega
  rcases this with rfl | rfl | rfl | rfl | rfl | rfl | rfl | rfl | rfl <;> decide
 omega
def Ps (bs : List Int) : Int := if bs.length < 1 ∨ 8 < bs.length ∨ 9223372036854775807 < num bs then -1 else num bs
theorem ja1 (bs : List Int) : Ps bs ≤ 9223372036854775807 := by
 unfold Ps
 split <;> omega
theorem UD (bs : List Int) (hb : IsB bs) (h : bs.length = 8) : (9223372036854775807 < num bs) ↔ 127 < bs.getD 0 0 := by
 match bs, h with
 | x :: bs, h =>
  have hl : bs.length = 7 := by simpa using h
  have h1 := hb x (by simp);have h2 := QO bs (fun y hy => hb y (by simp [hy])) 7 (by omega);rw [← hl, List.take_length, hl] at h2;rw [WG, hl];simp only [List.getD_cons_zero];omega
theorem WH (bs : List Int) (hb : IsB bs) (h : bs.length ≤ 7) : num bs ≤ 9223372036854775807 := by
 have h1 := QO bs hb bs.length (Nat.le_refl _);rw [List.take_length] at h1;generalize bs.length = n at h h1
 have h2 : (256 : Int) ^ n ≤ 256 ^ 7 := by
  have : n = 0 ∨ n = 1 ∨ n = 2 ∨ n = 3 ∨ n = 4 ∨ n = 5 ∨ n = 6 ∨ n = 7 := by omega
  rcases this with rfl | rfl | rfl | rfl | rfl | rfl | rfl | rfl <;> decide
 omega
theorem VD (v : Value) (bs : List Int) (w : World) (hb : IsB bs) (hn : bs.length ≤ 1099511627776) (hv : Rd .u8 w v bs) :
  Calls Tryz.prog 90 #[v] w fun e w' => e = .returned (Q1 (Ps bs)) ∧ Same w w' := by
 by_cases h : bs.length < 1 ∨ 8 < bs.length
 ·obtain ⟨a, c, rfl⟩ := hv.form
  have e : Ps bs = -1 := by unfold Ps; rw [if_pos (by omega)]
  rw [e];clear hv e hb
  rcases h with h | h
  ·go_enter Tryz.func90, Tryz.ntmps90
   go_wp2;go_ret;exact ⟨rfl, kZ0⟩
  ·go_enter Tryz.func90, Tryz.ntmps90
   go_wp2;go_ret;exact ⟨rfl, kZ0⟩
 ·rcases hv.2 with ⟨rfl, _⟩ | ⟨b, off, c, rfl, _, hc⟩
  ·simp at h
  have lY := hc 0 (by omega);rw [Nat.add_zero] at lY;have HC : Hid (∀ i, i < bs.length → w.cell? ⟨b, off + i, none⟩ = some (.int .u8 (bs.getD i 0))) := hc;have HB : Hid (IsB bs) := hb;clear hc hv hb hn;generalize hl : bs.length = len at h ⊢;have HL : Hid (bs.length = len) := hl
  have h1 : 1 ≤ len := by omega
  have h2 : len ≤ 8 := by omega
  clear hl h;have hx := HB.out.at 0 (by have := HL.out; omega);obtain ⟨x, dR⟩ : ∃ x, bs.getD 0 0 = x := ⟨_, rfl⟩;have HX : Hid (bs.getD 0 0 = x) := dR;rw [dR] at lY hx;clear dR;obtain ⟨G, hG⟩ : ∃ G, Ps bs = G := ⟨_, rfl⟩;have pA : Hid (Ps bs = G) := hG;rw [hG];clear hG
  by_cases h8 : len = 8
  ·by_cases h127 : 127 < x
   ·have e : Ps bs = -1 := by unfold Ps; rw [if_pos]; right; right; exact (UD bs HB.out (by rw [HL.out]; exact h8)).2 (by rw [HX.out]; exact h127)
    rw [pA.out] at e;subst e;subst h8
    go_enter Tryz.func90, Tryz.ntmps90
    go_wp2;go_ret;exact ⟨rfl, kZ0⟩
   ·have nQ : Hid (len ≤ 7 ∨ len = 8 ∧ x ≤ 127) := Or.inr ⟨h8, by omega⟩
    subst h8
    go_enter Tryz.func90, Tryz.ntmps90
    go_wp2
    go_loopw [3, 4] (fun y i wr => ∃ (k : Nat), k ≤ 8 ∧ y = Q1 (num (bs.take k)) ∧ i = Q1 k ∧ wr = w) (fun _ i _ => 8 - (intOf i).toNat)
    case atStart => exact ⟨0, Nat.zero_le _, by simp [num], by simp, rfl⟩
    case round =>
     obtain ⟨k, hk, rfl, rfl, rfl⟩ := hrel
     have hg : Ps bs = num bs := by
      unfold Ps;rw [if_neg];have hl := HL.out
      rcases nQ.out with h | h
      ·have := WH bs HB.out (by omega)
       omega
      ·have := UD bs HB.out (by omega)
       rw [HX.out] at this;omega
     have HG : Hid (Ps bs = num bs) := hg;clear hg
     by_cases bg : k < 8
     ·have fe : k < bs.length := by rw [HL.out]; exact bg
      have q1 := HC.out k fe;have aY := QO bs HB.out k (by omega);have dJ := HB.out.at k fe
      have eg : num (bs.take k) * 256 + bs.getD k 0 ≤ 9223372036854775807 := by
       have e := R7 bs k fe;rw [← e];exact jcy bs HB.out (k + 1) (by omega) (by have := HG.out; have h9 := ja1 bs; omega)
      have HS : Hid (num (bs.take (k + 1)) = num (bs.take k) * 256 + bs.getD k 0) := R7 bs k fe;generalize num (bs.take k) = y at *;generalize bs.getD k 0 = z at *;obtain ⟨fI, _⟩ := aY;clear lY;go_wp2;go_roundw
      case rel => exact ⟨k + 1, by omega, by rw [HS.out], by go_num, by first | rfl | trivial⟩
      case measure => simp [intOf]; omega
     ·have od : k = 8 := by omega
      have he : num (bs.take k) = G := by rw [← pA.out, HG.out, od, ← HL.out, List.take_length]
      rw [he];clear lY;go_wp2;go_ret;exact ⟨rfl, kZ0⟩
  ·have nQ : Hid (len ≤ 7 ∨ len = 8 ∧ x ≤ 127) := Or.inl (by omega)
   go_enter Tryz.func90, Tryz.ntmps90
   go_wp2
   go_loopw [3, 4] (fun y i wr => ∃ (k : Nat), k ≤ len ∧ y = Q1 (num (bs.take k)) ∧ i = Q1 k ∧ wr = w) (fun _ i _ => len - (intOf i).toNat)
   case atStart => exact ⟨0, Nat.zero_le _, by simp [num], by simp, rfl⟩
   case round =>
    obtain ⟨k, hk, rfl, rfl, rfl⟩ := hrel
    have hg : Ps bs = num bs := by
     unfold Ps;rw [if_neg];have hl := HL.out
     rcases nQ.out with h | h
     ·have := WH bs HB.out (by omega)
      omega
     ·have := UD bs HB.out (by omega)
      rw [HX.out] at this;omega
    have HG : Hid (Ps bs = num bs) := hg;clear hg
    by_cases bg : k < len
    ·have fe : k < bs.length := by rw [HL.out]; exact bg
     have q1 := HC.out k fe;have aY := QO bs HB.out k (by omega);have dJ := HB.out.at k fe
     have eg : num (bs.take k) * 256 + bs.getD k 0 ≤ 9223372036854775807 := by
      have e := R7 bs k fe;rw [← e];exact jcy bs HB.out (k + 1) (by omega) (by have := HG.out; have h9 := ja1 bs; omega)
     have HS : Hid (num (bs.take (k + 1)) = num (bs.take k) * 256 + bs.getD k 0) := R7 bs k fe;generalize num (bs.take k) = y at *;generalize bs.getD k 0 = z at *;obtain ⟨fI, _⟩ := aY;clear lY;go_wp2;go_roundw
     case rel => exact ⟨k + 1, by omega, by rw [HS.out], by go_num, by first | rfl | trivial⟩
     case measure => simp [intOf]; omega
    ·have od : k = len := by omega
     have he : num (bs.take k) = G := by rw [← pA.out, HG.out, od, ← HL.out, List.take_length]
     rw [he];clear lY;go_wp2;go_ret;exact ⟨rfl, kZ0⟩
theorem Rw (v : Value) (bs : List Int) (w : World) (hb : IsB bs) (hn : bs.length ≤ 1099511627776) (hv : Rd .u8 w v bs) :
  Calls Tryz.prog 56 #[v] w fun e w' => e = .returned (Q1 (Ps bs)) ∧ Same w w' := by
 by_cases h : bs.length < 1 ∨ 8 < bs.length
 ·obtain ⟨a, c, rfl⟩ := hv.form
  have e : Ps bs = -1 := by unfold Ps; rw [if_pos (by omega)]
  rw [e];clear hv e hb
  rcases h with h | h
  ·go_enter Tryz.func56, Tryz.ntmps56
   go_wp2;go_ret;exact ⟨rfl, kZ0⟩
  ·go_enter Tryz.func56, Tryz.ntmps56
   go_wp2;go_ret;exact ⟨rfl, kZ0⟩
 ·rcases hv.2 with ⟨rfl, _⟩ | ⟨b, off, c, rfl, _, hc⟩
  ·simp at h
  have HC : Hid (∀ i, i < bs.length → w.cell? ⟨b, off + i, none⟩ = some (.int .u8 (bs.getD i 0))) := hc;have HB : Hid (IsB bs) := hb;clear hc hv hb hn;generalize hl : bs.length = len at h ⊢;have HL : Hid (bs.length = len) := hl
  have h1 : 1 ≤ len := by omega
  have h2 : len ≤ 8 := by omega
  clear hl h;obtain ⟨G, hG⟩ : ∃ G, Ps bs = G := ⟨_, rfl⟩;have pA : Hid (Ps bs = G) := hG;rw [hG];clear hG
  go_enter Tryz.func56, Tryz.ntmps56
  go_wp2
  go_loopw [3, 5, 16] (fun y _ i wr => ∃ (k : Nat), k ≤ len ∧ y = .int .u64 (num (bs.take k)) ∧ i = Q1 k ∧ wr = w) (fun _ _ i _ => len - (intOf i).toNat)
  case atStart => exact ⟨0, Nat.zero_le _, by simp [num], by simp, rfl⟩
  case round =>
   obtain ⟨k, hk, rfl, rfl, rfl⟩ := hrel
   by_cases bg : k < len
   ·have fe : k < bs.length := by rw [HL.out]; exact bg
    have q1 := HC.out k fe;have aY := QO bs HB.out k (by omega);have dJ := HB.out.at k fe
    have eg : num (bs.take k) * 256 + bs.getD k 0 < 18446744073709551616 := by
     have e := R7 bs k fe;rw [← e];exact ja0 bs HB.out (k + 1) (by omega) (by omega)
    have HS : Hid (num (bs.take (k + 1)) = num (bs.take k) * 256 + bs.getD k 0) := R7 bs k fe;generalize num (bs.take k) = y at *;generalize bs.getD k 0 = z at *;obtain ⟨fI, _⟩ := aY;have zH : bits .or .u64 (y * 256) z = y * 256 + z := bits_join .u64 64 (by decide) (fun n h0 h1 => by rw [IntKind.wrap_u64]; omega) 8 _ _ (by omega) (by omega) (by omega) (by omega) (by omega) (by omega);go_wp2;go_roundw
    case rel => exact ⟨k + 1, by omega, by rw [HS.out], by go_num, by first | rfl | trivial⟩
    case measure => simp [intOf]; omega
   ·have od : k = len := by omega
    have he : num (bs.take k) = num bs := by rw [od, ← HL.out, List.take_length]
    rw [he];have aY := ja0 bs HB.out len (by have := HL.out; omega) (by omega);have cq := QO bs HB.out len (by have := HL.out; omega);rw [← od, he] at aY cq
    have HG : Hid (Ps bs = if 9223372036854775807 < num bs then -1 else num bs) := by
     have hl := HL.out
     have h0 : ¬ bs.length < 1 := by omega
     have h8 : ¬ 8 < bs.length := by omega
     simp [Ps, h0, h8, Hid]
    clear he;generalize num bs = y at *
    by_cases hm : 9223372036854775807 < y
    ·have e := HG.out
     rw [if_pos hm, pA.out] at e;go_wp2;go_ret;rw [e];exact ⟨rfl, kZ0⟩
    ·have e := HG.out
     rw [if_neg hm, pA.out] at e;obtain ⟨fI, _⟩ := cq;go_wp2;go_ret;exact ⟨rfl, kZ0⟩
/-! ### Numbers -/
theorem WI (v : Nat) (k : Nat) : num (O5 (v : Int) k) = ((v % 256 ^ k : Nat) : Int) := by
 induction k with
 | zero => simp [O5, num, Nat.mod_one]
 | succ k ih =>
  have e : O5 (v : Int) (k + 1) = ((v : Int) / 256 ^ k % 256) :: O5 (v : Int) k := rfl;rw [e, WG, OY, ih, Nat.pow_succ, Nat.mod_mul]
  have e2 : ((v : Int) / 256 ^ k % 256) = ((v / 256 ^ k % 256 : Nat) : Int) := by simp
  rw [e2]
  have e3 : (256 : Int) ^ k = ((256 ^ k : Nat) : Int) := by simp
  rw [e3, ← Int.natCast_mul, ← Int.natCast_add, Nat.mul_comm, Nat.add_comm]
theorem XW (v n : Int) (hv : IsI v) (h : OW v n ≠ []) : Ps (OW v n) = v ∧ ((OW v n).length : Int) = n := by
 unfold OW at h ⊢
 split at h
 ·exact absurd rfl h
 ·rename_i hc
  rw [if_neg hc]
  have hn : 1 ≤ n ∧ n ≤ 8 ∧ 0 ≤ v ∧ v / 256 ^ n.toNat = 0 := by omega
  obtain ⟨h1, h2, h3, h4⟩ := hn;obtain ⟨m, rfl⟩ : ∃ m : Nat, v = m := ⟨v.toNat, by omega⟩
  have dY : num (O5 (m : Int) n.toNat) = m := by
   rw [WI]
   have h5 : ((m / 256 ^ n.toNat : Nat) : Int) = 0 := by rw [← h4]; simp
   have h6 : m / 256 ^ n.toNat = 0 := by omega
   have h7 : m < 256 ^ n.toNat := by
    rcases (Nat.div_eq_zero_iff.1 h6) with h | h
    ·exact absurd h (Nat.ne_of_gt (Nat.pow_pos (by decide)))
    ·exact h
   rw [Nat.mod_eq_of_lt h7]
  have hl := OY (m : Int) n.toNat;refine ⟨?_, by rw [hl]; omega⟩;unfold Ps;rw [dY, hl, if_neg (by have := hv.2; omega)]
theorem WJ (bs : List Int) : Pp 0 bs = 4294967295 - reg 4294967295 bs := rfl
def le : List Int → Nat
 | [] => 0
 | b :: bs => b.toNat ^^^ 256 * le bs
theorem jcz (bs : List Int) (r : Nat) : reg r bs = shN (8 * bs.length) (r ^^^ le bs) := by
 induction bs generalizing r with
 | nil => simp [reg, le, shN]
 | cons b bs ih =>
  have e : reg r (b :: bs) = reg (shN 8 (r ^^^ b.toNat)) bs := rfl;rw [e, ih, List.length_cons, Nat.mul_succ, jaY]
  congr 1
  have e2 : le bs = shN 8 (2 ^ 8 * le bs) := (Yx 8 (le bs)).symm
  conv => lhs; rw [e2]
  rw [← Yw, le, Nat.xor_assoc]
theorem le_set (bs : List Int) (j x : Nat) (hj : j < bs.length) : le (bs.set j (((bs.getD j 0).toNat ^^^ x : Nat) : Int)) = le bs ^^^ 256 ^ j * x := by
 induction bs generalizing j with
 | nil => simp at hj
 | cons b bs ih =>
  cases j with
  | zero =>
   simp only [List.set_cons_zero, le, List.getD_cons_zero, Int.toNat_natCast, Nat.pow_zero, Nat.one_mul];rw [Nat.xor_assoc, Nat.xor_assoc, Nat.xor_comm x]
  | succ j =>
   have h := ih j (by simpa using hj);simp only [List.set_cons_succ, le, List.getD_cons_succ];rw [h, Nat.xor_assoc]
   congr 1
   have e := mul_pow_xor 8 (le bs) (256 ^ j * x);rw [show (2 : Nat) ^ 8 = 256 from rfl] at e;rw [e, Nat.pow_succ, Nat.mul_comm (256 ^ j) 256, Nat.mul_assoc]
 where
 mul_pow_xor (k a b : Nat) : 2 ^ k * (a ^^^ b) = 2 ^ k * a ^^^ 2 ^ k * b := by
  apply Nat.eq_of_testBit_eq;intro i;rw [Nat.testBit_xor, Nat.testBit_two_pow_mul, Nat.testBit_two_pow_mul, Nat.testBit_two_pow_mul, Nat.testBit_xor]
  by_cases h : k ≤ i <;> simp [h]
theorem mul_pow_xor (k a b : Nat) : 2 ^ k * (a ^^^ b) = 2 ^ k * a ^^^ 2 ^ k * b := le_set.mul_pow_xor k a b
theorem jeu (bs ts : List Int) (from_ i b : Nat) (hj : (from_ + i) / 8 < bs.length) (h : le bs = le ts ^^^ 2 ^ from_ * b) :
  le (bs.set ((from_ + i) / 8) (((bs.getD ((from_ + i) / 8) 0).toNat ^^^ 2 ^ ((from_ + i) % 8) : Nat) : Int)) = le ts ^^^ 2 ^ from_ * (b ^^^ 2 ^ i) := by
 rw [le_set _ _ _ hj, h, mul_pow_xor, ← Nat.xor_assoc]
 congr 1
 rw [show (256 : Nat) = 2 ^ 8 from rfl, ← Nat.pow_mul, ← Nat.pow_add, ← Nat.pow_add]
 congr 1
 omega
theorem jcA (b i : Nat) (h : b < 2 ^ i) : b ^^^ 2 ^ i < 2 ^ (i + 1) ∧ b ^^^ 2 ^ i ≠ 0 := by
 constructor
 ·exact Nat.xor_lt_two_pow (Nat.lt_of_lt_of_le h (Nat.pow_le_pow_right (by decide) (by omega))) (Nat.pow_lt_pow_right (by decide) (by omega))
 ·intro e
  have : b = 2 ^ i := by
   have h2 := congrArg (fun z => z ^^^ 2 ^ i) e
   simpa [Nat.xor_assoc] using h2
  omega
theorem jfc (r : Nat) (h : r < 4294967296) (h0 : r ≠ 0) : sh r ≠ 0 := by
 unfold sh
 split
 ·intro e
  have h2 := congrArg (fun z => z ^^^ 3988292384) e;simp only [Nat.xor_assoc, Nat.xor_self, Nat.xor_zero, Nat.zero_xor] at h2;omega
 ·omega
theorem jev (k r : Nat) (h : r < 4294967296) (h0 : r ≠ 0) : shN k r ≠ 0 := by
 induction k generalizing r with
 | zero => exact h0
 | succ k ih => exact ih _ (jeb r h) (jfc r h h0)
theorem jbv (bs ts : List Int) (from_ b : Nat) (hl : bs.length = ts.length) (hf : from_ ≤ 8 * ts.length) (h : le bs = le ts ^^^ 2 ^ from_ * b) (hb : b < 4294967296) (h0 : b ≠ 0) : Pp 0 bs ≠ Pp 0 ts := by
 rw [WJ, WJ];intro e
 have e2 : reg 4294967295 bs = reg 4294967295 ts := by omega
 rw [jcz, jcz, hl, h, ← Nat.xor_assoc, Yw _ _ (2 ^ from_ * b)] at e2
 have e3 : shN (8 * ts.length) (2 ^ from_ * b) = 0 := by
  have h2 := congrArg (fun z => shN (8 * ts.length) (4294967295 ^^^ le ts) ^^^ z) e2
  simpa [← Nat.xor_assoc] using h2
 rw [show 8 * ts.length = (8 * ts.length - from_) + from_ from by omega, jaY, Yx] at e3;exact jev _ b hb h0 e3
theorem QR (v : Int) (k : Nat) : IsB (O5 v k) := by
 induction k with
 | zero => intro y hy; simp [O5] at hy
 | succ k ih =>
  intro y hy;simp only [O5, List.mem_cons] at hy
  rcases hy with rfl | hy
  ·omega
  ·exact ih y hy
theorem PU (v n : Int) : IsB (OW v n) := by
 unfold OW
 split
 ·intro y hy; simp at hy
 ·exact QR _ _
theorem Rd.mid {k : IntKind} {w : World} {b off c : Nat} {bs : List Int} (h : Rd k w (.slice (some ⟨b, off, none⟩) bs.length c) bs) (o n c' : Nat) (hm : o + n ≤ bs.length) (zR : n ≤ c') : Rd k w (.slice (some ⟨b, off + o, none⟩) n c') ((bs.drop o).take n) := by
 have hl : ((bs.drop o).take n).length = n := by simp; omega
 refine ⟨by rw [hl]; have := h.1; omega, ?_⟩
 by_cases h0 : n = 0
 ·subst h0
  exact .inl ⟨by simp, _, _, rfl, fun e => by cases e⟩
 ·rcases h.2 with ⟨hn, a, c', e, _⟩ | ⟨b', nx, Ob, e, ry, hc⟩
  ·rw [hn] at hm
   simp at hm;omega
  ·cases e
   refine .inr ⟨b, off + o, c', by rw [hl], by omega, fun i hi => ?_⟩;have := hc (o + i) (by omega);rw [Nat.add_assoc, this];simp [List.getD, List.getElem?_take, List.getElem?_drop, show i < n by omega]
theorem Sc (b off len c : Nat) (bs : List Int) (at_ n : Nat) (w : World) (hB : IsB bs) (hl : bs.length = len) (hm : len ≤ 1099511627776) (h1 : 1 ≤ n) (h2 : at_ + n ≤ len) (hv : Rd .u8 w (.slice (some ⟨b, off, none⟩) len c) bs) :
  Calls Tryz.prog 81 #[.slice (some ⟨b, off, none⟩) len c, Q1 at_, Q1 n] w fun e w' => e = .returned (Q1 (Ps ((bs.drop at_).take n))) ∧ Same w w' := by
 have hc : len ≤ c := by
  rcases hv.2 with ⟨h0, _⟩ | ⟨b', o', c', e, ry, hc⟩
  ·rw [h0] at hl
   simp at hl;omega
  ·cases e
   omega
 have HR : Hid (Rd .u8 w (.slice (some ⟨b, off + at_, none⟩) n (c - at_)) ((bs.drop at_).take n)) := (by subst hl; exact hv.mid at_ n (c - at_) h2 (by omega));have HG : Hid (Calls Tryz.prog 90 #[.slice (some ⟨b, off + at_, none⟩) n (c - at_)] w fun e w' => e = .returned (Q1 (Ps ((bs.drop at_).take n))) ∧ Same w w') := VD _ _ w (Qz (Rp hB at_) n) (by simp; omega) HR.out;clear hv hB HR
 have q1 : (at_ : Int) ≤ (at_ : Int) + (n : Int) := by omega
 have q2 : (at_ : Int) + (n : Int) ≤ (c : Int) := by omega
 have q3 : (0 : Int) ≤ (at_ : Int) := by omega
 have q4 : at_ < c := by omega
 have q5 : ¬ c = at_ := by omega
 have q6 : ((at_ : Int) + (n : Int)).toNat = at_ + n := by omega
 have q7 : at_ + n - at_ = n := by omega
 go_enter Tryz.func81, Tryz.ntmps81
 go_wp2_with fail
 with_reducible refine HG.out.mono ?_
 rintro e w1 ⟨rfl, ah⟩;go_wp2;go_ret;exact ⟨rfl, ah⟩
theorem addr_add (B o j : Nat) : (⟨B, o, none⟩ : Addr).add j = ⟨B, o + j, none⟩ := by unfold Addr.add; split <;> simp_all
theorem Blk.loads {P : Program} {w : World} {B : Nat} {e : TypeId} {xs : List Value} (h : Blk w B e xs) (o n : Nat) (hn : o + n ≤ xs.length) : (loadCellsFrom ⟨B, o, none⟩ 0 n #[]).run P w = .ok ((xs.drop o).take n).toArray w := by
 have hl : ((xs.drop o).take n).length = n := by simp; omega
 have := run_loadCells_list (P := P) w ⟨B, o, none⟩ ((xs.drop o).take n) (fun j v hv => by
  rw [addr_add, h.cell]
  have hj : j < n := by have := (List.getElem?_eq_some_iff.1 hv).1; omega
  rw [List.getElem?_take_of_lt hj, List.getElem?_drop] at hv
  exact hv)
 simpa [loadCells, hl] using this
theorem Blk.setCells {B : Nat} {e : TypeId} : ∀ (vs : List Value) (o : Nat) {w : World} {xs : List Value}, Blk w B e xs → o + vs.length ≤ xs.length → Blk (w.setCells B o vs) B e (lay xs o vs)
 | [], o, w, xs, h, _ => by rw [Yu]; exact h
 | v :: vs, o, w, xs, h, hl => by
  simp only [List.length_cons] at hl;have := Blk.setCells vs (o + 1) (h.stored o v) (by rw [List.length_set]; omega);rw [Wy _ _ _ _ hl] at this;exact this
theorem Kept.setCells {R : Nat → Prop} {a : World} {B : Nat} (hB : a.heap.size ≤ B ∨ R B) : ∀ (vs : List Value) (o : Nat) {b : World}, Kept R a b → Kept R a (b.setCells B o vs)
 | [], _, _, h => h
 | v :: vs, o, b, h => Kept.setCells hB vs (o + 1) (h.setCell (p := ⟨B, o, none⟩) hB v)
theorem Blk.range {w : World} {B : Nat} {e : TypeId} {xs : List Value} (h : Blk w B e xs) (o : Nat) (cs : List Value) (hc : ∀ j v, cs[j]? = some v → xs[o + j]? = some v) : w.rangeAt B o cs := fun j v hv => by
 rw [h.cell];exact hc j v hv
theorem Blk.rangeAll {w : World} {B : Nat} {e : TypeId} {xs : List Value} (h : Blk w B e xs) : w.rangeAt B 0 xs := h.range 0 xs (fun j v hv => by rw [Nat.zero_add]; exact hv)
theorem Blk.there {w : World} {B : Nat} {e : TypeId} {xs : List Value} (h : Blk w B e xs) (o n : Nat) (hn : o + n ≤ xs.length) : w.there B o n := fun j hj => ⟨by rw [h.cell, List.getElem?_eq_getElem (by omega)]; rfl, h.frozen _⟩
theorem Kept.ranges {w w' : World} {b o : Nat} {cs : List Value} (hk : Same w w') (h : w.rangeAt b o cs) : w'.rangeAt b o cs := fun j v hv => hk.cellOf (h j v hv) id
def Rb (bs : List Int) : List Int := O5 (Pp 0 (bs.drop 4)) 4 ++ bs.drop 4
theorem UW (bs : List Int) (h : 4 ≤ bs.length) : (Rb bs).length = bs.length := by simp [Rb, OY]; omega
theorem Blk.rd {w : World} {B : Nat} {e : TypeId} {bs : List Int} (h : Blk w B e (vals .u8 bs)) (o n c : Nat) (hn : o + n ≤ bs.length) (hc : n ≤ c) (hm : bs.length ≤ maxLen) : Rd .u8 w (.slice (some ⟨B, o, none⟩) n c) ((bs.drop o).take n) := by
 have hl : ((bs.drop o).take n).length = n := by simp; omega
 refine ⟨by omega, .inr ⟨B, o, c, by rw [hl], by omega, fun i hi => ?_⟩⟩;rw [h.cell, Qp _ _ _ (by omega)];simp [List.getD, List.getElem?_take, show i < n by omega]
def Qo (bs : List Int) : List Int := if bs.length = 4096 then Rb bs else []
theorem jav (w : World) (ad : Option Addr) (c : Nat) : (Instr.arrayAt 211 (.slice ad 4096 c)).run Tryz.prog w = .ok (.pointer ad) w := by
 simp [Instr.arrayAt, run_underlying Tryz.underlying211]
theorem Te : (Tryz.prog.info? 211).map (·.size) = some 4096 := by kernel_rfl
theorem Zm {w : World} {b off c : Nat} {bs : List Int} (h : Rd .u8 w (.slice (some ⟨b, off, none⟩) bs.length c) bs) (hn : 0 < bs.length) : w.rangeAt b off (vals .u8 bs) := fun j v hv => by
 have hj : j < bs.length := by have := (List.getElem?_eq_some_iff.1 hv).1; rwa [O1] at this
 rcases h.2 with ⟨h0, _⟩ | ⟨b', o', c', e, _, hc⟩
 ·rw [h0] at hn
  simp at hn
 ·cases e
  rw [hc j hj, ← hv, Qp _ _ _ hj]
theorem rd_some {w : World} {a : Option Addr} {n c : Nat} {bs : List Int} (h : Rd .u8 w (.slice a n c) bs) (hn : 0 < bs.length) : ∃ b off, a = some ⟨b, off, none⟩ ∧ bs.length ≤ c := by
 rcases h.2 with ⟨h0, _⟩ | ⟨b', o', c', e, hl, hc⟩
 ·rw [h0] at hn
  simp at hn
 ·cases e
  exact ⟨_, _, rfl, hl⟩
theorem jfd (x : Int) (h0 : 0 ≤ x) (h1 : x ≤ 4294967295) : OW x 4 = O5 x 4 := by
 unfold OW;rw [if_neg]
 ·rfl
 ·have : x / 256 ^ (4 : Int).toNat = 0 := by
   rw [show (256 : Int) ^ (4 : Int).toNat = 4294967296 from rfl];omega
  omega
theorem UX (v : Value) (bs : List Int) (w : World) (hB : IsB bs) (hn : bs.length ≤ 1099511627776) (hv : Rd .u8 w v bs) :
  Calls Tryz.prog 103 #[v] w fun e w' => ∃ a c, e = .returned (.slice a (Qo bs).length c) ∧ (∀ b, (Value.slice a (Qo bs).length c).ownBlock = some b → w.heap.size ≤ b) ∧
   Own 0 5 .u8 w' (.slice a (Qo bs).length c) (Qo bs) ∧ Same w w' := by
 obtain ⟨a, c, rfl⟩ := hv.form
 by_cases hl : bs.length = 4096
 ·have hR : Qo bs = Rb bs := by unfold Qo; rw [if_pos hl]
  have cw : (Rb bs).length = 4096 := by rw [UW _ (by omega), hl]
  obtain ⟨b, off, rfl, hc⟩ := rd_some hv (by omega);obtain ⟨i0, hi, b8, cE, cP⟩ := info_parts Tryz.infoByte';have HV : Hid (Rd .u8 w (.slice (some ⟨b, off, none⟩) bs.length c) bs) := hv;have HB : Hid (IsB bs) := hB;have HL : Hid (bs.length = 4096) := hl;have nL := R6 0 (bs.drop 4) (by decide) (by decide) (fun y hy => hB y (List.mem_of_mem_drop hy));have M1 : Hid (OW (Pp 0 (bs.drop 4)) 4 = O5 (Pp 0 (bs.drop 4)) 4) := jfd _ nL.1 nL.2
  have AF := (show Hid (∀ wx, Same w wx → Rd .u8 wx (.slice (some ⟨b, off + 4, none⟩) 4092 (c - 4)) (bs.drop 4)) from fun wx hx => by
   have h := Rd.back (hv.same hx) 4 (by omega)
   rwa [show bs.length - 4 = 4092 from by omega] at h)
  clear hv hB hn;rw [hR, cw, hl];rw [hl] at hc
  have AA : (4 : Int) ≤ (c : Int) := by omega
  have FN : 4 < c := by omega
  have HH : ¬ c = 4 := by omega
  clear hl
  go_enter Tryz.func103, Tryz.ntmps103
  go_wp2_with fail
  have hS : (fun _ : World => True) w.drew := by trivial
  refine O0 (fun _ : World => True) 99 8 ?_;refine tk 0 7 hS ?_;refine tk 1 8 hS ?_;refine tk 4 11 hS ?_;refine tk 5 12 hS ?_;refine o1Q 2 (fun K hK => ?_);go_simp;have i5 := VB (.slice (some ⟨b, off + 4, none⟩) 4092 (c - 4)) (bs.drop 4) w.drew (fun y hy => HB.out y (List.mem_of_mem_drop hy)) (by rw [List.length_drop, HL.out]; decide) (AF.out _ kZ0.drew)
  with_reducible refine i5.mono ?_
  clear i5;rintro e w2 ⟨rfl, ai⟩;have aO : Hid (Same w w2) := kZ0.drew.trans ai;have sn := ai.size;clear ai;refine hK.out _ _ (fun _ => trivial) ?_;clear hK K
  try simp only [Sp]
  refine o1Q 3 (fun K hK => ?_);go_simp;have i5 := QV (Pp 0 (bs.drop 4)) 4 w2 ⟨by omega, by omega⟩ ⟨by decide, by decide⟩
  with_reducible refine i5.mono ?_
  clear i5;rintro e w3 ⟨a3, c3, rfl, vX, uO, aZ⟩;rw [M1.out, OY] at vX uO ⊢;have bo := hid (aO.out.trans aZ);have cR : Hid (∀ b, (Value.slice a3 4 c3).ownBlock = some b → w2.heap.size ≤ b) := vX;have cI : Hid (Own 0 5 .u8 w3 (.slice a3 4 c3) (O5 (Pp 0 (bs.drop 4)) 4)) := uO;clear vX uO aZ;refine hK.out _ _ (fun _ => trivial) ?_;clear hK K
  try simp only [Sp]
  refine o1Q 6 (fun K hK => ?_)
  have qb : ∀ j u, (vals .u8 (bs.drop 4))[j]? = some u → w3.cell? ((⟨b, off + 4, none⟩ : Addr).add j) = some u := fun j u hu => by
   have hj : j < (bs.drop 4).length := by have := (List.getElem?_eq_some_iff.1 hu).1; rwa [O1] at this
   rcases (AF.out _ bo.out).2 with ⟨h0, _⟩ | ⟨b', o', c', e, _, i5⟩
   ·rw [h0] at hj
    simp at hj
   ·simp only [Value.slice.injEq, Option.some.injEq, Addr.mk.injEq] at e
    obtain ⟨⟨rfl, rfl, _⟩, _, rfl⟩ := e;rw [addr_add, i5 j hj, ← hu, Qp _ _ _ hj]
  have gM : (vals .u8 (bs.drop 4)).length = 4092 := by rw [O1, List.length_drop, HL.out]
  have eh : w3.ownsRow 0 5 1 (.slice a3 4 c3) 4 (vals .u8 (O5 (Pp 0 (bs.drop 4)) 4)) := by have h := cI.out; unfold Own at h; rwa [OY] at h
  refine step_append_lies _ (by rfl) _ _ 22 (by rfl) 0 5 i0 (.int .u8 0) 1 1 Tryz.underlying22 hi b8 cE cP rfl (by omega) (.slice a3 4 c3) 4 (vals .u8 (O5 (Pp 0 (bs.drop 4)) 4)) (by rfl) eh ⟨b, off + 4, none⟩ 4092 (c - 4) (vals .u8 (bs.drop 4)) (by rfl) (by rw [gM]) qb Qy (by omega) (by decide) (by decide) (Nat.zero_le _) w3.heap.size rfl ?_;intro g4 ER w4 fZ mU zJ zv;have dV : Hid (Own 0 5 .u8 w4 (Q3 g4 4096 ER) (Rb bs)) := (by unfold Own Hid; rw [cw]; simpa [Rb, vals] using fZ);have bp : Hid (Same w w4) := bo.out.grown mU (fun k e => .inl (by have := cR.out k e; have := aO.out.size; omega))
  have ot : w.heap.size ≤ g4 := by
   have := aO.out.size;have := bo.out.size
   rcases zJ with h | h
   ·have := cR.out g4 h; omega
   ·omega
  clear fZ mU zJ eh qb;refine hK.out _ _ (fun _ => trivial) ?_;clear hK K
  try simp only [Sp]
  refine tk 7 2 hS ?_;refine OZ ?_;go_wp2;go_ret;refine ⟨_, _, rfl, fun b hb => ?_, dV.out, bp.out⟩;simp [Value.ownBlock] at hb;omega
 ·have hR : Qo bs = [] := by unfold Qo; rw [if_neg hl]
  rw [hR]
  have ry : ¬ (bs.length : Int) = 4096 := by omega
  clear hv hB
  go_enter Tryz.func103, Tryz.ntmps103
  go_wp2;go_ret;exact ⟨some ⟨w.heap.size, 0, none⟩, 0, rfl, fun b hb => by simp [Value.ownBlock] at hb; omega, Own.empty _ _, kZ0.alloc _⟩
def PN (sum : List Int) (lsn num bot : Int) (sl raw : List Int) : List Value :=
 vals .u8 sum ++ (Q1 lsn :: Q1 num :: Q1 bot :: (vals .i64 sl ++ vals .u8 raw))
structure SP (w : World) (B : Nat) (sum : List Int) (lsn num bot : Int) (sl raw : List Int) : Prop where
 blk : Blk w B 217 (PN sum lsn num bot sl raw)
 l1 : sum.length = 4
 l2 : sl.length = 64
 l3 : raw.length = 4096
section
variable {w w' : World} {B : Nat} {sum : List Int} {lsn num bot : Int} {sl raw : List Int}
theorem SP.kept {R : Nat → Prop} (h : SP w B sum lsn num bot sl raw) (hk : Kept R w w') (hr : ¬ R B) : SP w' B sum lsn num bot sl raw := ⟨h.blk.kept hk hr, h.l1, h.l2, h.l3⟩
theorem SP.same (h : SP w B sum lsn num bot sl raw) (hk : Same w w') : SP w' B sum lsn num bot sl raw := ⟨h.blk.same hk, h.l1, h.l2, h.l3⟩
theorem TV (h1 : sum.length = 4) (h2 : sl.length = 64) (h3 : raw.length = 4096) : (PN sum lsn num bot sl raw).length = 4167 := by simp [PN, vals, h1, h2, h3]
theorem SP.sumAt (h : SP w B sum lsn num bot sl raw) (j : Nat) (hj : j < 4) : w.cell? ⟨B, j, none⟩ = some (.int .u8 (sum.getD j 0)) := by
 rw [h.blk.cell, PN, List.getElem?_append_left (by rw [O1, h.l1]; exact hj), Qp _ _ _ (by rw [h.l1]; exact hj)]
theorem SP.num3 (h : SP w B sum lsn num bot sl raw) : w.cell? ⟨B, 4, none⟩ = some (Q1 lsn) ∧ w.cell? ⟨B, 5, none⟩ = some (Q1 num) ∧ w.cell? ⟨B, 6, none⟩ = some (Q1 bot) := by
 have e : (vals .u8 sum).length = 4 := by rw [O1, h.l1]
 refine ⟨?_, ?_, ?_⟩ <;> rw [h.blk.cell, PN, List.getElem?_append_right (by rw [e]; decide), e] <;> rfl
theorem SP.slAt (h : SP w B sum lsn num bot sl raw) (j : Nat) (hj : j < 64) : w.cell? ⟨B, 7 + j, none⟩ = some (Q1 (sl.getD j 0)) := by
 have e : (vals .u8 sum).length = 4 := by rw [O1, h.l1]
 rw [h.blk.cell, PN, List.getElem?_append_right (by omega), e, show 7 + j - 4 = j + 1 + 1 + 1 from by omega, List.getElem?_cons_succ, List.getElem?_cons_succ, List.getElem?_cons_succ,
  List.getElem?_append_left (by rw [O1, h.l2]; exact hj), Qp _ _ _ (by rw [h.l2]; exact hj)]
theorem SP.rawAt (h : SP w B sum lsn num bot sl raw) (j : Nat) (hj : j < 4096) : w.cell? ⟨B, 71 + j, none⟩ = some (.int .u8 (raw.getD j 0)) := by
 have e : (vals .u8 sum).length = 4 := by rw [O1, h.l1]
 have e2 : (vals .i64 sl).length = 64 := by rw [O1, h.l2]
 rw [h.blk.cell, PN, List.getElem?_append_right (by omega), e, show 71 + j - 4 = 64 + j + 1 + 1 + 1 from by omega, List.getElem?_cons_succ, List.getElem?_cons_succ, List.getElem?_cons_succ,
  List.getElem?_append_right (by omega), e2, Nat.add_sub_cancel_left, Qp _ _ _ (by rw [h.l3]; exact hj)]
theorem SP.rawRange (h : SP w B sum lsn num bot sl raw) : w.rangeAt B 71 (vals .u8 raw) := fun j v hv => by
 have hj : j < 4096 := by have := (List.getElem?_eq_some_iff.1 hv).1; rwa [O1, h.l3] at this
 rw [h.rawAt j hj, ← hv, Qp _ _ _ (by rw [h.l3]; exact hj)]
theorem SP.slRange (h : SP w B sum lsn num bot sl raw) : w.rangeAt B 7 (vals .i64 sl) := fun j v hv => by
 have hj : j < 64 := by have := (List.getElem?_eq_some_iff.1 hv).1; rwa [O1, h.l2] at this
 rw [h.slAt j hj, ← hv, Qp _ _ _ (by rw [h.l2]; exact hj)]
end
/-! ### What is written from the front on -/
def cont (A raw : List Int) : List Int := A ++ raw.drop A.length
theorem Zn (raw : List Int) : cont [] raw = raw := by simp [cont]
theorem Qe (A raw : List Int) (h : A.length ≤ raw.length) : (cont A raw).length = raw.length := by simp [cont]; omega
theorem jcB (A raw xs : List Int) (h : A.length + xs.length ≤ raw.length) : lay (vals .u8 (cont A raw)) A.length (vals .u8 xs) = vals .u8 (cont (A ++ xs) raw) := by
 unfold lay cont;simp [vals, Nat.add_comm];rw [List.drop_append, List.drop_of_length_le (by simp), List.drop_drop, List.nil_append, List.length_map]
 congr 1
 omega
theorem Blk.more {w : World} {B : Nat} {e : TypeId} {A raw : List Int} (n : Nat) (xs : List Int) (h : Blk w B e (lay (vals .u8 (cont A raw)) n (vals .u8 xs))) (hn : n = A.length) (hl : A.length + xs.length ≤ raw.length) : Blk w B e (vals .u8 (cont (A ++ xs) raw)) := by
 subst hn
 rwa [jcB _ _ _ hl] at h
def Rn (sum : List Int) (lsn num bot : Int) : List Int := sum ++ O5 lsn 8 ++ O5 num 4 ++ O5 bot 2 ++ O5 0 2
theorem P6 (sum : List Int) (lsn num bot : Int) (h : sum.length = 4) : (Rn sum lsn num bot).length = 20 := by simp [Rn, OY, h]
def slotB (sl : List Int) : List Int := sl.flatMap fun x => O5 x 2
theorem P7 (sl : List Int) : (slotB sl).length = 2 * sl.length := by
 induction sl with
 | nil => rfl
 | cons x sl ih => simp only [slotB, List.flatMap_cons, List.length_append, OY, List.length_cons] at ih ⊢; omega
theorem WK (sl : List Int) (k : Nat) (h : k < sl.length) : slotB (sl.take (k + 1)) = slotB (sl.take k) ++ O5 (sl.getD k 0) 2 := by
 unfold slotB;rw [List.take_succ_eq_append_getElem h, List.flatMap_append];simp [h]
def Py (sum : List Int) (lsn num bot : Int) (sl raw : List Int) : List Int := cont (Rn sum lsn num bot ++ slotB sl) raw
theorem Qu {sum : List Int} {lsn num bot : Int} {sl raw : List Int} (h1 : sum.length = 4) (h2 : sl.length = 64) (h3 : raw.length = 4096) : (Py sum lsn num bot sl raw).length = 4096 := by
 unfold Py;rw [Qe, h3];rw [List.length_append, P6 _ _ _ _ h1, P7, h2, h3]
 decide
section
variable {P : Program} {bf : Array Oper} {o : Oper} {a : Act} {w : World} {K : Act → World → Prop} {Q : Exit → Act → World → Prop} {E : Prop}
theorem SV {B off dl dc sl sc : Nat} {e tb : TypeId} {ad : Addr} {xs : List Value} (fq : o.guard = none) (d s : Operand) (T : TypeId) (ho : o.op = .call { callee := .builtin .copy, args := #[d, s], argTypes := #[T, T] })
  (hu : P.underlying T = some (.slice tb)) (fQ : (P.info? tb).map (·.size) = some 1) (cs : List Value) (hb : Blk w B e xs) (hd : a.eval d = .slice (some ⟨B, off, none⟩) dl dc) (hs : a.eval s = .slice (some ad) sl sc)
  (hn : cs.length = Nat.min sl dl) (jW : ∀ j v, cs[j]? = some v → w.cell? (ad.add j) = some v) (LR : off + cs.length ≤ xs.length) (h1 : ∀ v ∈ cs, v.oneCell' = true)
  (h : K (a.put o.dst (goInt cs.length)) (w.setCells B off cs)) :
  if Region.wanted o (yielded bf a.tmps) = true then Oper.wp P o a w K Q else E := by
 have hw : Region.wanted o (yielded bf a.tmps) = true := by simp [Region.wanted, fq]
 rw [if_pos hw];have pF := run_copy_cells (P := P) w T T o.type tb B off dl dc ad sl sc cs hu fQ hn jW (fun j hj => by rw [hb.cell, List.getElem?_eq_getElem (by omega)]; rfl) (fun j _ => hb.frozen _) h1;unfold Oper.wp;simp [execOp, ho, resolve, invoke, builtin, hd, hs, pF, Result.andThen];exact h
end
theorem byte_size : (Tryz.prog.info? 5).map (·.size) = some 1 := by
 obtain ⟨i0, hi, b8, cE, cP⟩ := info_parts Tryz.infoByte';simp [hi, cE]
set_option maxRecDepth 100000 in
theorem YC (sl : List Int) (hl : sl.length = 64) (k : Nat) (hk : k < 32) (w : World) : (Instr.index 215 (.agg (vals .i64 sl).toArray) (Q1 k)).run Tryz.prog w = .ok (.agg #[Q1 (sl.getD (2 * k) 0), Q1 (sl.getD (2 * k + 1) 0)]) w := by
 have hz : ∀ w, (sizeOf 214).run Tryz.prog w = .ok 2 w := by
  have h : (Tryz.prog.info? 214).map (·.size) = some 2 := by kernel_rfl
  intro w
  cases hq : Tryz.prog.info? 214 with
  | none => simp [hq] at h
  | some i =>
   have hi : i.size = 2 := by simpa [hq] using h
   simp [sizeOf, typeInfo, hq, hi]
 have h1 : (k : Int) < 32 := by omega
 simp [Instr.index, run_underlying Tryz.underlying215, asIntOf, hz, h1, go_sem];rw [if_pos hk]
 have hv : (vals .i64 sl).length = 64 := by rw [O1, hl]
 rw [Nat.mul_comm k 2, List.drop_eq_getElem_cons (by omega : 2 * k < (vals .i64 sl).length), List.drop_eq_getElem_cons (by omega : 2 * k + 1 < (vals .i64 sl).length)];simp [vals, List.getElem?_eq_getElem (show 2 * k < sl.length by omega), List.getElem?_eq_getElem (show 2 * k + 1 < sl.length by omega)]
end Go.Proofs.YtapdfgkbhaoelaaGreatDoor
