import Derived.Test.YtaojjcnmififoaaGreatG01
import Derived.Test.YtaojjcnmififoaaGreatG08
import Derived.Laws.BitsLemmas
import Derived.Laws.Bits64
import Derived.Deep.MidRow
import Derived.Deep.WholeRow
import Derived.Deep.AppendLies
namespace Go.Proofs.YtaojjcnmififoaaGreat
set_option maxRecDepth 100000
set_option maxHeartbeats 16000000
set_option linter.unusedVariables false
set_option linter.unusedSimpArgs false
open Go.RowKit
def num (bs : List Int) : Int := bs.foldl (fun v b => v * 256 + b) 0
theorem jdv (bs : List Int) (b : Int) : num (bs ++ [b]) = num bs * 256 + b := by simp [num, List.foldl_append]
theorem Ur (bs : List Int) (k : Nat) (h : k < bs.length) : num (bs.take (k + 1)) = num (bs.take k) * 256 + bs.getD k 0 := by
 rw [List.take_succ_eq_append_getElem h, jdv]
 simp [h]
theorem Td (bs : List Int) (hb : IsB bs) (k : Nat) (h : k ≤ bs.length) : 0 ≤ num (bs.take k) ∧ num (bs.take k) < 256 ^ k := by
 induction k with
 | zero => simp [num]
 | succ k ih =>
  have h1 := ih (by omega)
  have h2 := hb.at k (by omega)
  rw [Ur bs k (by omega), Int.pow_succ]
  omega
theorem X8 (x : Int) (bs : List Int) : num (x :: bs) = x * 256 ^ bs.length + num bs := by
 have key : ∀ (bs : List Int) (v : Int), bs.foldl (fun v b => v * 256 + b) v = v * 256 ^ bs.length + num bs := fun bs => by
  induction bs with
  | nil => intro v; simp [num]
  | cons y bs ih =>
   intro v
   simp only [List.foldl_cons, num, List.length_cons]
   rw [ih, ih, Int.pow_succ, Int.add_mul, Int.mul_assoc, Int.mul_comm 256, Int.zero_mul, Int.zero_add]
   omega
 have := key bs x
 simpa [num] using this
theorem jdw (bs : List Int) (hb : IsB bs) (k : Nat) (h : k ≤ bs.length) {m : Int} (hm : num bs ≤ m) : num (bs.take k) ≤ m := by
 obtain ⟨d, hd⟩ : ∃ d, bs.length - k = d := ⟨_, rfl⟩
 induction d generalizing k with
 | zero =>
  obtain rfl : k = bs.length := by omega
  rw [List.take_length]
  exact hm
 | succ d ih =>
  have h1 := ih (k + 1) (by omega) (by omega)
  rw [Ur bs k (by omega)] at h1
  have h2 := hb.at k (by omega)
  have h3 := Td bs hb k h
  omega
theorem jcq (bs : List Int) (hb : IsB bs) (k : Nat) (h : k ≤ bs.length) (h8 : k ≤ 8) : num (bs.take k) < 18446744073709551616 := by
 have h1 := (Td bs hb k h).2
 have h2 : (256 : Int) ^ k ≤ 256 ^ 8 := by
  have : k = 0 ∨ k = 1 ∨ k = 2 ∨ k = 3 ∨ k = 4 ∨ k = 5 ∨ k = 6 ∨ k = 7 ∨ k = 8 := by omega
  rcases this with rfl | rfl | rfl | rfl | rfl | rfl | rfl | rfl | rfl <;> decide
 omega
def RQ (bs : List Int) : Int := if bs.length < 1 ∨ 8 < bs.length ∨ 9223372036854775807 < num bs then -1 else num bs
theorem jcr (bs : List Int) : RQ bs ≤ 9223372036854775807 := by
 unfold RQ
 split <;> omega
theorem Wl (bs : List Int) (hb : IsB bs) (h : bs.length = 8) : (9223372036854775807 < num bs) ↔ 127 < bs.getD 0 0 := by
 match bs, h with
 | x :: bs, h =>
  have hl : bs.length = 7 := by simpa using h
  have h1 := hb x (by simp)
  have h2 := Td bs (fun y hy => hb y (by simp [hy])) 7 (by omega)
  rw [← hl, List.take_length, hl] at h2
  rw [X8, hl]
  simp only [List.getD_cons_zero]
  omega
theorem X9 (bs : List Int) (hb : IsB bs) (h : bs.length ≤ 7) : num bs ≤ 9223372036854775807 := by
 have h1 := Td bs hb bs.length (Nat.le_refl _)
 rw [List.take_length] at h1
 generalize bs.length = n at h h1
 have h2 : (256 : Int) ^ n ≤ 256 ^ 7 := by
  have : n = 0 ∨ n = 1 ∨ n = 2 ∨ n = 3 ∨ n = 4 ∨ n = 5 ∨ n = 6 ∨ n = 7 := by omega
  rcases this with rfl | rfl | rfl | rfl | rfl | rfl | rfl | rfl <;> decide
 omega
theorem TU (v : Value) (bs : List Int) (w : World) (hb : IsB bs) (hn : bs.length ≤ 1099511627776) (hv : Rd .u8 w v bs) :
  Calls Tryz.prog 39 #[v] w fun e w' => e = .returned (.int .i64 (RQ bs)) ∧ Same w w' := by
 by_cases h : bs.length < 1 ∨ 8 < bs.length
 ·obtain ⟨a, c, rfl⟩ := hv.form
  have e : RQ bs = -1 := by unfold RQ; rw [if_pos (by omega)]
  rw [e]
  clear hv e hb
  rcases h with h | h
  ·go_enter Tryz.func39, Tryz.ntmps39
   go_wp2
   go_ret
   exact ⟨rfl, kZ0⟩
  ·go_enter Tryz.func39, Tryz.ntmps39
   go_wp2
   go_ret
   exact ⟨rfl, kZ0⟩
 ·rcases hv.2 with ⟨rfl, _⟩ | ⟨b, off, c, rfl, _, hc⟩
  ·simp at h
  have kr := hc 0 (by omega)
  rw [Nat.add_zero] at kr
  have HC : Hid (∀ i, i < bs.length → w.cell? ⟨b, off + i, none⟩ = some (.int .u8 (bs.getD i 0))) := hc
  have HB : Hid (IsB bs) := hb
  clear hc hv hb hn
  generalize hl : bs.length = len at h ⊢
  have HL : Hid (bs.length = len) := hl
  have h1 : 1 ≤ len := by omega
  have h2 : len ≤ 8 := by omega
  clear hl h
  have hx := HB.out.at 0 (by have := HL.out; omega)
  obtain ⟨x, gi⟩ : ∃ x, bs.getD 0 0 = x := ⟨_, rfl⟩
  have HX : Hid (bs.getD 0 0 = x) := gi
  rw [gi] at kr hx
  clear gi
  obtain ⟨G, hG⟩ : ∃ G, RQ bs = G := ⟨_, rfl⟩
  have wC : Hid (RQ bs = G) := hG
  rw [hG]
  clear hG
  by_cases h8 : len = 8
  ·by_cases h127 : 127 < x
   ·have e : RQ bs = -1 := by unfold RQ; rw [if_pos]; right; right; exact (Wl bs HB.out (by rw [HL.out]; exact h8)).2 (by rw [HX.out]; exact h127)
    rw [wC.out] at e
    subst e
    subst h8
    go_enter Tryz.func39, Tryz.ntmps39
    go_wp2
    go_ret
    exact ⟨rfl, kZ0⟩
   ·have gw : Hid (len ≤ 7 ∨ len = 8 ∧ x ≤ 127) := Or.inr ⟨h8, by omega⟩
    subst h8
    go_enter Tryz.func39, Tryz.ntmps39
    go_wp2
    go_loopw [3, 4] (fun y i wr => ∃ (k : Nat), k ≤ 8 ∧ y = .int .i64 (num (bs.take k)) ∧ i = .int .i64 k ∧ wr = w) (fun _ i _ => 8 - (intOf i).toNat)
    case atStart => exact ⟨0, Nat.zero_le _, by simp [num], by simp, rfl⟩
    case round =>
     obtain ⟨k, hk, rfl, rfl, rfl⟩ := hrel
     have hg : RQ bs = num bs := by
      unfold RQ
      rw [if_neg]
      have hl := HL.out
      rcases gw.out with h | h
      ·have := X9 bs HB.out (by omega)
       omega
      ·have := Wl bs HB.out (by omega)
       rw [HX.out] at this
       omega
     have HG : Hid (RQ bs = num bs) := hg
     clear hg
     by_cases bH : k < 8
     ·have dh : k < bs.length := by rw [HL.out]; exact bH
      have q1 := HC.out k dh
      have cN := Td bs HB.out k (by omega)
      have dL := HB.out.at k dh
      have lr : num (bs.take k) * 256 + bs.getD k 0 ≤ 9223372036854775807 := by
       have e := Ur bs k dh
       rw [← e]
       exact jdw bs HB.out (k + 1) (by omega) (by have := HG.out; have h9 := jcr bs; omega)
      have HS : Hid (num (bs.take (k + 1)) = num (bs.take k) * 256 + bs.getD k 0) := Ur bs k dh
      generalize num (bs.take k) = y at *
      generalize bs.getD k 0 = z at *
      obtain ⟨iu, _⟩ := cN
      clear kr
      go_wp2
      go_roundw
      case rel => exact ⟨k + 1, by omega, by rw [HS.out], by go_num, by first | rfl | trivial⟩
      case measure => simp [intOf]; omega
     ·have pR : k = 8 := by omega
      have he : num (bs.take k) = G := by rw [← wC.out, HG.out, pR, ← HL.out, List.take_length]
      rw [he]
      clear kr
      go_wp2
      go_ret
      exact ⟨rfl, kZ0⟩
  ·have gw : Hid (len ≤ 7 ∨ len = 8 ∧ x ≤ 127) := Or.inl (by omega)
   go_enter Tryz.func39, Tryz.ntmps39
   go_wp2
   go_loopw [3, 4] (fun y i wr => ∃ (k : Nat), k ≤ len ∧ y = .int .i64 (num (bs.take k)) ∧ i = .int .i64 k ∧ wr = w) (fun _ i _ => len - (intOf i).toNat)
   case atStart => exact ⟨0, Nat.zero_le _, by simp [num], by simp, rfl⟩
   case round =>
    obtain ⟨k, hk, rfl, rfl, rfl⟩ := hrel
    have hg : RQ bs = num bs := by
     unfold RQ
     rw [if_neg]
     have hl := HL.out
     rcases gw.out with h | h
     ·have := X9 bs HB.out (by omega)
      omega
     ·have := Wl bs HB.out (by omega)
      rw [HX.out] at this
      omega
    have HG : Hid (RQ bs = num bs) := hg
    clear hg
    by_cases bH : k < len
    ·have dh : k < bs.length := by rw [HL.out]; exact bH
     have q1 := HC.out k dh
     have cN := Td bs HB.out k (by omega)
     have dL := HB.out.at k dh
     have lr : num (bs.take k) * 256 + bs.getD k 0 ≤ 9223372036854775807 := by
      have e := Ur bs k dh
      rw [← e]
      exact jdw bs HB.out (k + 1) (by omega) (by have := HG.out; have h9 := jcr bs; omega)
     have HS : Hid (num (bs.take (k + 1)) = num (bs.take k) * 256 + bs.getD k 0) := Ur bs k dh
     generalize num (bs.take k) = y at *
     generalize bs.getD k 0 = z at *
     obtain ⟨iu, _⟩ := cN
     clear kr
     go_wp2
     go_roundw
     case rel => exact ⟨k + 1, by omega, by rw [HS.out], by go_num, by first | rfl | trivial⟩
     case measure => simp [intOf]; omega
    ·have pR : k = len := by omega
     have he : num (bs.take k) = G := by rw [← wC.out, HG.out, pR, ← HL.out, List.take_length]
     rw [he]
     clear kr
     go_wp2
     go_ret
     exact ⟨rfl, kZ0⟩
theorem Us (v : Value) (bs : List Int) (w : World) (hb : IsB bs) (hn : bs.length ≤ 1099511627776) (hv : Rd .u8 w v bs) :
  Calls Tryz.prog 48 #[v] w fun e w' => e = .returned (.int .i64 (RQ bs)) ∧ Same w w' := by
 by_cases h : bs.length < 1 ∨ 8 < bs.length
 ·obtain ⟨a, c, rfl⟩ := hv.form
  have e : RQ bs = -1 := by unfold RQ; rw [if_pos (by omega)]
  rw [e]
  clear hv e hb
  rcases h with h | h
  ·go_enter Tryz.func48, Tryz.ntmps48
   go_wp2
   go_ret
   exact ⟨rfl, kZ0⟩
  ·go_enter Tryz.func48, Tryz.ntmps48
   go_wp2
   go_ret
   exact ⟨rfl, kZ0⟩
 ·rcases hv.2 with ⟨rfl, _⟩ | ⟨b, off, c, rfl, _, hc⟩
  ·simp at h
  have HC : Hid (∀ i, i < bs.length → w.cell? ⟨b, off + i, none⟩ = some (.int .u8 (bs.getD i 0))) := hc
  have HB : Hid (IsB bs) := hb
  clear hc hv hb hn
  generalize hl : bs.length = len at h ⊢
  have HL : Hid (bs.length = len) := hl
  have h1 : 1 ≤ len := by omega
  have h2 : len ≤ 8 := by omega
  clear hl h
  obtain ⟨G, hG⟩ : ∃ G, RQ bs = G := ⟨_, rfl⟩
  have wC : Hid (RQ bs = G) := hG
  rw [hG]
  clear hG
  go_enter Tryz.func48, Tryz.ntmps48
  go_wp2
  go_loopw [3, 5, 16] (fun y _ i wr => ∃ (k : Nat), k ≤ len ∧ y = .int .u64 (num (bs.take k)) ∧ i = .int .i64 k ∧ wr = w) (fun _ _ i _ => len - (intOf i).toNat)
  case atStart => exact ⟨0, Nat.zero_le _, by simp [num], by simp, rfl⟩
  case round =>
   obtain ⟨k, hk, rfl, rfl, rfl⟩ := hrel
   by_cases bH : k < len
   ·have dh : k < bs.length := by rw [HL.out]; exact bH
    have q1 := HC.out k dh
    have cN := Td bs HB.out k (by omega)
    have dL := HB.out.at k dh
    have lr : num (bs.take k) * 256 + bs.getD k 0 < 18446744073709551616 := by
     have e := Ur bs k dh
     rw [← e]
     exact jcq bs HB.out (k + 1) (by omega) (by omega)
    have HS : Hid (num (bs.take (k + 1)) = num (bs.take k) * 256 + bs.getD k 0) := Ur bs k dh
    generalize num (bs.take k) = y at *
    generalize bs.getD k 0 = z at *
    obtain ⟨iu, _⟩ := cN
    have O9 : bits .or .u64 (y * 256) z = y * 256 + z := bits_join .u64 64 (by decide) (fun n h0 h1 => by rw [IntKind.wrap_u64]; omega) 8 _ _ (by omega) (by omega) (by omega) (by omega) (by omega) (by omega)
    go_wp2
    go_roundw
    case rel => exact ⟨k + 1, by omega, by rw [HS.out], by go_num, by first | rfl | trivial⟩
    case measure => simp [intOf]; omega
   ·have pR : k = len := by omega
    have he : num (bs.take k) = num bs := by rw [pR, ← HL.out, List.take_length]
    rw [he]
    have cN := jcq bs HB.out len (by have := HL.out; omega) (by omega)
    have a8 := Td bs HB.out len (by have := HL.out; omega)
    rw [← pR, he] at cN a8
    have HG : Hid (RQ bs = if 9223372036854775807 < num bs then -1 else num bs) := by
     have hl := HL.out
     have h0 : ¬ bs.length < 1 := by omega
     have h8 : ¬ 8 < bs.length := by omega
     simp [RQ, h0, h8, Hid]
    clear he
    generalize num bs = y at *
    by_cases hm : 9223372036854775807 < y
    ·have e := HG.out
     rw [if_pos hm, wC.out] at e
     go_wp2
     go_ret
     rw [e]
     exact ⟨rfl, kZ0⟩
    ·have e := HG.out
     rw [if_neg hm, wC.out] at e
     obtain ⟨iu, _⟩ := a8
     go_wp2
     go_ret
     exact ⟨rfl, kZ0⟩
/-! ### Numbers -/
theorem jdx (v k : Nat) : num (R8 (v : Int) k) = ((v % 256 ^ k : Nat) : Int) := by
 induction k with
 | zero => simp [R8, num, Nat.mod_one]
 | succ k ih =>
  have e : R8 (v : Int) (k + 1) = ((v : Int) / 256 ^ k % 256) :: R8 (v : Int) k := rfl
  rw [e, X8, Rs, ih, Nat.pow_succ, Nat.mod_mul]
  have e2 : ((v : Int) / 256 ^ k % 256) = ((v / 256 ^ k % 256 : Nat) : Int) := by simp
  rw [e2]
  have e3 : (256 : Int) ^ k = ((256 ^ k : Nat) : Int) := by simp
  rw [e3, ← Int.natCast_mul, ← Int.natCast_add, Nat.mul_comm, Nat.add_comm]
theorem Zy (v n : Int) (hv : IsI v) (h : Q6 v n ≠ []) : RQ (Q6 v n) = v ∧ ((Q6 v n).length : Int) = n := by
 unfold Q6 at h ⊢
 split at h
 ·exact absurd rfl h
 ·rename_i hc
  rw [if_neg hc]
  have hn : 1 ≤ n ∧ n ≤ 8 ∧ 0 ≤ v ∧ v / 256 ^ n.toNat = 0 := by omega
  obtain ⟨h1, h2, h3, h4⟩ := hn
  obtain ⟨m, rfl⟩ : ∃ m : Nat, v = m := ⟨v.toNat, by omega⟩
  have gT : num (R8 (m : Int) n.toNat) = m := by
   rw [jdx]
   have h5 : ((m / 256 ^ n.toNat : Nat) : Int) = 0 := by rw [← h4]; simp
   have h6 : m / 256 ^ n.toNat = 0 := by omega
   have h7 : m < 256 ^ n.toNat := by
    rcases (Nat.div_eq_zero_iff.1 h6) with h | h
    ·exact absurd h (Nat.ne_of_gt (Nat.pow_pos (by decide)))
    ·exact h
   rw [Nat.mod_eq_of_lt h7]
  have hl := Rs (m : Int) n.toNat
  refine ⟨?_, by rw [hl]; omega⟩
  unfold RQ
  rw [gT, hl, if_neg (by have := hv.2; omega)]
def le : List Int → Nat
 | [] => 0
 | b :: bs => b.toNat ^^^ 256 * le bs
theorem jdy (v : Int) (k : Nat) : IsB (R8 v k) := by
 induction k with
 | zero => intro y hy; simp [R8] at hy
 | succ k ih =>
  intro y hy
  simp only [R8, List.mem_cons] at hy
  rcases hy with rfl | hy
  ·omega
  ·exact ih y hy
theorem R9 (v n : Int) : IsB (Q6 v n) := by
 unfold Q6
 split
 ·intro y hy; simp at hy
 ·exact jdy _ _
theorem Rd.mid {k : IntKind} {w : World} {b off c : Nat} {bs : List Int} (h : Rd k w (.slice (some ⟨b, off, none⟩) bs.length c) bs) (o n c' : Nat) (hm : o + n ≤ bs.length) (wD : n ≤ c') : Rd k w (.slice (some ⟨b, off + o, none⟩) n c') ((bs.drop o).take n) := by
 have hl : ((bs.drop o).take n).length = n := by simp; omega
 refine ⟨by rw [hl]; have := h.1; omega, ?_⟩
 by_cases h0 : n = 0
 ·subst h0
  exact .inl ⟨by simp, _, _, rfl, fun e => by cases e⟩
 ·rcases h.2 with ⟨hn, a, c', e, _⟩ | ⟨b', kK, Qa, e, Dz, hc⟩
  ·rw [hn] at hm
   simp at hm
   omega
  ·cases e
   refine .inr ⟨b, off + o, c', by rw [hl], by omega, fun i hi => ?_⟩
   have := hc (o + i) (by omega)
   rw [Nat.add_assoc, this]
   simp [List.getD, List.getElem?_take, List.getElem?_drop, show i < n by omega]
theorem Vj (b off len c : Nat) (bs : List Int) (at_ n : Nat) (w : World) (hB : IsB bs) (hl : bs.length = len) (hm : len ≤ 1099511627776) (h1 : 1 ≤ n) (h2 : at_ + n ≤ len) (hv : Rd .u8 w (.slice (some ⟨b, off, none⟩) len c) bs) :
  Calls Tryz.prog 106 #[.slice (some ⟨b, off, none⟩) len c, .int .i64 at_, .int .i64 n] w fun e w' => e = .returned (.int .i64 (RQ ((bs.drop at_).take n))) ∧ Same w w' := by
 have hc : len ≤ c := by
  rcases hv.2 with ⟨h0, _⟩ | ⟨b', o', c', e, Dz, hc⟩
  ·rw [h0] at hl
   simp at hl
   omega
  ·cases e
   omega
 have HR := (show Hid (Rd .u8 w (.slice (some ⟨b, off + at_, none⟩) n (c - at_)) ((bs.drop at_).take n)) from (by subst hl; exact hv.mid at_ n (c - at_) h2 (by omega)))
 have HG := (show Hid (Calls Tryz.prog 39 #[.slice (some ⟨b, off + at_, none⟩) n (c - at_)] w fun e w' => e = .returned (.int .i64 (RQ ((bs.drop at_).take n))) ∧ Same w w') from TU _ _ w (Vx (Vy hB at_) n) (by simp; omega) HR.out)
 clear hv hB HR
 have q1 : (at_ : Int) ≤ (at_ : Int) + (n : Int) := by omega
 have q2 : (at_ : Int) + (n : Int) ≤ (c : Int) := by omega
 have q3 : (0 : Int) ≤ (at_ : Int) := by omega
 have q4 : at_ < c := by omega
 have q5 : ¬ c = at_ := by omega
 have q6 : ((at_ : Int) + (n : Int)).toNat = at_ + n := by omega
 have q7 : at_ + n - at_ = n := by omega
 go_enter Tryz.func106, Tryz.ntmps106
 go_wp2_with fail
 with_reducible refine HG.out.mono ?_
 rintro e w1 ⟨rfl, aH⟩
 go_wp2
 go_ret
 exact ⟨rfl, aH⟩
theorem addr_add (B o j : Nat) : (⟨B, o, none⟩ : Addr).add j = ⟨B, o + j, none⟩ := by unfold Addr.add; split <;> simp_all
theorem Blk.loads {P : Program} {w : World} {B : Nat} {e : TypeId} {xs : List Value} (h : Blk w B e xs) (o n : Nat) (hn : o + n ≤ xs.length) : (loadCellsFrom ⟨B, o, none⟩ 0 n #[]).run P w = .ok ((xs.drop o).take n).toArray w := by
 have hl : ((xs.drop o).take n).length = n := by simp; omega
 have := run_loadCells_list (P := P) w ⟨B, o, none⟩ ((xs.drop o).take n) (fun j v hv => by
  rw [addr_add, h.cell]
  have hj : j < n := by have := (List.getElem?_eq_some_iff.1 hv).1; omega
  rw [List.getElem?_take_of_lt hj, List.getElem?_drop] at hv
  exact hv)
 simpa [loadCells, hl] using this
theorem Blk.setCells {B : Nat} {e : TypeId} : ∀ (vs : List Value) (o : Nat) {w : World} {xs : List Value}, Blk w B e xs → o + vs.length ≤ xs.length → Blk (w.setCells B o vs) B e (lay xs o vs)
 | [], o, w, xs, h, _ => by rw [jco]; exact h
 | v :: vs, o, w, xs, h, hl => by
  simp only [List.length_cons] at hl
  have := Blk.setCells vs (o + 1) (h.stored o v) (by rw [List.length_set]; omega)
  rw [jaA _ _ _ _ hl] at this
  exact this
theorem Kept.setCells {R : Nat → Prop} {a : World} {B : Nat} (hB : a.heap.size ≤ B ∨ R B) : ∀ (vs : List Value) (o : Nat) {b : World}, Kept R a b → Kept R a (b.setCells B o vs)
 | [], _, _, h => h
 | v :: vs, o, b, h => Kept.setCells hB vs (o + 1) (h.setCell (p := ⟨B, o, none⟩) hB v)
theorem Blk.range {w : World} {B : Nat} {e : TypeId} {xs : List Value} (h : Blk w B e xs) (o : Nat) (cs : List Value) (hc : ∀ j v, cs[j]? = some v → xs[o + j]? = some v) : w.rangeAt B o cs := fun j v hv => by
 rw [h.cell]
 exact hc j v hv
theorem Blk.rangeAll {w : World} {B : Nat} {e : TypeId} {xs : List Value} (h : Blk w B e xs) : w.rangeAt B 0 xs := h.range 0 xs (fun j v hv => by rw [Nat.zero_add]; exact hv)
theorem Blk.there {w : World} {B : Nat} {e : TypeId} {xs : List Value} (h : Blk w B e xs) (o n : Nat) (hn : o + n ≤ xs.length) : w.there B o n := fun j hj => ⟨by rw [h.cell, List.getElem?_eq_getElem (by omega)]; rfl, h.frozen _⟩
theorem Kept.ranges {w w' : World} {b o : Nat} {cs : List Value} (hk : Same w w') (h : w.rangeAt b o cs) : w'.rangeAt b o cs := fun j v hv => hk.cellOf (h j v hv) id
theorem Blk.rd {w : World} {B : Nat} {e : TypeId} {bs : List Int} (h : Blk w B e (vals .u8 bs)) (o n c : Nat) (hn : o + n ≤ bs.length) (hc : n ≤ c) (hm : bs.length ≤ maxLen) : Rd .u8 w (.slice (some ⟨B, o, none⟩) n c) ((bs.drop o).take n) := by
 have hl : ((bs.drop o).take n).length = n := by simp; omega
 refine ⟨by omega, .inr ⟨B, o, c, by rw [hl], by omega, fun i hi => ?_⟩⟩
 rw [h.cell, SK _ _ _ (by omega)]
 simp [List.getD, List.getElem?_take, show i < n by omega]
theorem jbR (w : World) (ad : Option Addr) (c : Nat) : (Instr.arrayAt 215 (.slice ad 4096 c)).run Tryz.prog w = .ok (.pointer ad) w := by
 simp [Instr.arrayAt, run_underlying Tryz.underlying215]
theorem Va : (Tryz.prog.info? 215).map (·.size) = some 4096 := by kernel_rfl
theorem jdz {w : World} {b off c : Nat} {bs : List Int} (h : Rd .u8 w (.slice (some ⟨b, off, none⟩) bs.length c) bs) (hn : 0 < bs.length) : w.rangeAt b off (vals .u8 bs) := fun j v hv => by
 have hj : j < bs.length := by have := (List.getElem?_eq_some_iff.1 hv).1; rwa [Rb] at this
 rcases h.2 with ⟨h0, _⟩ | ⟨b', o', c', e, _, hc⟩
 ·rw [h0] at hn
  simp at hn
 ·cases e
  rw [hc j hj, ← hv, SK _ _ _ hj]
theorem rd_some {w : World} {a : Option Addr} {n c : Nat} {bs : List Int} (h : Rd .u8 w (.slice a n c) bs) (hn : 0 < bs.length) : ∃ b off, a = some ⟨b, off, none⟩ ∧ bs.length ≤ c := by
 rcases h.2 with ⟨h0, _⟩ | ⟨b', o', c', e, hl, hc⟩
 ·rw [h0] at hn
  simp at hn
 ·cases e
  exact ⟨_, _, rfl, hl⟩
def RH (sum : List Int) (lsn num bot : Int) (sl raw : List Int) : List Value :=
 vals .u8 sum ++ (.int .i64 lsn :: .int .i64 num :: .int .i64 bot :: (vals .i64 sl ++ vals .u8 raw))
structure SP (w : World) (B : Nat) (sum : List Int) (lsn num bot : Int) (sl raw : List Int) : Prop where
 blk : Blk w B 221 (RH sum lsn num bot sl raw)
 l1 : sum.length = 4
 l2 : sl.length = 64
 l3 : raw.length = 4096
section
variable {w w' : World} {B : Nat} {sum : List Int} {lsn num bot : Int} {sl raw : List Int}
theorem SP.kept {R : Nat → Prop} (h : SP w B sum lsn num bot sl raw) (hk : Kept R w w') (hr : ¬ R B) : SP w' B sum lsn num bot sl raw := ⟨h.blk.kept hk hr, h.l1, h.l2, h.l3⟩
theorem SP.same (h : SP w B sum lsn num bot sl raw) (hk : Same w w') : SP w' B sum lsn num bot sl raw := ⟨h.blk.same hk, h.l1, h.l2, h.l3⟩
theorem Vz (h1 : sum.length = 4) (h2 : sl.length = 64) (h3 : raw.length = 4096) : (RH sum lsn num bot sl raw).length = 4167 := by simp [RH, vals, h1, h2, h3]
theorem SP.sumAt (h : SP w B sum lsn num bot sl raw) (j : Nat) (hj : j < 4) : w.cell? ⟨B, j, none⟩ = some (.int .u8 (sum.getD j 0)) := by
 rw [h.blk.cell, RH, List.getElem?_append_left (by rw [Rb, h.l1]; exact hj), SK _ _ _ (by rw [h.l1]; exact hj)]
theorem SP.num3 (h : SP w B sum lsn num bot sl raw) : w.cell? ⟨B, 4, none⟩ = some (.int .i64 lsn) ∧ w.cell? ⟨B, 5, none⟩ = some (.int .i64 num) ∧ w.cell? ⟨B, 6, none⟩ = some (.int .i64 bot) := by
 have e : (vals .u8 sum).length = 4 := by rw [Rb, h.l1]
 refine ⟨?_, ?_, ?_⟩ <;> rw [h.blk.cell, RH, List.getElem?_append_right (by rw [e]; decide), e] <;> rfl
theorem SP.slAt (h : SP w B sum lsn num bot sl raw) (j : Nat) (hj : j < 64) : w.cell? ⟨B, 7 + j, none⟩ = some (.int .i64 (sl.getD j 0)) := by
 have e : (vals .u8 sum).length = 4 := by rw [Rb, h.l1]
 rw [h.blk.cell, RH, List.getElem?_append_right (by omega), e, show 7 + j - 4 = j + 1 + 1 + 1 from by omega, List.getElem?_cons_succ, List.getElem?_cons_succ, List.getElem?_cons_succ,
  List.getElem?_append_left (by rw [Rb, h.l2]; exact hj), SK _ _ _ (by rw [h.l2]; exact hj)]
theorem SP.rawAt (h : SP w B sum lsn num bot sl raw) (j : Nat) (hj : j < 4096) : w.cell? ⟨B, 71 + j, none⟩ = some (.int .u8 (raw.getD j 0)) := by
 have e : (vals .u8 sum).length = 4 := by rw [Rb, h.l1]
 have e2 : (vals .i64 sl).length = 64 := by rw [Rb, h.l2]
 rw [h.blk.cell, RH, List.getElem?_append_right (by omega), e, show 71 + j - 4 = 64 + j + 1 + 1 + 1 from by omega, List.getElem?_cons_succ, List.getElem?_cons_succ, List.getElem?_cons_succ,
  List.getElem?_append_right (by omega), e2, Nat.add_sub_cancel_left, SK _ _ _ (by rw [h.l3]; exact hj)]
theorem SP.rawRange (h : SP w B sum lsn num bot sl raw) : w.rangeAt B 71 (vals .u8 raw) := fun j v hv => by
 have hj : j < 4096 := by have := (List.getElem?_eq_some_iff.1 hv).1; rwa [Rb, h.l3] at this
 rw [h.rawAt j hj, ← hv, SK _ _ _ (by rw [h.l3]; exact hj)]
theorem SP.slRange (h : SP w B sum lsn num bot sl raw) : w.rangeAt B 7 (vals .i64 sl) := fun j v hv => by
 have hj : j < 64 := by have := (List.getElem?_eq_some_iff.1 hv).1; rwa [Rb, h.l2] at this
 rw [h.slAt j hj, ← hv, SK _ _ _ (by rw [h.l2]; exact hj)]
end
/-! ### What is written from the front on -/
def cont (A raw : List Int) : List Int := A ++ raw.drop A.length
theorem jdA (raw : List Int) : cont [] raw = raw := by simp [cont]
theorem UQ (A raw : List Int) (h : A.length ≤ raw.length) : (cont A raw).length = raw.length := by simp [cont]; omega
theorem jdB (A raw xs : List Int) (h : A.length + xs.length ≤ raw.length) : lay (vals .u8 (cont A raw)) A.length (vals .u8 xs) = vals .u8 (cont (A ++ xs) raw) := by
 unfold lay cont
 simp [vals, Nat.add_comm]
 rw [List.drop_append, List.drop_of_length_le (by simp), List.drop_drop, List.nil_append, List.length_map]
 congr 1
 omega
theorem Blk.more {w : World} {B : Nat} {e : TypeId} {A raw : List Int} (n : Nat) (xs : List Int) (h : Blk w B e (lay (vals .u8 (cont A raw)) n (vals .u8 xs))) (hn : n = A.length) (hl : A.length + xs.length ≤ raw.length) : Blk w B e (vals .u8 (cont (A ++ xs) raw)) := by
 subst hn
 rwa [jdB _ _ _ hl] at h
def VA (sum : List Int) (lsn num bot : Int) : List Int := sum ++ R8 lsn 8 ++ R8 num 4 ++ R8 bot 2 ++ R8 0 2
theorem WB (sum : List Int) (lsn num bot : Int) (h : sum.length = 4) : (VA sum lsn num bot).length = 20 := by simp [VA, Rs, h]
def slotB (sl : List Int) : List Int := sl.flatMap fun x => R8 x 2
theorem WC (sl : List Int) : (slotB sl).length = 2 * sl.length := by
 induction sl with
 | nil => rfl
 | cons x sl ih => simp only [slotB, List.flatMap_cons, List.length_append, Rs, List.length_cons] at ih ⊢; omega
theorem Ya (sl : List Int) (k : Nat) (h : k < sl.length) : slotB (sl.take (k + 1)) = slotB (sl.take k) ++ R8 (sl.getD k 0) 2 := by
 unfold slotB
 rw [List.take_succ_eq_append_getElem h, List.flatMap_append]
 simp [h]
def WE (sum : List Int) (lsn num bot : Int) (sl raw : List Int) : List Int := cont (VA sum lsn num bot ++ slotB sl) raw
theorem XB {sum : List Int} {lsn num bot : Int} {sl raw : List Int} (h1 : sum.length = 4) (h2 : sl.length = 64) (h3 : raw.length = 4096) : (WE sum lsn num bot sl raw).length = 4096 := by
 unfold WE
 rw [UQ, h3]
 rw [List.length_append, WB _ _ _ _ h1, WC, h2, h3]
 decide
section
variable {P : Program} {ct : Array Oper} {o : Oper} {a : Act} {w : World} {K : Act → World → Prop} {Q : Exit → Act → World → Prop} {E : Prop}
theorem YR {B off dl dc sl sc : Nat} {e tb : TypeId} {ad : Addr} {xs : List Value} (j1 : o.guard = none) (d s : Operand) (T : TypeId) (ho : o.op = .call { callee := .builtin .copy, args := #[d, s], argTypes := #[T, T] })
  (hu : P.underlying T = some (.slice tb)) (gE : (P.info? tb).map (·.size) = some 1) (cs : List Value) (hb : Blk w B e xs) (hd : a.eval d = .slice (some ⟨B, off, none⟩) dl dc) (hs : a.eval s = .slice (some ad) sl sc)
  (hn : cs.length = Nat.min sl dl) (jH : ∀ j v, cs[j]? = some v → w.cell? (ad.add j) = some v) (oD : off + cs.length ≤ xs.length) (h1 : ∀ v ∈ cs, v.oneCell' = true)
  (h : K (a.put o.dst (goInt cs.length)) (w.setCells B off cs)) :
  if Region.wanted o (yielded ct a.tmps) = true then Oper.wp P o a w K Q else E := by
 have hw : Region.wanted o (yielded ct a.tmps) = true := by simp [Region.wanted, j1]
 rw [if_pos hw]
 have iH := run_copy_cells (P := P) w T T o.type tb B off dl dc ad sl sc cs hu gE hn jH (fun j hj => by rw [hb.cell, List.getElem?_eq_getElem (by omega)]; rfl) (fun j _ => hb.frozen _) h1
 unfold Oper.wp
 simp [execOp, ho, resolve, invoke, builtin, hd, hs, iH, Result.andThen]
 exact h
end
theorem byte_size : (Tryz.prog.info? 5).map (·.size) = some 1 := by
 obtain ⟨i0, hi, eL, eT, fM⟩ := info_parts Tryz.infoByte'
 simp [hi, eT]
set_option maxRecDepth 100000 in
theorem jac (sl : List Int) (hl : sl.length = 64) (k : Nat) (hk : k < 32) (w : World) : (Instr.index 219 (.agg (vals .i64 sl).toArray) (.int .i64 k)).run Tryz.prog w = .ok (.agg #[.int .i64 (sl.getD (2 * k) 0), .int .i64 (sl.getD (2 * k + 1) 0)]) w := by
 have hz : ∀ w, (sizeOf 218).run Tryz.prog w = .ok 2 w := by
  have h : (Tryz.prog.info? 218).map (·.size) = some 2 := by kernel_rfl
  intro w
  cases hq : Tryz.prog.info? 218 with
  | none => simp [hq] at h
  | some i =>
   have hi : i.size = 2 := by simpa [hq] using h
   simp [sizeOf, typeInfo, hq, hi]
 have h1 : (k : Int) < 32 := by omega
 simp [Instr.index, run_underlying Tryz.underlying219, asIntOf, hz, h1, go_sem]
 rw [if_pos hk]
 have hv : (vals .i64 sl).length = 64 := by rw [Rb, hl]
 rw [Nat.mul_comm k 2, List.drop_eq_getElem_cons (by omega : 2 * k < (vals .i64 sl).length), List.drop_eq_getElem_cons (by omega : 2 * k + 1 < (vals .i64 sl).length)]
 simp [vals, List.getElem?_eq_getElem (show 2 * k < sl.length by omega), List.getElem?_eq_getElem (show 2 * k + 1 < sl.length by omega)]
theorem Ug {w : World} {B : Nat} {e : TypeId} {A raw : List Int} (o n c : Nat) (x : Int) (hb : Blk w B e (vals .u8 (cont A raw))) (ho : o = A.length) (hl : o + n ≤ raw.length) (hm : raw.length = 4096) (h0 : 0 ≤ x) (h1 : x ≤ 9223372036854775807) :
  Calls Tryz.prog 68 #[.slice (some ⟨B, o, none⟩) n c, .int .i64 x] w fun e' w' => e' = .returned (.tuple #[]) ∧ Blk w' B e (vals .u8 (cont (A ++ R8 x n) raw)) ∧ Kept (fun b => b = B) w w' := by
 refine (Vr B o n c e _ x w hb (by rw [Rb, UQ _ _ (by omega)]; exact hl) h0 h1 (by omega)).mono ?_
 rintro e' w' ⟨rfl, iq, hk⟩
 exact ⟨rfl, Blk.more o (R8 x n) iq ho (by rw [Rs]; omega), hk⟩
structure Num3 (lsn num bot : Int) (sl : List Int) : Prop where
 a : 0 ≤ lsn ∧ lsn ≤ 9223372036854775807
 b : 0 ≤ num ∧ num ≤ 9223372036854775807
 c : 0 ≤ bot ∧ bot ≤ 9223372036854775807
 d : ∀ x ∈ sl, 0 ≤ x ∧ x ≤ 9223372036854775807
theorem Num3.at {lsn num bot : Int} {sl : List Int} (h : Num3 lsn num bot sl) (k : Nat) : 0 ≤ sl.getD k 0 ∧ sl.getD k 0 ≤ 9223372036854775807 := by
 by_cases hk : k < sl.length
 ·have : sl.getD k 0 = sl[k] := by simp [hk]
  rw [this]
  exact h.d _ (List.getElem_mem hk)
 ·simp [List.getD, List.getElem?_eq_none (show sl.length ≤ k by omega)]
structure EncS (w wx : World) (B : Nat) (sum : List Int) (lsn num bot : Int) (sl raw A : List Int) : Prop where
 sp : SP wx B sum lsn num bot sl raw
 arr : Blk wx (w.heap.size + 1) 215 (vals .u8 (cont A raw))
 res : Blk wx w.heap.size 215 Tryz.zeroCells215.toList
 same : Same w wx
 sz : w.heap.size + 2 ≤ wx.heap.size
 lt : B < w.heap.size
theorem EncS.next {w wx wy : World} {B : Nat} {sum : List Int} {lsn num bot : Int} {sl raw A A' : List Int} (h : EncS w wx B sum lsn num bot sl raw A) (hk : Kept (fun b => b = w.heap.size + 1) wx wy) (hb : Blk wy (w.heap.size + 1) 215 (vals .u8 (cont A' raw))) : EncS w wy B sum lsn num bot sl raw A' :=
 have bH := h.lt
 ⟨h.sp.kept hk (by omega), hb, h.res.kept hk (by omega), h.same.next hk (fun i hi e => by omega), Nat.le_trans h.sz hk.size, h.lt⟩
theorem EncS.on {w wx wy : World} {B : Nat} {sum : List Int} {lsn num bot : Int} {sl raw A : List Int} (h : EncS w wx B sum lsn num bot sl raw A) (hk : Same wx wy) : EncS w wy B sum lsn num bot sl raw A :=
 ⟨h.sp.same hk, h.arr.same hk, h.res.same hk, h.same.trans hk, Nat.le_trans h.sz hk.size, h.lt⟩
theorem jbS (B : Nat) (sum : List Int) (lsn num bot : Int) (sl raw : List Int) (w : World) (hp : SP w B sum lsn num bot sl raw) (hn : Num3 lsn num bot sl) :
  Calls Tryz.prog 180 #[.pointer (some ⟨B, 0, none⟩)] w fun e w' => e = .returned (.agg (vals .u8 (WE sum lsn num bot sl raw)).toArray) ∧ Same w w' := by
 have Bi := hp.blk.lt
 have gW := hp.l3
 have HP := (show Hid (SP w B sum lsn num bot sl raw) from hp)
 have HN := (show Hid (Num3 lsn num bot sl) from hn)
 have j4 : Tryz.zeroCells215.toList.length = 4096 := by rw [Array.length_toList]; exact Tryz.zeroCells215_size
 have mS : (vals .u8 raw).length = 4096 := by rw [Rb, gW]
 have xC := (show Hid ((w.alloc (.cells Tryz.zeroCells215 215)).rangeAt B 71 (vals .u8 raw)) from (hp.same (kZ0.alloc _)).rawRange)
 have HI := (show Hid ((Tryz.prog.info? 215).map (·.size) = some (vals .u8 raw).length) from (by rw [mS]; exact Va : (Tryz.prog.info? 215).map (·.size) = some (vals .u8 raw).length))
 have iL := (show Hid ((Tryz.prog.info? 215).map (·.size) = some (vals .u8 raw).toArray.size) from (by rw [List.size_toArray]; exact HI.out : (Tryz.prog.info? 215).map (·.size) = some (vals .u8 raw).toArray.size))
 have oM := (show Hid ((vals .u8 raw).toArray.all (·.oneCell') = true) from all_oneCell_toArray TN)
 obtain ⟨cs, hC⟩ : ∃ cs : List Value, vals .u8 raw = cs := ⟨_, rfl⟩
 have G6 := (show Hid (vals .u8 raw = cs) from hC)
 have HT := (show Hid (((w.alloc (.cells Tryz.zeroCells215 215)).alloc (.cells Tryz.zeroCells215 215)).there (w.heap.size + 1) 0 (vals .u8 raw).toArray.size) from by
  have h := Blk.new (w.alloc (.cells Tryz.zeroCells215 215)) Tryz.zeroCells215 215
  rw [World.size_alloc] at h
  exact h.there 0 _ (by rw [List.size_toArray, mS, j4]; decide))
 rw [hC] at xC HI iL oM HT
 clear hC hp hn mS
 go_enter Tryz.func180, Tryz.ntmps180
 go_wp2_with (first | (refine wpList_load_mid rfl 215 _ rfl B 71 rfl cs _ xC.out Tryz.underlying215 rfl HI.out ?_) | (refine wpList_store_mid rfl 215 _ _ rfl (w.heap.size + 1) 0 cs.toArray rfl rfl HT.out iL.out oM.out ?_))
 obtain ⟨w1, fX⟩ : ∃ w1, ((w.alloc (.cells Tryz.zeroCells215 215)).alloc (.cells Tryz.zeroCells215 215)).setCells (w.heap.size + 1) 0 cs = w1 := ⟨_, rfl⟩
 have xw := (show Hid (EncS w w1 B sum lsn num bot sl raw ([])) from by
  rw [← fX, ← G6.out]
  have ha := Blk.new (w.alloc (.cells Tryz.zeroCells215 215)) Tryz.zeroCells215 215
  rw [World.size_alloc] at ha
  have hb := ha.setCells (vals .u8 raw) 0 (by rw [j4, Rb, gW]; decide)
  rw [lay_all _ _ (by rw [j4, Rb, gW])] at hb
  have du : Same w ((w.alloc (.cells Tryz.zeroCells215 215)).alloc (.cells Tryz.zeroCells215 215)) := (kZ0.alloc _).alloc _
  have aH := Kept.setCells (R := fun b => b = w.heap.size + 1) (a := (w.alloc (.cells Tryz.zeroCells215 215)).alloc (.cells Tryz.zeroCells215 215)) (B := w.heap.size + 1) (.inr rfl) (vals .u8 raw) 0 kZ0
  refine ⟨(HP.out.same du).kept aH (by omega), by rw [jdA]; exact hb, (((Blk.new w _ _).alloc _).kept aH (by omega)), du.next aH (fun i hi e => by omega), ?_, Bi⟩
  have := aH.size
  simp at this
  omega)
 rw [fX]
 clear fX xC HT oM HI iL G6 j4
 have hS : (fun _ : World => True) w1.drew := by trivial
 refine Q9 (fun _ : World => True) 99 6 rfl (by kernel_rfl) ?_
 refine tk 0 11 hS ?_
 refine tk 1 12 hS ?_
 refine tk 2 13 hS ?_
 refine tk 3 14 hS ?_
 refine tk 4 15 hS ?_
 refine o1Q 5 (fun K hK => ?_)
 have hE := xw.out.on kZ0.drew
 have pB : (vals .u8 sum).length = 4 := by rw [Rb, hE.sp.l1]
 refine YR (by rfl) _ _ 22 (by rfl) Tryz.underlying22 byte_size (vals .u8 sum) hE.arr (by rfl) (by rfl) (by rw [pB]; decide) (fun j u hu => ?_) (by rw [pB, Rb, UQ _ _ (by simp), gW]; decide) TN ?_
 ·have hj : j < 4 := by have := (List.getElem?_eq_some_iff.1 hu).1; rwa [pB] at this
  rw [addr_add, Nat.zero_add, hE.sp.sumAt j hj, ← hu, SK _ _ _ (by rw [hE.sp.l1]; exact hj)]
 have dL := hE.arr.setCells (vals .u8 sum) 0 (by rw [pB, Rb, UQ _ _ (by simp), gW]; decide)
 have lr := Blk.more 0 sum dL rfl (by rw [hE.sp.l1, gW]; decide)
 have aN := Kept.setCells (R := fun b => b = w.heap.size + 1) (a := w1.drew) (B := w.heap.size + 1) (.inr rfl) (vals .u8 sum) 0 kZ0
 obtain ⟨w2, EC⟩ : ∃ w2, w1.drew.setCells (w.heap.size + 1) 0 (vals .u8 sum) = w2 := ⟨_, rfl⟩
 rw [EC] at lr aN ⊢
 have JR := (show Hid (EncS w w2 B sum lsn num bot sl raw ([] ++ sum)) from hE.next aN lr)
 clear EC
 clear dL lr aN hE hS xw
 rw [pB]
 show K (Act.put _ (some 16) (.int .i64 4)) _
 refine hK.out _ _ (fun _ => trivial) ?_
 clear hK K
 refine Q8 (by kernel_rfl) ?_
 try simp only [Act.put, sA, s0, sS]
 go_wp2_with fail
 have hE := JR.out.on kZ0.drew
 have hS : (fun wx : World => wx.cell? ⟨B, 4, none⟩ = some (.int .i64 lsn)) w2.drew := by exact hE.sp.num3.1
 refine Q9 (fun wx : World => wx.cell? ⟨B, 4, none⟩ = some (.int .i64 lsn)) 99 6 rfl (by kernel_rfl) ?_
 refine tk 0 17 hS ?_
 refine tk 1 18 hS ?_
 refine tk 2 19 hS ?_
 refine tk 3 20 hS ?_
 refine tk 4 21 hS ?_
 refine o1Q 5 (fun K hK => ?_)
 go_simp
 have hc := Ug 4 8 4092 lsn hE.arr (by simp [hE.sp.l1, Rs]) (by rw [gW]; decide) gW HN.out.a.1 HN.out.a.2
 with_reducible refine hc.mono ?_
 rintro e w3 ⟨rfl, hb, hk⟩
 have GG := (show Hid (EncS w w3 B sum lsn num bot sl raw ([] ++ sum ++ R8 lsn 8)) from hE.next hk hb)
 have mX : (fun wx : World => wx.cell? ⟨B, 4, none⟩ = some (.int .i64 lsn)) w3 := GG.out.sp.num3.1
 clear hb hk hE hc hS
 refine hK.out _ _ (fun _ => mX) ?_
 clear hK K mX JR
 refine Q8 (by kernel_rfl) ?_
 try simp only [Act.put, sA, s0, sS]
 go_wp2_with fail
 have hE := GG.out.on kZ0.drew
 have hS : (fun wx : World => wx.cell? ⟨B, 5, none⟩ = some (.int .i64 num)) w3.drew := by exact hE.sp.num3.2.1
 refine Q9 (fun wx : World => wx.cell? ⟨B, 5, none⟩ = some (.int .i64 num)) 99 6 rfl (by kernel_rfl) ?_
 refine tk 0 23 hS ?_
 refine tk 1 24 hS ?_
 refine tk 2 25 hS ?_
 refine tk 3 26 hS ?_
 refine tk 4 27 hS ?_
 refine o1Q 5 (fun K hK => ?_)
 go_simp
 have hc := Ug 12 4 4084 num hE.arr (by simp [hE.sp.l1, Rs]) (by rw [gW]; decide) gW HN.out.b.1 HN.out.b.2
 with_reducible refine hc.mono ?_
 rintro e w4 ⟨rfl, hb, hk⟩
 have Dy := (show Hid (EncS w w4 B sum lsn num bot sl raw ([] ++ sum ++ R8 lsn 8 ++ R8 num 4)) from hE.next hk hb)
 have mX : (fun wx : World => wx.cell? ⟨B, 5, none⟩ = some (.int .i64 num)) w4 := Dy.out.sp.num3.2.1
 clear hb hk hE hc hS
 refine hK.out _ _ (fun _ => mX) ?_
 clear hK K mX GG
 refine Q8 (by kernel_rfl) ?_
 try simp only [Act.put, sA, s0, sS]
 go_wp2_with fail
 have hE := Dy.out.on kZ0.drew
 have hS : (fun wx : World => wx.cell? ⟨B, 6, none⟩ = some (.int .i64 bot)) w4.drew := by exact hE.sp.num3.2.2
 refine Q9 (fun wx : World => wx.cell? ⟨B, 6, none⟩ = some (.int .i64 bot)) 99 6 rfl (by kernel_rfl) ?_
 refine tk 0 29 hS ?_
 refine tk 1 30 hS ?_
 refine tk 2 31 hS ?_
 refine tk 3 32 hS ?_
 refine tk 4 33 hS ?_
 refine o1Q 5 (fun K hK => ?_)
 go_simp
 have hc := Ug 16 2 4080 bot hE.arr (by simp [hE.sp.l1, Rs]) (by rw [gW]; decide) gW HN.out.c.1 HN.out.c.2
 with_reducible refine hc.mono ?_
 rintro e w5 ⟨rfl, hb, hk⟩
 have nW := (show Hid (EncS w w5 B sum lsn num bot sl raw ([] ++ sum ++ R8 lsn 8 ++ R8 num 4 ++ R8 bot 2)) from hE.next hk hb)
 have mX : (fun wx : World => wx.cell? ⟨B, 6, none⟩ = some (.int .i64 bot)) w5 := nW.out.sp.num3.2.2
 clear hb hk hE hc hS
 refine hK.out _ _ (fun _ => mX) ?_
 clear hK K mX Dy
 refine Q8 (by kernel_rfl) ?_
 try simp only [Act.put, sA, s0, sS]
 have hc := Ug 18 2 4078 0 nW.out.arr (by simp [nW.out.sp.l1, Rs]) (by rw [gW]; decide) gW (by decide) (by decide)
 have sM := (show Hid ((Tryz.prog.info? 219).map (·.size) = some (vals .i64 sl).length) from (by rw [Rb, HP.out.l2]; exact (by kernel_rfl : (Tryz.prog.info? 219).map (·.size) = some 64) : (Tryz.prog.info? 219).map (·.size) = some (vals .i64 sl).length))
 obtain ⟨ss, oV⟩ : ∃ ss : List Value, vals .i64 sl = ss := ⟨_, rfl⟩
 have wJ := (show Hid (vals .i64 sl = ss) from oV)
 rw [oV] at sM
 clear oV
 go_wp2_with (first
  | (go_at_call 68; refine hc.mono ?_; rintro e w6 ⟨rfl, wu, fN⟩; have i1 := (show Hid (EncS w w6 B sum lsn num bot sl raw ([] ++ sum ++ R8 lsn 8 ++ R8 num 4 ++ R8 bot 2 ++ R8 0 2)) from nW.out.next fN wu); have vO := (show Hid (w6.rangeAt B 7 ss) from (by rw [← wJ.out]; exact i1.out.sp.slRange : w6.rangeAt B 7 ss)); clear wu fN hc)
  | (refine wpList_load_mid rfl 219 _ rfl B 7 rfl ss _ vO.out Tryz.underlying219 rfl sM.out ?_))
 go_loopw [4, 5, 6, 41] (fun _ _ _ i wr => ∃ k : Nat, k ≤ 32 ∧ i = .int .i64 k ∧ Hid (EncS w wr B sum lsn num bot sl raw (VA sum lsn num bot ++ slotB (sl.take (2 * k))))) (fun _ _ _ i _ => 32 - (intOf i).toNat)
 case atStart => exact ⟨0, by omega, rfl, by simpa [slotB, VA] using i1⟩
 case round =>
  obtain ⟨k, hk, rfl, BH⟩ := hrel
  by_cases bH : k < 32
  ·have aN : (k : Int) < 32 := by omega
   have wv := fun w => jac sl HP.out.l2 k bH w
   rw [wJ.out] at wv
   have KU := (show Hid (_) from HN.out.at (2 * k))
   have JY := (show Hid (_) from HN.out.at (2 * k + 1))
   have Oc := (show Hid (slotB (sl.take (2 * (k + 1))) = slotB (sl.take (2 * k)) ++ R8 (sl.getD (2 * k) 0) 2 ++ R8 (sl.getD (2 * k + 1) 0) 2) from (by rw [show 2 * (k + 1) = 2 * k + 1 + 1 from by omega, Ya _ _ (by rw [HP.out.l2]; omega), Ya _ _ (by rw [HP.out.l2]; omega)] : slotB (sl.take (2 * (k + 1))) = _))
   have KY := (show Hid ((slotB (sl.take (2 * k))).length = 4 * k) from (by rw [WC, List.length_take, HP.out.l2]; omega : (slotB (sl.take (2 * k))).length = 4 * k))
   generalize sl.getD (2 * k) 0 = x at *
   generalize sl.getD (2 * k + 1) 0 = y at *
   have IC := WB sum lsn num bot HP.out.l1
   go_wp2_with fail
   obtain ⟨oo, Hp⟩ : ∃ oo : Nat, 20 + 4 * k = oo := ⟨_, rfl⟩
   have e1 : (20 + (k : Int) * 4) = (oo : Int) := by omega
   rw [e1]
   have kk := (show Hid (EncS w (wr.alloc (.cells #[.int .i64 x, .int .i64 y] 218)) B sum lsn num bot sl raw (VA sum lsn num bot ++ slotB (sl.take (2 * k)))) from BH.out.on (kZ0.alloc _))
   have lq := Blk.new wr #[.int .i64 x, .int .i64 y] 218
   have Al := BH.out.sz
   obtain ⟨w7, o9⟩ : ∃ w7, wr.alloc (.cells #[.int .i64 x, .int .i64 y] 218) = w7 := ⟨_, rfl⟩
   rw [o9] at kk lq ⊢
   have jU := (show Hid (Blk w7 wr.heap.size 218 [.int .i64 x, .int .i64 y]) from lq)
   clear o9 lq
   have o1 : (oo : Int) + 2 ≤ 4096 := by omega
   have o2 : (0 : Int) ≤ (oo : Int) := by omega
   have o3 : IntKind.i64.wrap ((oo : Int) + 2) = (oo : Int) + 2 := by rw [IntKind.wrap_i64]; omega
   have o4 : (oo : Int) ≤ (oo : Int) + 2 := by omega
   have o5 : ((oo : Int) + 2).toNat = oo + 2 := by omega
   have o6 : oo + 2 - oo = 2 := by omega
   have o7 : oo < 4096 := by omega
   have o8 : ¬ 4096 = oo := by omega
   have p3 : IntKind.i64.wrap ((oo : Int) + 4) = (oo : Int) + 4 := by rw [IntKind.wrap_i64]; omega
   have p1 : (oo : Int) + 4 ≤ 4096 := by omega
   have p4 : (oo : Int) + 2 ≤ (oo : Int) + 4 := by omega
   have p2 : (0 : Int) ≤ (oo : Int) + 2 := by omega
   have p5 : ((oo : Int) + 4).toNat = oo + 4 := by omega
   have p6 : oo + 4 - (oo + 2) = 2 := by omega
   have p7 : oo + 2 < 4096 := by omega
   have p8 : ¬ 4096 = oo + 2 := by omega
   have hS : (fun wx : World => wx.cell? ⟨wr.heap.size, 0, none⟩ = some (.int .i64 x)) w7.drew := by (have h := jU.out.drew.cell 0; simpa using h)
   refine Q9 (fun wx : World => wx.cell? ⟨wr.heap.size, 0, none⟩ = some (.int .i64 x)) 99 7 rfl (by kernel_rfl) ?_
   refine tk 0 48 hS ?_
   refine tk 1 49 hS ?_
   refine tk 2 50 hS ?_
   refine tk 3 51 hS ?_
   refine tk 4 52 hS ?_
   refine tk 5 53 hS ?_
   refine o1Q 6 (fun K hK => ?_)
   go_simp
   have hE := kk.out.on kZ0.drew
   have hc := Ug oo 2 (4096 - oo) x hE.arr (by rw [List.length_append, IC, KY.out]; omega) (by rw [gW]; omega) gW KU.out.1 KU.out.2
   with_reducible refine hc.mono ?_
   rintro e w8 ⟨rfl, hb, gp⟩
   have mr := (show Hid (EncS w w8 B sum lsn num bot sl raw (VA sum lsn num bot ++ slotB (sl.take (2 * k)) ++ R8 x 2)) from hE.next gp hb)
   have ju := (show Hid (Blk w8 wr.heap.size 218 [.int .i64 x, .int .i64 y]) from (jU.out.drew.kept gp (by omega)))
   have mX : (fun wx : World => wx.cell? ⟨wr.heap.size, 0, none⟩ = some (.int .i64 x)) w8 := by have h := ju.out.cell 0; simpa using h
   clear hb gp hE hc hS
   refine hK.out _ _ (fun _ => mX) ?_
   clear hK K mX kk jU
   refine Q8 (by kernel_rfl) ?_
   try simp only [Act.put, sA, s0, sS]
   go_wp2_with fail
   have hS : (fun wx : World => wx.cell? ⟨wr.heap.size, 1, none⟩ = some (.int .i64 y)) w8.drew := by (have h := ju.out.drew.cell 1; simpa using h)
   refine Q9 (fun wx : World => wx.cell? ⟨wr.heap.size, 1, none⟩ = some (.int .i64 y)) 99 8 rfl (by kernel_rfl) ?_
   refine tk 0 55 hS ?_
   refine tk 1 56 hS ?_
   refine tk 2 57 hS ?_
   refine tk 3 58 hS ?_
   refine tk 4 59 hS ?_
   refine tk 5 60 hS ?_
   refine tk 6 61 hS ?_
   refine o1Q 7 (fun K hK => ?_)
   go_simp
   have hE := mr.out.on kZ0.drew
   have hc := Ug (oo + 2) 2 (4094 - oo) y hE.arr (by rw [List.length_append, List.length_append, IC, KY.out, Rs]; omega) (by rw [gW]; omega) gW JY.out.1 JY.out.2
   with_reducible refine hc.mono ?_
   rintro e w9 ⟨rfl, hb, fm⟩
   have qD := (show Hid (EncS w w9 B sum lsn num bot sl raw (VA sum lsn num bot ++ slotB (sl.take (2 * (k + 1))))) from (by rw [Oc.out, ← List.append_assoc, ← List.append_assoc]; exact hE.next fm hb))
   have mX : (fun wx : World => wx.cell? ⟨wr.heap.size, 1, none⟩ = some (.int .i64 y)) w9 := by have h := (ju.out.drew.kept fm (by omega)).cell 1; simpa using h
   clear hb fm hE hc hS
   refine hK.out _ _ (fun _ => mX) ?_
   clear hK K mX mr ju
   refine Q8 (by kernel_rfl) ?_
   try simp only [Act.put, sA, s0, sS]
   go_wp2
   go_roundw
   case rel => exact ⟨k + 1, by omega, by go_num, qD⟩
   case measure => simp [intOf]; omega
  ·obtain rfl : k = 32 := by omega
   have hA : VA sum lsn num bot ++ slotB (sl.take (2 * 32)) = VA sum lsn num bot ++ slotB sl := by rw [List.take_of_length_le (by rw [HP.out.l2]; decide)]
   have hE := BH.out
   rw [hA] at hE
   have AE : (WE sum lsn num bot sl raw).length = 4096 := XB HP.out.l1 HP.out.l2 gW
   have pz : Blk wr (w.heap.size + 1) 215 (vals .u8 (WE sum lsn num bot sl raw)) := hE.arr
   obtain ⟨ds, mg⟩ : ∃ ds : List Value, vals .u8 (WE sum lsn num bot sl raw) = ds := ⟨_, rfl⟩
   have m7 : ds.length = 4096 := by rw [← mg, Rb, AE]
   have Mu := (show Hid (vals .u8 (WE sum lsn num bot sl raw) = ds) from mg)
   have oM := (show Hid (ds.toArray.all (·.oneCell') = true) from (by rw [← mg]; exact all_oneCell_toArray TN : ds.toArray.all (·.oneCell') = true))
   rw [mg] at pz
   have j4 : Tryz.zeroCells215.toList.length = 4096 := by rw [Array.length_toList]; exact Tryz.zeroCells215_size
   have xC := (show Hid (wr.rangeAt (w.heap.size + 1) 0 ds) from pz.rangeAll)
   have pZ := (show Hid (wr.there w.heap.size 0 ds.toArray.size) from hE.res.there 0 _ (by rw [List.size_toArray, m7, j4]; decide))
   have sU := hE.res.setCells ds 0 (by rw [m7, j4]; decide)
   rw [lay_all _ _ (by rw [m7, j4])] at sU
   have Gm := (show Hid ((wr.setCells w.heap.size 0 ds).rangeAt w.heap.size 0 ds) from sU.rangeAll)
   have HI := (show Hid ((Tryz.prog.info? 215).map (·.size) = some ds.length) from (by rw [m7]; exact Va : (Tryz.prog.info? 215).map (·.size) = some ds.length))
   have iL := (show Hid ((Tryz.prog.info? 215).map (·.size) = some ds.toArray.size) from (by rw [List.size_toArray]; exact HI.out : (Tryz.prog.info? 215).map (·.size) = some ds.toArray.size))
   have BU := (show Hid (Same w (wr.setCells w.heap.size 0 ds)) from Kept.setCells (.inl (Nat.le_refl _)) ds 0 hE.same)
   clear mg m7 AE pz sU hE j4 BH hA
   go_wp2_with (first | (refine wpList_load_mid rfl 215 _ rfl (w.heap.size + 1) 0 rfl ds _ xC.out Tryz.underlying215 rfl HI.out ?_) | (refine wpList_store_mid rfl 215 _ _ rfl w.heap.size 0 ds.toArray rfl rfl pZ.out iL.out oM.out ?_))
   have Pd := run_loadVar_mid (P := Tryz.prog) _ w.heap.size 0 215 ds _ Gm.out Tryz.underlying215 rfl HI.out
   refine bodyPost_ret (v := .agg ds.toArray) ?_ rfl ?_
   ·try simp only [Act.put, List.setIfInBounds_toArray, List.set_cons_zero, List.set_cons_succ]
    simp [results, Tryz.results180, asAddr, Pd]
   ·rw [Mu.out]
    exact ⟨rfl, BU.out⟩
end Go.Proofs.YtaojjcnmififoaaGreat
