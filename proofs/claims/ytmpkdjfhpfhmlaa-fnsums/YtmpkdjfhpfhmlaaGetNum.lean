import Derived.Test.YtmpkdjfhpfhmlaaG00
import Derived.Laws.BitsLemmas
import Derived.Laws.Bits64
namespace Go.Proofs.Ytmpkdjfhpfhmlaa
set_option maxRecDepth 100000
set_option maxHeartbeats 1000000
set_option linter.unusedVariables false
open Go.RowKit
def num (bs : List Int) : Int := bs.foldl (fun v b => v * 256 + b) 0
theorem num_snoc (bs : List Int) (b : Int) : num (bs ++ [b]) = num bs * 256 + b := by simp [num, List.foldl_append]
theorem num_take (bs : List Int) (k : Nat) (h : k < bs.length) : num (bs.take (k + 1)) = num (bs.take k) * 256 + bs.getD k 0 := by
 rw [List.take_succ_eq_append_getElem h, num_snoc]
 simp [h]
theorem num_bound (bs : List Int) (hb : IsB bs) (k : Nat) (h : k ≤ bs.length) : 0 ≤ num (bs.take k) ∧ num (bs.take k) < 256 ^ k := by
 induction k with
 | zero => simp [num]
 | succ k ih =>
  have h1 := ih (by omega)
  have h2 := hb.at k (by omega)
  rw [num_take bs k (by omega), Int.pow_succ]
  omega
theorem num_cons (x : Int) (bs : List Int) : num (x :: bs) = x * 256 ^ bs.length + num bs := by
 have key : ∀ (bs : List Int) (v : Int), bs.foldl (fun v b => v * 256 + b) v = v * 256 ^ bs.length + num bs := fun bs => by
  induction bs with
  | nil => intro v; simp [num]
  | cons y bs ih =>
   intro v
   simp only [List.foldl_cons, num, List.length_cons]
   rw [ih, ih, Int.pow_succ, Int.add_mul, Int.mul_assoc, Int.mul_comm 256, Int.zero_mul, Int.zero_add]
   omega
 have := key bs x
 simpa [num] using this
theorem num_le (bs : List Int) (hb : IsB bs) (k : Nat) (h : k ≤ bs.length) {m : Int} (hm : num bs ≤ m) : num (bs.take k) ≤ m := by
 obtain ⟨d, hd⟩ : ∃ d, bs.length - k = d := ⟨_, rfl⟩
 induction d generalizing k with
 | zero =>
  obtain rfl : k = bs.length := by omega
  rw [List.take_length]
  exact hm
 | succ d ih =>
  have h1 := ih (k + 1) (by omega) (by omega)
  rw [num_take bs k (by omega)] at h1
  have h2 := hb.at k (by omega)
  have h3 := num_bound bs hb k h
  omega
theorem num_lt8 (bs : List Int) (hb : IsB bs) (k : Nat) (h : k ≤ bs.length) (h8 : k ≤ 8) : num (bs.take k) < 18446744073709551616 := by
 have h1 := (num_bound bs hb k h).2
 have h2 : (256 : Int) ^ k ≤ 256 ^ 8 := by
  have : k = 0 ∨ k = 1 ∨ k = 2 ∨ k = 3 ∨ k = 4 ∨ k = 5 ∨ k = 6 ∨ k = 7 ∨ k = 8 := by omega
  rcases this with rfl | rfl | rfl | rfl | rfl | rfl | rfl | rfl | rfl <;> decide
 omega
def getN (bs : List Int) : Int := if bs.length < 1 ∨ 8 < bs.length ∨ 9223372036854775807 < num bs then -1 else num bs
theorem getN_le (bs : List Int) : getN bs ≤ 9223372036854775807 := by
 unfold getN
 split <;> omega
theorem getN_eight (bs : List Int) (hb : IsB bs) (h : bs.length = 8) : (9223372036854775807 < num bs) ↔ 127 < bs.getD 0 0 := by
 match bs, h with
 | x :: bs, h =>
  have hl : bs.length = 7 := by simpa using h
  have h1 := hb x (by simp)
  have h2 := num_bound bs (fun y hy => hb y (by simp [hy])) 7 (by omega)
  rw [← hl, List.take_length, hl] at h2
  rw [num_cons, hl]
  simp only [List.getD_cons_zero]
  omega
theorem getN_few (bs : List Int) (hb : IsB bs) (h : bs.length ≤ 7) : num bs ≤ 9223372036854775807 := by
 have h1 := num_bound bs hb bs.length (Nat.le_refl _)
 rw [List.take_length] at h1
 generalize bs.length = n at h h1
 have h2 : (256 : Int) ^ n ≤ 256 ^ 7 := by
  have : n = 0 ∨ n = 1 ∨ n = 2 ∨ n = 3 ∨ n = 4 ∨ n = 5 ∨ n = 6 ∨ n = 7 := by omega
  rcases this with rfl | rfl | rfl | rfl | rfl | rfl | rfl | rfl <;> decide
 omega
theorem specGet_any (v : Value) (bs : List Int) (w : World) (hb : IsB bs) (hn : bs.length ≤ 1099511627776) (hv : Rd .u8 w v bs) :
  Calls Try.prog 22 #[v] w fun e w' => e = .returned (.int .i64 (getN bs)) ∧ Same w w' := by
 by_cases h : bs.length < 1 ∨ 8 < bs.length
 ·obtain ⟨a, c, rfl⟩ := hv.form
  have e : getN bs = -1 := by unfold getN; rw [if_pos (by omega)]
  rw [e]
  clear hv e hb
  rcases h with h | h
  ·go_enter Try.func22, Try.ntmps22
   go_wp2
   go_ret
   exact ⟨rfl, Kept.refl _ _⟩
  ·go_enter Try.func22, Try.ntmps22
   go_wp2
   go_ret
   exact ⟨rfl, Kept.refl _ _⟩
 ·rcases hv.2 with ⟨rfl, _⟩ | ⟨b, off, c, rfl, _, hc⟩
  ·simp at h
  have hc0 := hc 0 (by omega)
  rw [Nat.add_zero] at hc0
  have HC : Hid (∀ i, i < bs.length → w.cell? ⟨b, off + i, none⟩ = some (.int .u8 (bs.getD i 0))) := hc
  have HB : Hid (IsB bs) := hb
  clear hc hv hb hn
  generalize hl : bs.length = len at h ⊢
  have HL : Hid (bs.length = len) := hl
  have h1 : 1 ≤ len := by omega
  have h2 : len ≤ 8 := by omega
  clear hl h
  have hx := HB.out.at 0 (by have := HL.out; omega)
  obtain ⟨x, hx0⟩ : ∃ x, bs.getD 0 0 = x := ⟨_, rfl⟩
  have HX : Hid (bs.getD 0 0 = x) := hx0
  rw [hx0] at hc0 hx
  clear hx0
  obtain ⟨G, hG⟩ : ∃ G, getN bs = G := ⟨_, rfl⟩
  have HGN : Hid (getN bs = G) := hG
  rw [hG]
  clear hG
  by_cases h8 : len = 8
  ·by_cases h127 : 127 < x
   ·have e : getN bs = -1 := by unfold getN; rw [if_pos]; right; right; exact (getN_eight bs HB.out (by rw [HL.out]; exact h8)).2 (by rw [HX.out]; exact h127)
    rw [HGN.out] at e
    subst e
    subst h8
    go_enter Try.func22, Try.ntmps22
    go_wp2
    go_ret
    exact ⟨rfl, Kept.refl _ _⟩
   ·have HOK : Hid (len ≤ 7 ∨ len = 8 ∧ x ≤ 127) := Or.inr ⟨h8, by omega⟩
    subst h8
    go_enter Try.func22, Try.ntmps22
    go_wp2
    go_loopw [3, 4] (fun y i wr => ∃ (k : Nat), k ≤ 8 ∧ y = .int .i64 (num (bs.take k)) ∧ i = .int .i64 k ∧ wr = w) (fun _ i _ => 8 - (intOf i).toNat)
    case atStart => exact ⟨0, Nat.zero_le _, by simp [num], by simp, rfl⟩
    case round =>
     obtain ⟨k, hk, rfl, rfl, rfl⟩ := hrel
     have hg : getN bs = num bs := by
      unfold getN
      rw [if_neg]
      have hl := HL.out
      rcases HOK.out with h | h
      ·have := getN_few bs HB.out (by omega)
       omega
      ·have := getN_eight bs HB.out (by omega)
       rw [HX.out] at this
       omega
     have HG : Hid (getN bs = num bs) := hg
     clear hg
     by_cases hlt : k < 8
     ·have hlp : k < bs.length := by rw [HL.out]; exact hlt
      have q1 := HC.out k hlp
      have hb1 := num_bound bs HB.out k (by omega)
      have hb2 := HB.out.at k hlp
      have hb3 : num (bs.take k) * 256 + bs.getD k 0 ≤ 9223372036854775807 := by
       have e := num_take bs k hlp
       rw [← e]
       exact num_le bs HB.out (k + 1) (by omega) (by have := HG.out; have h9 := getN_le bs; omega)
      have HS : Hid (num (bs.take (k + 1)) = num (bs.take k) * 256 + bs.getD k 0) := num_take bs k hlp
      generalize num (bs.take k) = y at *
      generalize bs.getD k 0 = z at *
      obtain ⟨hy0, _⟩ := hb1
      clear hc0
      go_wp2
      go_roundw
      case rel => exact ⟨k + 1, by omega, by rw [HS.out], by go_num, by first | rfl | trivial⟩
      case measure => simp [intOf]; omega
     ·have hke : k = 8 := by omega
      have he : num (bs.take k) = G := by rw [← HGN.out, HG.out, hke, ← HL.out, List.take_length]
      rw [he]
      clear hc0
      go_wp2
      go_ret
      exact ⟨rfl, Kept.refl _ _⟩
  ·have HOK : Hid (len ≤ 7 ∨ len = 8 ∧ x ≤ 127) := Or.inl (by omega)
   go_enter Try.func22, Try.ntmps22
   go_wp2
   go_loopw [3, 4] (fun y i wr => ∃ (k : Nat), k ≤ len ∧ y = .int .i64 (num (bs.take k)) ∧ i = .int .i64 k ∧ wr = w) (fun _ i _ => len - (intOf i).toNat)
   case atStart => exact ⟨0, Nat.zero_le _, by simp [num], by simp, rfl⟩
   case round =>
    obtain ⟨k, hk, rfl, rfl, rfl⟩ := hrel
    have hg : getN bs = num bs := by
     unfold getN
     rw [if_neg]
     have hl := HL.out
     rcases HOK.out with h | h
     ·have := getN_few bs HB.out (by omega)
      omega
     ·have := getN_eight bs HB.out (by omega)
      rw [HX.out] at this
      omega
    have HG : Hid (getN bs = num bs) := hg
    clear hg
    by_cases hlt : k < len
    ·have hlp : k < bs.length := by rw [HL.out]; exact hlt
     have q1 := HC.out k hlp
     have hb1 := num_bound bs HB.out k (by omega)
     have hb2 := HB.out.at k hlp
     have hb3 : num (bs.take k) * 256 + bs.getD k 0 ≤ 9223372036854775807 := by
      have e := num_take bs k hlp
      rw [← e]
      exact num_le bs HB.out (k + 1) (by omega) (by have := HG.out; have h9 := getN_le bs; omega)
     have HS : Hid (num (bs.take (k + 1)) = num (bs.take k) * 256 + bs.getD k 0) := num_take bs k hlp
     generalize num (bs.take k) = y at *
     generalize bs.getD k 0 = z at *
     obtain ⟨hy0, _⟩ := hb1
     clear hc0
     go_wp2
     go_roundw
     case rel => exact ⟨k + 1, by omega, by rw [HS.out], by go_num, by first | rfl | trivial⟩
     case measure => simp [intOf]; omega
    ·have hke : k = len := by omega
     have he : num (bs.take k) = G := by rw [← HGN.out, HG.out, hke, ← HL.out, List.take_length]
     rw [he]
     clear hc0
     go_wp2
     go_ret
     exact ⟨rfl, Kept.refl _ _⟩
theorem implGet_any (v : Value) (bs : List Int) (w : World) (hb : IsB bs) (hn : bs.length ≤ 1099511627776) (hv : Rd .u8 w v bs) :
  Calls Try.prog 10 #[v] w fun e w' => e = .returned (.int .i64 (getN bs)) ∧ Same w w' := by
 by_cases h : bs.length < 1 ∨ 8 < bs.length
 ·obtain ⟨a, c, rfl⟩ := hv.form
  have e : getN bs = -1 := by unfold getN; rw [if_pos (by omega)]
  rw [e]
  clear hv e hb
  rcases h with h | h
  ·go_enter Try.func10, Try.ntmps10
   go_wp2
   go_ret
   exact ⟨rfl, Kept.refl _ _⟩
  ·go_enter Try.func10, Try.ntmps10
   go_wp2
   go_ret
   exact ⟨rfl, Kept.refl _ _⟩
 ·rcases hv.2 with ⟨rfl, _⟩ | ⟨b, off, c, rfl, _, hc⟩
  ·simp at h
  have HC : Hid (∀ i, i < bs.length → w.cell? ⟨b, off + i, none⟩ = some (.int .u8 (bs.getD i 0))) := hc
  have HB : Hid (IsB bs) := hb
  clear hc hv hb hn
  generalize hl : bs.length = len at h ⊢
  have HL : Hid (bs.length = len) := hl
  have h1 : 1 ≤ len := by omega
  have h2 : len ≤ 8 := by omega
  clear hl h
  obtain ⟨G, hG⟩ : ∃ G, getN bs = G := ⟨_, rfl⟩
  have HGN : Hid (getN bs = G) := hG
  rw [hG]
  clear hG
  go_enter Try.func10, Try.ntmps10
  go_wp2
  go_loopw [3, 5, 16] (fun y _ i wr => ∃ (k : Nat), k ≤ len ∧ y = .int .u64 (num (bs.take k)) ∧ i = .int .i64 k ∧ wr = w) (fun _ _ i _ => len - (intOf i).toNat)
  case atStart => exact ⟨0, Nat.zero_le _, by simp [num], by simp, rfl⟩
  case round =>
   obtain ⟨k, hk, rfl, rfl, rfl⟩ := hrel
   by_cases hlt : k < len
   ·have hlp : k < bs.length := by rw [HL.out]; exact hlt
    have q1 := HC.out k hlp
    have hb1 := num_bound bs HB.out k (by omega)
    have hb2 := HB.out.at k hlp
    have hb3 : num (bs.take k) * 256 + bs.getD k 0 < 18446744073709551616 := by
     have e := num_take bs k hlp
     rw [← e]
     exact num_lt8 bs HB.out (k + 1) (by omega) (by omega)
    have HS : Hid (num (bs.take (k + 1)) = num (bs.take k) * 256 + bs.getD k 0) := num_take bs k hlp
    generalize num (bs.take k) = y at *
    generalize bs.getD k 0 = z at *
    obtain ⟨hy0, _⟩ := hb1
    have hor : bits .or .u64 (y * 256) z = y * 256 + z := bits_join .u64 64 (by decide) (fun n h0 h1 => by rw [IntKind.wrap_u64]; omega) 8 _ _ (by omega) (by omega) (by omega) (by omega) (by omega) (by omega)
    go_wp2
    go_roundw
    case rel => exact ⟨k + 1, by omega, by rw [HS.out], by go_num, by first | rfl | trivial⟩
    case measure => simp [intOf]; omega
   ·have hke : k = len := by omega
    have he : num (bs.take k) = num bs := by rw [hke, ← HL.out, List.take_length]
    rw [he]
    have hb1 := num_lt8 bs HB.out len (by have := HL.out; omega) (by omega)
    have hb0 := num_bound bs HB.out len (by have := HL.out; omega)
    rw [← hke, he] at hb1 hb0
    have HG : Hid (getN bs = if 9223372036854775807 < num bs then -1 else num bs) := by
     have hl := HL.out
     have h0 : ¬ bs.length < 1 := by omega
     have h8 : ¬ 8 < bs.length := by omega
     simp [getN, h0, h8, Hid]
    clear he
    generalize num bs = y at *
    by_cases hm : 9223372036854775807 < y
    ·have e := HG.out
     rw [if_pos hm, HGN.out] at e
     go_wp2
     go_ret
     rw [e]
     exact ⟨rfl, Kept.refl _ _⟩
    ·have e := HG.out
     rw [if_neg hm, HGN.out] at e
     obtain ⟨hy0, _⟩ := hb0
     go_wp2
     go_ret
     exact ⟨rfl, Kept.refl _ _⟩
end Go.Proofs.Ytmpkdjfhpfhmlaa
