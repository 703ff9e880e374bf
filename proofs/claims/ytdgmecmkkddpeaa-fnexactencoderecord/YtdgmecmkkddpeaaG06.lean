import Derived.Test.YtdgmecmkkddpeaaG00
import Derived.Test.YtdgmecmkkddpeaaG05
import Derived.Laws.BitsLemmas
import Derived.Laws.Bits64
import Derived.Deep.MidRow
import Derived.Deep.WholeRow
import Derived.Laws.BitsAllLaws
import Derived.Deep.AppendLies
namespace Go.Proofs.Ytdgmecmkkddpeaa
set_option maxRecDepth 100000
set_option maxHeartbeats 4000000
set_option linter.unusedVariables false
set_option linter.unusedSimpArgs false
open Go.RowKit
def lows (v : Int) : Nat → List Int
 | 0 => []
 | k + 1 => (v / 256 ^ k % 256) :: lows v k
theorem lows_length (v : Int) (k : Nat) : (lows v k).length = k := by
 induction k with
 | zero => rfl
 | succ k ih => simp [lows, ih]
def numB (v n : Int) : List Int := if n < 1 ∨ 8 < n ∨ v < 0 ∨ v / 256 ^ n.toNat ≠ 0 then [] else lows v n.toNat
theorem numB_length (v n : Int) : (numB v n).length ≤ 8 := by
 unfold numB
 split
 ·simp
 ·rw [lows_length]; omega
theorem pow_step (v : Int) (k : Nat) : v / 256 ^ k / 256 = v / 256 ^ (k + 1) := by
 rw [Int.ediv_ediv_of_nonneg (Int.le_of_lt (Int.pow_pos (by decide))), Int.pow_succ]
theorem lows_step (v : Int) (n k : Nat) (h : k < n) : (List.replicate (n - k) 0 ++ lows v k).set (n - k - 1) (v / 256 ^ k % 256) = List.replicate (n - (k + 1)) 0 ++ lows v (k + 1) := by
 have e : n - k = (n - (k + 1)) + 1 := by omega
 rw [e, List.replicate_succ', List.append_assoc, Nat.add_sub_cancel, List.set_append_right (h := by simp)]
 simp [lows]
theorem made_length (v : Int) (n k : Nat) (h : k ≤ n) : (List.replicate (n - k) 0 ++ lows v k).length = n := by simp [lows_length]; omega
theorem Own.empty (w : World) (e : TypeId) : Own 0 e .u8 (w.alloc (Obj.cells #[] e)) (.slice (some ⟨w.heap.size, 0, none⟩) 0 0) [] :=
 ⟨by simp [vals], .inr ⟨w.heap.size, 0, #[], rfl, Nat.zero_le _, by unfold World.alloc; exact Array.getElem?_push_size, Nat.le_refl _, Nat.zero_le _, by simp [vals]⟩⟩
theorem specPut_yes (v n : Int) (w : World) (hi0 : IsI v) (h1 : 1 ≤ n) (h2 : n ≤ 8) (h3 : 0 ≤ v) :
  Calls Try.prog 75 #[.int .i64 v, .int .i64 n] w fun e w' => ∃ a c, e = .returned (.slice a (numB v n).length c) ∧ (∀ b, (Value.slice a (numB v n).length c).ownBlock = some b → w.heap.size ≤ b) ∧
   Own 0 5 .u8 w' (.slice a (numB v n).length c) (numB v n) ∧ Same w w' := by
 obtain ⟨n, rfl⟩ : ∃ m : Nat, n = m := ⟨n.toNat, by omega⟩
 obtain ⟨i0, hi, hz0, hz1, hz2⟩ := info_parts Try.infoByte'
 obtain ⟨hv1, hv2⟩ := hi0
 have h1' : ¬ (n : Int) < 1 := by omega
 have h2' : ¬ (8 : Int) < n := by omega
 have h3' : ¬ v < 0 := by omega
 go_enter Try.func75, Try.ntmps75
 go_wp2_with (at_make; refine wpList_make_full _ rfl (.tmp 18) (.tmp 18) 22 rfl 0 5 i0 (.int .u8 0) 1 Try.underlying22 hi hz0 hz1 .i64 .i64 _ _ n rfl rfl (by simp) (by simp) (by rw [hz2]; omega) (by unfold maxLen; omega) (Nat.zero_le _) ?_; intro w1 hown1 hgrow1; have HO : Hid (Own 0 5 .u8 w1 (.slice (some ⟨w.heap.size, 0, none⟩) n n) (List.replicate n 0)) := own_made (by simpa using hown1); have HK : Hid (Same w w1) := Kept.of_grown hgrow1 (fun k e => by cases e); clear hown1 hgrow1)
 go_loopw [0, 6] (fun x i wr => ∃ (k : Nat), k ≤ n ∧ x = .int .i64 (v / 256 ^ k) ∧ i = .int .i64 ((n : Int) - k - 1) ∧ Hid (Own 0 5 .u8 wr (.slice (some ⟨w.heap.size, 0, none⟩) n n) (List.replicate (n - k) 0 ++ lows v k)) ∧ Hid (Same w wr)) (fun _ i _ => (intOf i + 1).toNat)
 case atStart => exact ⟨0, Nat.zero_le _, by simp, by simp, by simpa [lows] using HO, HK⟩
 case round =>
  obtain ⟨k, hk, rfl, rfl, HOr, HKr⟩ := hrel
  by_cases hlt : k < n
  ·obtain ⟨j, rfl⟩ : ∃ j : Nat, n = k + 1 + j := ⟨n - k - 1, by omega⟩
   have ej : ((k + 1 + j : Nat) : Int) - k - 1 = j := by omega
   have hlen := made_length v (k + 1 + j) k hk
   have q2 := HOr.out.frozen hlen.symm j
   have q3 := HOr.out.cell hlen.symm j (by omega)
   have hx0 : 0 ≤ v / 256 ^ k := Int.ediv_nonneg h3 (Int.le_of_lt (Int.pow_pos (by decide)))
   have hx1 : v / 256 ^ k ≤ v := Int.ediv_le_self _ h3
   have hst := pow_step v k
   have HST : Hid (v / 256 ^ k / 256 = v / 256 ^ (k + 1)) := hst
   have hls := lows_step v (k + 1 + j) k hlt
   have HLS := (show Hid (_ = _) from hls)
   clear hls hst
   rw [ej]
   generalize hx : v / 256 ^ k = x at *
   clear hx
   go_wp2
   go_roundw
   case rel =>
    have h := HOr.out.stored hlen.symm j (x % 256)
    have e2 := HLS.out
    rw [show k + 1 + j - k - 1 = j from by omega] at e2
    rw [e2] at h
    exact ⟨k + 1, by omega, by rw [HST.out], by go_num, h, HKr.out.setCell (.inl (Nat.le_refl _)) _⟩
   case measure => simp [intOf]
  ·obtain rfl : k = n := by omega
   have ej : ((k : Nat) : Int) - k - 1 = -1 := by omega
   have hx0 : 0 ≤ v / 256 ^ k := Int.ediv_nonneg h3 (Int.le_of_lt (Int.pow_pos (by decide)))
   have hx1 : v / 256 ^ k ≤ v := Int.ediv_le_self _ h3
   rw [ej]
   by_cases hz : v / 256 ^ k = 0
   ·have hnum : numB v k = lows v k := by unfold numB; rw [if_neg (by simp only [Int.toNat_natCast]; omega)]; simp
    have HN : Hid (numB v k = lows v k) := hnum
    rw [hz]
    clear hz hnum hx0 hx1
    go_wp2
    go_ret
    rw [HN.out, lows_length]
    refine ⟨_, _, rfl, fun b hb => ?_, ?_, HKr.out⟩
    ·simp [Value.ownBlock] at hb; omega
    ·have h := HOr.out; rw [Nat.sub_self, List.replicate_zero, List.nil_append] at h; exact h
   ·have hnum : numB v k = [] := by unfold numB; rw [if_pos (by simp only [Int.toNat_natCast]; omega)]
    have HN : Hid (numB v k = []) := hnum
    clear hnum
    generalize hx : v / 256 ^ k = x at *
    clear hx
    go_wp2
    go_ret
    rw [HN.out]
    refine ⟨some ⟨wr.heap.size, 0, none⟩, 0, rfl, fun b hb => ?_, Own.empty _ _, HKr.out.alloc _⟩
    have := HKr.out.size
    simp [Value.ownBlock] at hb; omega
theorem specPut_no (v n : Int) (w : World) (h : n < 1 ∨ 8 < n ∨ v < 0) :
  Calls Try.prog 75 #[.int .i64 v, .int .i64 n] w fun e w' => e = .returned (.slice (some ⟨w.heap.size, 0, none⟩) 0 0) ∧ w' = w.alloc (Obj.cells #[] 5) := by
 rcases h with h | h
 ·go_enter Try.func75, Try.ntmps75
  go_wp2
  go_ret
  exact ⟨rfl, rfl⟩
 ·by_cases h1 : n < 1
  ·go_enter Try.func75, Try.ntmps75
   go_wp2
   go_ret
   exact ⟨rfl, rfl⟩
  ·rcases h with h | h
   ·go_enter Try.func75, Try.ntmps75
    go_wp2
    go_ret
    exact ⟨rfl, rfl⟩
   ·by_cases h2 : 8 < n
    ·go_enter Try.func75, Try.ntmps75
     go_wp2
     go_ret
     exact ⟨rfl, rfl⟩
    ·go_enter Try.func75, Try.ntmps75
     go_wp2
     go_ret
     exact ⟨rfl, rfl⟩
theorem specPut_any (v n : Int) (w : World) (hi0 : IsI v) (hi1 : IsI n) :
  Calls Try.prog 75 #[.int .i64 v, .int .i64 n] w fun e w' => ∃ a c, e = .returned (.slice a (numB v n).length c) ∧ (∀ b, (Value.slice a (numB v n).length c).ownBlock = some b → w.heap.size ≤ b) ∧
   Own 0 5 .u8 w' (.slice a (numB v n).length c) (numB v n) ∧ Same w w' := by
 by_cases h : n < 1 ∨ 8 < n ∨ v < 0
 ·refine (specPut_no v n w h).mono ?_
  rintro e w' ⟨rfl, rfl⟩
  have e : numB v n = [] := by unfold numB; rw [if_pos (by omega)]
  rw [e]
  exact ⟨some ⟨w.heap.size, 0, none⟩, 0, rfl, fun b hb => by simp [Value.ownBlock] at hb; omega, Own.empty _ _, (Kept.refl _ _).alloc _⟩
 ·exact specPut_yes v n w hi0 (by omega) (by omega) (by omega)
theorem pow8 (n : Nat) : (2 : Int) ^ (8 * n) = 256 ^ n := by
 induction n with
 | zero => rfl
 | succ n ih => rw [Nat.mul_succ, Int.pow_add, ih, Int.pow_succ]; rfl
theorem writeNumber_any (g o n c : Nat) (t : TypeId) (xs : List Value) (v : Int) (w : World) (hb : Blk w g t xs) (ho : o + n ≤ xs.length) (h0 : 0 ≤ v) (hi : v ≤ 9223372036854775807) (hn : n ≤ 1099511627776) :
  Calls Try.prog 83 #[.slice (some ⟨g, o, none⟩) n c, .int .i64 v] w fun e w' => e = .returned (.tuple #[]) ∧ Blk w' g t (lay xs o (vals .u8 (lows v n))) ∧ Kept (fun b => b = g) w w' := by
 have HB := (show Hid (Blk w g t xs) from hb)
 clear hb
 go_enter Try.func83, Try.ntmps83
 go_wp2
 go_loopw [1, 4] (fun x i wr => ∃ k : Nat, k ≤ n ∧ x = .int .i64 (v / 256 ^ k) ∧ i = .int .i64 ((n : Int) - k - 1) ∧ Hid (Blk wr g t (lay xs (o + (n - k)) (vals .u8 (lows v k)))) ∧ Hid (Kept (fun b => b = g) w wr)) (fun _ i _ => (intOf i + 1).toNat)
 case atStart => exact ⟨0, Nat.zero_le _, by simp, by simp, by simpa [lows, vals, lay_nil] using HB, Kept.refl _ _⟩
 case round =>
  obtain ⟨k, hk, rfl, rfl, HBr, HKr⟩ := hrel
  by_cases hlt : k < n
  ·obtain ⟨j, rfl⟩ : ∃ j : Nat, n = k + 1 + j := ⟨n - k - 1, by omega⟩
   have ej : ((k + 1 + j : Nat) : Int) - k - 1 = j := by omega
   have el : (lay xs (o + (k + 1 + j - k)) (vals .u8 (lows v k))).length = xs.length := lay_length _ _ _ (by rw [vals_length, lows_length]; omega)
   have q2 := HBr.out.frozen (o + j)
   have q3 := HBr.out.cell (o + j)
   rw [List.getElem?_eq_getElem (by rw [el]; omega)] at q3
   have hx0 : 0 ≤ v / 256 ^ k := Int.ediv_nonneg h0 (Int.le_of_lt (Int.pow_pos (by decide)))
   have hx1 : v / 256 ^ k ≤ v := Int.ediv_le_self _ h0
   have HST : Hid (v / 256 ^ k / 256 = v / 256 ^ (k + 1)) := pow_step v k
   have HLS : Hid ((lay xs (o + j + 1) (vals .u8 (lows v k))).set (o + j) (.int .u8 (v / 256 ^ k % 256)) = lay xs (o + j) (vals .u8 (lows v (k + 1)))) := lay_set xs (o + j) _ (vals .u8 (lows v k)) (by rw [vals_length, lows_length]; omega)
   rw [ej]
   obtain ⟨z, hz⟩ : ∃ z, (lay xs (o + (k + 1 + j - k)) (vals .u8 (lows v k)))[o + j]'(by rw [el]; omega) = z := ⟨_, rfl⟩
   rw [hz] at q3
   clear hz el
   generalize hx : v / 256 ^ k = x at *
   clear hx
   go_wp2
   go_roundw
   case rel =>
    have h := HBr.out.stored (o + j) (.int .u8 (x % 256))
    rw [show o + (k + 1 + j - k) = o + j + 1 from by omega, HLS.out] at h
    refine ⟨k + 1, by omega, by rw [← HST.out], by go_num, ?_, Kept.setCell (R := fun b => b = g) HKr.out (.inr rfl) _⟩
    rw [show o + (k + 1 + j - (k + 1)) = o + j from by omega]
    exact h
   case measure => simp [intOf]
  ·obtain rfl : k = n := by omega
   have ej : ((k : Nat) : Int) - k - 1 = -1 := by omega
   rw [ej]
   generalize hx : v / 256 ^ k = x at *
   go_wp2
   go_end0
   have h := HBr.out
   rw [Nat.sub_self] at h
   exact ⟨rfl, h, HKr.out⟩
def num (bs : List Int) : Int := bs.foldl (fun v b => v * 256 + b) 0
theorem num_snoc (bs : List Int) (b : Int) : num (bs ++ [b]) = num bs * 256 + b := by simp [num, List.foldl_append]
theorem num_take (bs : List Int) (k : Nat) (h : k < bs.length) : num (bs.take (k + 1)) = num (bs.take k) * 256 + bs.getD k 0 := by
 rw [List.take_succ_eq_append_getElem h, num_snoc]
 simp [h]
theorem num_bound (bs : List Int) (hb : IsB bs) (k : Nat) (h : k ≤ bs.length) : 0 ≤ num (bs.take k) ∧ num (bs.take k) < 256 ^ k := by
 induction k with
 | zero => simp [num]
 | succ k ih =>
  have h1 := ih (by omega)
  have h2 := hb.at k (by omega)
  rw [num_take bs k (by omega), Int.pow_succ]
  omega
theorem num_cons (x : Int) (bs : List Int) : num (x :: bs) = x * 256 ^ bs.length + num bs := by
 have key : ∀ (bs : List Int) (v : Int), bs.foldl (fun v b => v * 256 + b) v = v * 256 ^ bs.length + num bs := fun bs => by
  induction bs with
  | nil => intro v; simp [num]
  | cons y bs ih =>
   intro v
   simp only [List.foldl_cons, num, List.length_cons]
   rw [ih, ih, Int.pow_succ, Int.add_mul, Int.mul_assoc, Int.mul_comm 256, Int.zero_mul, Int.zero_add]
   omega
 have := key bs x
 simpa [num] using this
theorem num_le (bs : List Int) (hb : IsB bs) (k : Nat) (h : k ≤ bs.length) {m : Int} (hm : num bs ≤ m) : num (bs.take k) ≤ m := by
 obtain ⟨d, hd⟩ : ∃ d, bs.length - k = d := ⟨_, rfl⟩
 induction d generalizing k with
 | zero =>
  obtain rfl : k = bs.length := by omega
  rw [List.take_length]
  exact hm
 | succ d ih =>
  have h1 := ih (k + 1) (by omega) (by omega)
  rw [num_take bs k (by omega)] at h1
  have h2 := hb.at k (by omega)
  have h3 := num_bound bs hb k h
  omega
theorem num_lt8 (bs : List Int) (hb : IsB bs) (k : Nat) (h : k ≤ bs.length) (h8 : k ≤ 8) : num (bs.take k) < 18446744073709551616 := by
 have h1 := (num_bound bs hb k h).2
 have h2 : (256 : Int) ^ k ≤ 256 ^ 8 := by
  have : k = 0 ∨ k = 1 ∨ k = 2 ∨ k = 3 ∨ k = 4 ∨ k = 5 ∨ k = 6 ∨ k = 7 ∨ k = 8 := by omega
  rcases this with rfl | rfl | rfl | rfl | rfl | rfl | rfl | rfl | rfl <;> decide
 omega
def getN (bs : List Int) : Int := if bs.length < 1 ∨ 8 < bs.length ∨ 9223372036854775807 < num bs then -1 else num bs
theorem getN_le (bs : List Int) : getN bs ≤ 9223372036854775807 := by
 unfold getN
 split <;> omega
theorem getN_eight (bs : List Int) (hb : IsB bs) (h : bs.length = 8) : (9223372036854775807 < num bs) ↔ 127 < bs.getD 0 0 := by
 match bs, h with
 | x :: bs, h =>
  have hl : bs.length = 7 := by simpa using h
  have h1 := hb x (by simp)
  have h2 := num_bound bs (fun y hy => hb y (by simp [hy])) 7 (by omega)
  rw [← hl, List.take_length, hl] at h2
  rw [num_cons, hl]
  simp only [List.getD_cons_zero]
  omega
theorem getN_few (bs : List Int) (hb : IsB bs) (h : bs.length ≤ 7) : num bs ≤ 9223372036854775807 := by
 have h1 := num_bound bs hb bs.length (Nat.le_refl _)
 rw [List.take_length] at h1
 generalize bs.length = n at h h1
 have h2 : (256 : Int) ^ n ≤ 256 ^ 7 := by
  have : n = 0 ∨ n = 1 ∨ n = 2 ∨ n = 3 ∨ n = 4 ∨ n = 5 ∨ n = 6 ∨ n = 7 := by omega
  rcases this with rfl | rfl | rfl | rfl | rfl | rfl | rfl | rfl <;> decide
 omega
theorem specGet_any (v : Value) (bs : List Int) (w : World) (hb : IsB bs) (hn : bs.length ≤ 1099511627776) (hv : Rd .u8 w v bs) :
  Calls Try.prog 82 #[v] w fun e w' => e = .returned (.int .i64 (getN bs)) ∧ Same w w' := by
 by_cases h : bs.length < 1 ∨ 8 < bs.length
 ·obtain ⟨a, c, rfl⟩ := hv.form
  have e : getN bs = -1 := by unfold getN; rw [if_pos (by omega)]
  rw [e]
  clear hv e hb
  rcases h with h | h
  ·go_enter Try.func82, Try.ntmps82
   go_wp2
   go_ret
   exact ⟨rfl, Kept.refl _ _⟩
  ·go_enter Try.func82, Try.ntmps82
   go_wp2
   go_ret
   exact ⟨rfl, Kept.refl _ _⟩
 ·rcases hv.2 with ⟨rfl, _⟩ | ⟨b, off, c, rfl, _, hc⟩
  ·simp at h
  have hc0 := hc 0 (by omega)
  rw [Nat.add_zero] at hc0
  have HC : Hid (∀ i, i < bs.length → w.cell? ⟨b, off + i, none⟩ = some (.int .u8 (bs.getD i 0))) := hc
  have HB : Hid (IsB bs) := hb
  clear hc hv hb hn
  generalize hl : bs.length = len at h ⊢
  have HL : Hid (bs.length = len) := hl
  have h1 : 1 ≤ len := by omega
  have h2 : len ≤ 8 := by omega
  clear hl h
  have hx := HB.out.at 0 (by have := HL.out; omega)
  obtain ⟨x, hx0⟩ : ∃ x, bs.getD 0 0 = x := ⟨_, rfl⟩
  have HX : Hid (bs.getD 0 0 = x) := hx0
  rw [hx0] at hc0 hx
  clear hx0
  obtain ⟨G, hG⟩ : ∃ G, getN bs = G := ⟨_, rfl⟩
  have HGN : Hid (getN bs = G) := hG
  rw [hG]
  clear hG
  by_cases h8 : len = 8
  ·by_cases h127 : 127 < x
   ·have e : getN bs = -1 := by unfold getN; rw [if_pos]; right; right; exact (getN_eight bs HB.out (by rw [HL.out]; exact h8)).2 (by rw [HX.out]; exact h127)
    rw [HGN.out] at e
    subst e
    subst h8
    go_enter Try.func82, Try.ntmps82
    go_wp2
    go_ret
    exact ⟨rfl, Kept.refl _ _⟩
   ·have HOK : Hid (len ≤ 7 ∨ len = 8 ∧ x ≤ 127) := Or.inr ⟨h8, by omega⟩
    subst h8
    go_enter Try.func82, Try.ntmps82
    go_wp2
    go_loopw [3, 4] (fun y i wr => ∃ (k : Nat), k ≤ 8 ∧ y = .int .i64 (num (bs.take k)) ∧ i = .int .i64 k ∧ wr = w) (fun _ i _ => 8 - (intOf i).toNat)
    case atStart => exact ⟨0, Nat.zero_le _, by simp [num], by simp, rfl⟩
    case round =>
     obtain ⟨k, hk, rfl, rfl, rfl⟩ := hrel
     have hg : getN bs = num bs := by
      unfold getN
      rw [if_neg]
      have hl := HL.out
      rcases HOK.out with h | h
      ·have := getN_few bs HB.out (by omega)
       omega
      ·have := getN_eight bs HB.out (by omega)
       rw [HX.out] at this
       omega
     have HG : Hid (getN bs = num bs) := hg
     clear hg
     by_cases hlt : k < 8
     ·have hlp : k < bs.length := by rw [HL.out]; exact hlt
      have q1 := HC.out k hlp
      have hb1 := num_bound bs HB.out k (by omega)
      have hb2 := HB.out.at k hlp
      have hb3 : num (bs.take k) * 256 + bs.getD k 0 ≤ 9223372036854775807 := by
       have e := num_take bs k hlp
       rw [← e]
       exact num_le bs HB.out (k + 1) (by omega) (by have := HG.out; have h9 := getN_le bs; omega)
      have HS : Hid (num (bs.take (k + 1)) = num (bs.take k) * 256 + bs.getD k 0) := num_take bs k hlp
      generalize num (bs.take k) = y at *
      generalize bs.getD k 0 = z at *
      obtain ⟨hy0, _⟩ := hb1
      clear hc0
      go_wp2
      go_roundw
      case rel => exact ⟨k + 1, by omega, by rw [HS.out], by go_num, by first | rfl | trivial⟩
      case measure => simp [intOf]; omega
     ·have hke : k = 8 := by omega
      have he : num (bs.take k) = G := by rw [← HGN.out, HG.out, hke, ← HL.out, List.take_length]
      rw [he]
      clear hc0
      go_wp2
      go_ret
      exact ⟨rfl, Kept.refl _ _⟩
  ·have HOK : Hid (len ≤ 7 ∨ len = 8 ∧ x ≤ 127) := Or.inl (by omega)
   go_enter Try.func82, Try.ntmps82
   go_wp2
   go_loopw [3, 4] (fun y i wr => ∃ (k : Nat), k ≤ len ∧ y = .int .i64 (num (bs.take k)) ∧ i = .int .i64 k ∧ wr = w) (fun _ i _ => len - (intOf i).toNat)
   case atStart => exact ⟨0, Nat.zero_le _, by simp [num], by simp, rfl⟩
   case round =>
    obtain ⟨k, hk, rfl, rfl, rfl⟩ := hrel
    have hg : getN bs = num bs := by
     unfold getN
     rw [if_neg]
     have hl := HL.out
     rcases HOK.out with h | h
     ·have := getN_few bs HB.out (by omega)
      omega
     ·have := getN_eight bs HB.out (by omega)
      rw [HX.out] at this
      omega
    have HG : Hid (getN bs = num bs) := hg
    clear hg
    by_cases hlt : k < len
    ·have hlp : k < bs.length := by rw [HL.out]; exact hlt
     have q1 := HC.out k hlp
     have hb1 := num_bound bs HB.out k (by omega)
     have hb2 := HB.out.at k hlp
     have hb3 : num (bs.take k) * 256 + bs.getD k 0 ≤ 9223372036854775807 := by
      have e := num_take bs k hlp
      rw [← e]
      exact num_le bs HB.out (k + 1) (by omega) (by have := HG.out; have h9 := getN_le bs; omega)
     have HS : Hid (num (bs.take (k + 1)) = num (bs.take k) * 256 + bs.getD k 0) := num_take bs k hlp
     generalize num (bs.take k) = y at *
     generalize bs.getD k 0 = z at *
     obtain ⟨hy0, _⟩ := hb1
     clear hc0
     go_wp2
     go_roundw
     case rel => exact ⟨k + 1, by omega, by rw [HS.out], by go_num, by first | rfl | trivial⟩
     case measure => simp [intOf]; omega
    ·have hke : k = len := by omega
     have he : num (bs.take k) = G := by rw [← HGN.out, HG.out, hke, ← HL.out, List.take_length]
     rw [he]
     clear hc0
     go_wp2
     go_ret
     exact ⟨rfl, Kept.refl _ _⟩
theorem implGet_any (v : Value) (bs : List Int) (w : World) (hb : IsB bs) (hn : bs.length ≤ 1099511627776) (hv : Rd .u8 w v bs) :
  Calls Try.prog 124 #[v] w fun e w' => e = .returned (.int .i64 (getN bs)) ∧ Same w w' := by
 by_cases h : bs.length < 1 ∨ 8 < bs.length
 ·obtain ⟨a, c, rfl⟩ := hv.form
  have e : getN bs = -1 := by unfold getN; rw [if_pos (by omega)]
  rw [e]
  clear hv e hb
  rcases h with h | h
  ·go_enter Try.func124, Try.ntmps124
   go_wp2
   go_ret
   exact ⟨rfl, Kept.refl _ _⟩
  ·go_enter Try.func124, Try.ntmps124
   go_wp2
   go_ret
   exact ⟨rfl, Kept.refl _ _⟩
 ·rcases hv.2 with ⟨rfl, _⟩ | ⟨b, off, c, rfl, _, hc⟩
  ·simp at h
  have HC : Hid (∀ i, i < bs.length → w.cell? ⟨b, off + i, none⟩ = some (.int .u8 (bs.getD i 0))) := hc
  have HB : Hid (IsB bs) := hb
  clear hc hv hb hn
  generalize hl : bs.length = len at h ⊢
  have HL : Hid (bs.length = len) := hl
  have h1 : 1 ≤ len := by omega
  have h2 : len ≤ 8 := by omega
  clear hl h
  obtain ⟨G, hG⟩ : ∃ G, getN bs = G := ⟨_, rfl⟩
  have HGN : Hid (getN bs = G) := hG
  rw [hG]
  clear hG
  go_enter Try.func124, Try.ntmps124
  go_wp2
  go_loopw [3, 5, 16] (fun y _ i wr => ∃ (k : Nat), k ≤ len ∧ y = .int .u64 (num (bs.take k)) ∧ i = .int .i64 k ∧ wr = w) (fun _ _ i _ => len - (intOf i).toNat)
  case atStart => exact ⟨0, Nat.zero_le _, by simp [num], by simp, rfl⟩
  case round =>
   obtain ⟨k, hk, rfl, rfl, rfl⟩ := hrel
   by_cases hlt : k < len
   ·have hlp : k < bs.length := by rw [HL.out]; exact hlt
    have q1 := HC.out k hlp
    have hb1 := num_bound bs HB.out k (by omega)
    have hb2 := HB.out.at k hlp
    have hb3 : num (bs.take k) * 256 + bs.getD k 0 < 18446744073709551616 := by
     have e := num_take bs k hlp
     rw [← e]
     exact num_lt8 bs HB.out (k + 1) (by omega) (by omega)
    have HS : Hid (num (bs.take (k + 1)) = num (bs.take k) * 256 + bs.getD k 0) := num_take bs k hlp
    generalize num (bs.take k) = y at *
    generalize bs.getD k 0 = z at *
    obtain ⟨hy0, _⟩ := hb1
    have hor : bits .or .u64 (y * 256) z = y * 256 + z := bits_join .u64 64 (by decide) (fun n h0 h1 => by rw [IntKind.wrap_u64]; omega) 8 _ _ (by omega) (by omega) (by omega) (by omega) (by omega) (by omega)
    go_wp2
    go_roundw
    case rel => exact ⟨k + 1, by omega, by rw [HS.out], by go_num, by first | rfl | trivial⟩
    case measure => simp [intOf]; omega
   ·have hke : k = len := by omega
    have he : num (bs.take k) = num bs := by rw [hke, ← HL.out, List.take_length]
    rw [he]
    have hb1 := num_lt8 bs HB.out len (by have := HL.out; omega) (by omega)
    have hb0 := num_bound bs HB.out len (by have := HL.out; omega)
    rw [← hke, he] at hb1 hb0
    have HG : Hid (getN bs = if 9223372036854775807 < num bs then -1 else num bs) := by
     have hl := HL.out
     have h0 : ¬ bs.length < 1 := by omega
     have h8 : ¬ 8 < bs.length := by omega
     simp [getN, h0, h8, Hid]
    clear he
    generalize num bs = y at *
    by_cases hm : 9223372036854775807 < y
    ·have e := HG.out
     rw [if_pos hm, HGN.out] at e
     go_wp2
     go_ret
     rw [e]
     exact ⟨rfl, Kept.refl _ _⟩
    ·have e := HG.out
     rw [if_neg hm, HGN.out] at e
     obtain ⟨hy0, _⟩ := hb0
     go_wp2
     go_ret
     exact ⟨rfl, Kept.refl _ _⟩
theorem Rd.mid {k : IntKind} {w : World} {b off c : Nat} {bs : List Int} (h : Rd k w (.slice (some ⟨b, off, none⟩) bs.length c) bs) (o n c' : Nat) (hm : o + n ≤ bs.length) (hc' : n ≤ c') : Rd k w (.slice (some ⟨b, off + o, none⟩) n c') ((bs.drop o).take n) := by
 have hl : ((bs.drop o).take n).length = n := by simp; omega
 refine ⟨by rw [hl]; have := h.1; omega, ?_⟩
 by_cases h0 : n = 0
 ·subst h0
  exact .inl ⟨by simp, _, _, rfl, fun e => by cases e⟩
 ·rcases h.2 with ⟨hn, a, c', e, _⟩ | ⟨b', off', c'', e, hl', hc⟩
  ·rw [hn] at hm
   simp at hm
   omega
  ·cases e
   refine .inr ⟨b, off + o, c', by rw [hl], by omega, fun i hi => ?_⟩
   have := hc (o + i) (by omega)
   rw [Nat.add_assoc, this]
   simp [List.getD, List.getElem?_take, List.getElem?_drop, show i < n by omega]
theorem l3Number_any (b off len c : Nat) (bs : List Int) (at_ n : Nat) (w : World) (hB : IsB bs) (hl : bs.length = len) (hm : len ≤ 1099511627776) (h1 : 1 ≤ n) (h2 : at_ + n ≤ len) (hv : Rd .u8 w (.slice (some ⟨b, off, none⟩) len c) bs) :
  Calls Try.prog 54 #[.slice (some ⟨b, off, none⟩) len c, .int .i64 at_, .int .i64 n] w fun e w' => e = .returned (.int .i64 (getN ((bs.drop at_).take n))) ∧ Same w w' := by
 have hc : len ≤ c := by
  rcases hv.2 with ⟨h0, _⟩ | ⟨b', o', c', e, hl', hc⟩
  ·rw [h0] at hl
   simp at hl
   omega
  ·cases e
   omega
 have HR := (show Hid (Rd .u8 w (.slice (some ⟨b, off + at_, none⟩) n (c - at_)) ((bs.drop at_).take n)) from (by subst hl; exact hv.mid at_ n (c - at_) h2 (by omega)))
 have HG := (show Hid (Calls Try.prog 82 #[.slice (some ⟨b, off + at_, none⟩) n (c - at_)] w fun e w' => e = .returned (.int .i64 (getN ((bs.drop at_).take n))) ∧ Same w w') from specGet_any _ _ w (isB_take (isB_drop hB at_) n) (by simp; omega) HR.out)
 clear hv hB HR
 have q1 : (at_ : Int) ≤ (at_ : Int) + (n : Int) := by omega
 have q2 : (at_ : Int) + (n : Int) ≤ (c : Int) := by omega
 have q3 : (0 : Int) ≤ (at_ : Int) := by omega
 have q4 : at_ < c := by omega
 have q5 : ¬ c = at_ := by omega
 have q6 : ((at_ : Int) + (n : Int)).toNat = at_ + n := by omega
 have q7 : at_ + n - at_ = n := by omega
 go_enter Try.func54, Try.ntmps54
 go_wp2_with fail
 with_reducible refine HG.out.mono ?_
 rintro e w1 ⟨rfl, hk1⟩
 go_wp2
 go_ret
 exact ⟨rfl, hk1⟩
theorem addr_add (B o j : Nat) : (⟨B, o, none⟩ : Addr).add j = ⟨B, o + j, none⟩ := by unfold Addr.add; split <;> simp_all
theorem Blk.loads {P : Program} {w : World} {B : Nat} {e : TypeId} {xs : List Value} (h : Blk w B e xs) (o n : Nat) (hn : o + n ≤ xs.length) : (loadCellsFrom ⟨B, o, none⟩ 0 n #[]).run P w = .ok ((xs.drop o).take n).toArray w := by
 have hl : ((xs.drop o).take n).length = n := by simp; omega
 have := run_loadCells_list (P := P) w ⟨B, o, none⟩ ((xs.drop o).take n) (fun j v hv => by
  rw [addr_add, h.cell]
  have hj : j < n := by have := (List.getElem?_eq_some_iff.1 hv).1; omega
  rw [List.getElem?_take_of_lt hj, List.getElem?_drop] at hv
  exact hv)
 simpa [loadCells, hl] using this
theorem Blk.setCells {B : Nat} {e : TypeId} : ∀ (vs : List Value) (o : Nat) {w : World} {xs : List Value}, Blk w B e xs → o + vs.length ≤ xs.length → Blk (w.setCells B o vs) B e (lay xs o vs)
 | [], o, w, xs, h, _ => by rw [lay_nil]; exact h
 | v :: vs, o, w, xs, h, hl => by
  simp only [List.length_cons] at hl
  have := Blk.setCells vs (o + 1) (h.stored o v) (by rw [List.length_set]; omega)
  rw [lay_cons _ _ _ _ hl] at this
  exact this
theorem Kept.setCells {R : Nat → Prop} {a : World} {B : Nat} (hB : a.heap.size ≤ B ∨ R B) : ∀ (vs : List Value) (o : Nat) {b : World}, Kept R a b → Kept R a (b.setCells B o vs)
 | [], _, _, h => h
 | v :: vs, o, b, h => Kept.setCells hB vs (o + 1) (h.setCell (p := ⟨B, o, none⟩) hB v)
theorem Blk.range {w : World} {B : Nat} {e : TypeId} {xs : List Value} (h : Blk w B e xs) (o : Nat) (cs : List Value) (hc : ∀ j v, cs[j]? = some v → xs[o + j]? = some v) : w.rangeAt B o cs := fun j v hv => by
 rw [h.cell]
 exact hc j v hv
theorem Blk.rangeAll {w : World} {B : Nat} {e : TypeId} {xs : List Value} (h : Blk w B e xs) : w.rangeAt B 0 xs := h.range 0 xs (fun j v hv => by rw [Nat.zero_add]; exact hv)
theorem Blk.there {w : World} {B : Nat} {e : TypeId} {xs : List Value} (h : Blk w B e xs) (o n : Nat) (hn : o + n ≤ xs.length) : w.there B o n := fun j hj => ⟨by rw [h.cell, List.getElem?_eq_getElem (by omega)]; rfl, h.frozen _⟩
theorem Kept.ranges {w w' : World} {b o : Nat} {cs : List Value} (hk : Same w w') (h : w.rangeAt b o cs) : w'.rangeAt b o cs := fun j v hv => hk.cellOf (h j v hv) id
theorem Blk.rd {w : World} {B : Nat} {e : TypeId} {bs : List Int} (h : Blk w B e (vals .u8 bs)) (o n c : Nat) (hn : o + n ≤ bs.length) (hc : n ≤ c) (hm : bs.length ≤ maxLen) : Rd .u8 w (.slice (some ⟨B, o, none⟩) n c) ((bs.drop o).take n) := by
 have hl : ((bs.drop o).take n).length = n := by simp; omega
 refine ⟨by omega, .inr ⟨B, o, c, by rw [hl], by omega, fun i hi => ?_⟩⟩
 rw [h.cell, vals_at _ _ _ (by omega)]
 simp [List.getD, List.getElem?_take, show i < n by omega]
theorem run_arrayP (w : World) (ad : Option Addr) (c : Nat) : (Instr.arrayAt 133 (.slice ad 4096 c)).run Try.prog w = .ok (.pointer ad) w := by
 simp [Instr.arrayAt, run_underlying Try.underlying133]
theorem page_info : (Try.prog.info? 133).map (·.size) = some 4096 := by kernel_rfl
theorem rd_range {w : World} {b off c : Nat} {bs : List Int} (h : Rd .u8 w (.slice (some ⟨b, off, none⟩) bs.length c) bs) (hn : 0 < bs.length) : w.rangeAt b off (vals .u8 bs) := fun j v hv => by
 have hj : j < bs.length := by have := (List.getElem?_eq_some_iff.1 hv).1; rwa [vals_length] at this
 rcases h.2 with ⟨h0, _⟩ | ⟨b', o', c', e, _, hc⟩
 ·rw [h0] at hn
  simp at hn
 ·cases e
  rw [hc j hj, ← hv, vals_at _ _ _ hj]
theorem rd_some {w : World} {a : Option Addr} {n c : Nat} {bs : List Int} (h : Rd .u8 w (.slice a n c) bs) (hn : 0 < bs.length) : ∃ b off, a = some ⟨b, off, none⟩ ∧ bs.length ≤ c := by
 rcases h.2 with ⟨h0, _⟩ | ⟨b', o', c', e, hl, hc⟩
 ·rw [h0] at hn
  simp at hn
 ·cases e
  exact ⟨_, _, rfl, hl⟩
def spCells (sum : List Int) (lsn num bot : Int) (sl raw : List Int) : List Value :=
 vals .u8 sum ++ (.int .i64 lsn :: .int .i64 num :: .int .i64 bot :: (vals .i64 sl ++ vals .u8 raw))
structure SP (w : World) (B : Nat) (sum : List Int) (lsn num bot : Int) (sl raw : List Int) : Prop where
 blk : Blk w B 140 (spCells sum lsn num bot sl raw)
 l1 : sum.length = 4
 l2 : sl.length = 64
 l3 : raw.length = 4096
section
variable {w w' : World} {B : Nat} {sum : List Int} {lsn num bot : Int} {sl raw : List Int}
theorem SP.kept {R : Nat → Prop} (h : SP w B sum lsn num bot sl raw) (hk : Kept R w w') (hr : ¬ R B) : SP w' B sum lsn num bot sl raw := ⟨h.blk.kept hk hr, h.l1, h.l2, h.l3⟩
theorem SP.same (h : SP w B sum lsn num bot sl raw) (hk : Same w w') : SP w' B sum lsn num bot sl raw := ⟨h.blk.same hk, h.l1, h.l2, h.l3⟩
theorem spCells_length (h1 : sum.length = 4) (h2 : sl.length = 64) (h3 : raw.length = 4096) : (spCells sum lsn num bot sl raw).length = 4167 := by simp [spCells, vals, h1, h2, h3]
theorem SP.sumAt (h : SP w B sum lsn num bot sl raw) (j : Nat) (hj : j < 4) : w.cell? ⟨B, j, none⟩ = some (.int .u8 (sum.getD j 0)) := by
 rw [h.blk.cell, spCells, List.getElem?_append_left (by rw [vals_length, h.l1]; exact hj), vals_at _ _ _ (by rw [h.l1]; exact hj)]
theorem SP.num3 (h : SP w B sum lsn num bot sl raw) : w.cell? ⟨B, 4, none⟩ = some (.int .i64 lsn) ∧ w.cell? ⟨B, 5, none⟩ = some (.int .i64 num) ∧ w.cell? ⟨B, 6, none⟩ = some (.int .i64 bot) := by
 have e : (vals .u8 sum).length = 4 := by rw [vals_length, h.l1]
 refine ⟨?_, ?_, ?_⟩ <;> rw [h.blk.cell, spCells, List.getElem?_append_right (by rw [e]; decide), e] <;> rfl
theorem SP.slAt (h : SP w B sum lsn num bot sl raw) (j : Nat) (hj : j < 64) : w.cell? ⟨B, 7 + j, none⟩ = some (.int .i64 (sl.getD j 0)) := by
 have e : (vals .u8 sum).length = 4 := by rw [vals_length, h.l1]
 rw [h.blk.cell, spCells, List.getElem?_append_right (by omega), e, show 7 + j - 4 = j + 1 + 1 + 1 from by omega, List.getElem?_cons_succ, List.getElem?_cons_succ, List.getElem?_cons_succ,
  List.getElem?_append_left (by rw [vals_length, h.l2]; exact hj), vals_at _ _ _ (by rw [h.l2]; exact hj)]
theorem SP.rawAt (h : SP w B sum lsn num bot sl raw) (j : Nat) (hj : j < 4096) : w.cell? ⟨B, 71 + j, none⟩ = some (.int .u8 (raw.getD j 0)) := by
 have e : (vals .u8 sum).length = 4 := by rw [vals_length, h.l1]
 have e2 : (vals .i64 sl).length = 64 := by rw [vals_length, h.l2]
 rw [h.blk.cell, spCells, List.getElem?_append_right (by omega), e, show 71 + j - 4 = 64 + j + 1 + 1 + 1 from by omega, List.getElem?_cons_succ, List.getElem?_cons_succ, List.getElem?_cons_succ,
  List.getElem?_append_right (by omega), e2, Nat.add_sub_cancel_left, vals_at _ _ _ (by rw [h.l3]; exact hj)]
theorem SP.rawRange (h : SP w B sum lsn num bot sl raw) : w.rangeAt B 71 (vals .u8 raw) := fun j v hv => by
 have hj : j < 4096 := by have := (List.getElem?_eq_some_iff.1 hv).1; rwa [vals_length, h.l3] at this
 rw [h.rawAt j hj, ← hv, vals_at _ _ _ (by rw [h.l3]; exact hj)]
theorem SP.slRange (h : SP w B sum lsn num bot sl raw) : w.rangeAt B 7 (vals .i64 sl) := fun j v hv => by
 have hj : j < 64 := by have := (List.getElem?_eq_some_iff.1 hv).1; rwa [vals_length, h.l2] at this
 rw [h.slAt j hj, ← hv, vals_at _ _ _ (by rw [h.l2]; exact hj)]
end
/-! ### What is written from the front on -/
def cont (A raw : List Int) : List Int := A ++ raw.drop A.length
theorem cont_nil (raw : List Int) : cont [] raw = raw := by simp [cont]
theorem cont_length (A raw : List Int) (h : A.length ≤ raw.length) : (cont A raw).length = raw.length := by simp [cont]; omega
theorem lay_cont (A raw xs : List Int) (h : A.length + xs.length ≤ raw.length) : lay (vals .u8 (cont A raw)) A.length (vals .u8 xs) = vals .u8 (cont (A ++ xs) raw) := by
 unfold lay cont
 simp [vals, Nat.add_comm]
 rw [List.drop_append, List.drop_of_length_le (by simp), List.drop_drop, List.nil_append, List.length_map]
 congr 1
 omega
theorem Blk.more {w : World} {B : Nat} {e : TypeId} {A raw : List Int} (n : Nat) (xs : List Int) (h : Blk w B e (lay (vals .u8 (cont A raw)) n (vals .u8 xs))) (hn : n = A.length) (hl : A.length + xs.length ≤ raw.length) : Blk w B e (vals .u8 (cont (A ++ xs) raw)) := by
 subst hn
 rwa [lay_cont _ _ _ hl] at h
def headB (sum : List Int) (lsn num bot : Int) : List Int := sum ++ lows lsn 8 ++ lows num 4 ++ lows bot 2 ++ lows 0 2
theorem headB_length (sum : List Int) (lsn num bot : Int) (h : sum.length = 4) : (headB sum lsn num bot).length = 20 := by simp [headB, lows_length, h]
def slotB (sl : List Int) : List Int := sl.flatMap fun x => lows x 2
theorem slotB_length (sl : List Int) : (slotB sl).length = 2 * sl.length := by
 induction sl with
 | nil => rfl
 | cons x sl ih => simp only [slotB, List.flatMap_cons, List.length_append, lows_length, List.length_cons] at ih ⊢; omega
theorem slotB_take (sl : List Int) (k : Nat) (h : k < sl.length) : slotB (sl.take (k + 1)) = slotB (sl.take k) ++ lows (sl.getD k 0) 2 := by
 unfold slotB
 rw [List.take_succ_eq_append_getElem h, List.flatMap_append]
 simp [h]
def encB (sum : List Int) (lsn num bot : Int) (sl raw : List Int) : List Int := cont (headB sum lsn num bot ++ slotB sl) raw
theorem encB_length {sum : List Int} {lsn num bot : Int} {sl raw : List Int} (h1 : sum.length = 4) (h2 : sl.length = 64) (h3 : raw.length = 4096) : (encB sum lsn num bot sl raw).length = 4096 := by
 unfold encB
 rw [cont_length, h3]
 rw [List.length_append, headB_length _ _ _ _ h1, slotB_length, h2, h3]
 decide
section
variable {P : Program} {ops : Array Oper} {o : Oper} {a : Act} {w : World} {K : Act → World → Prop} {Q : Exit → Act → World → Prop} {E : Prop}
theorem step_copy_blk {B off dl dc sl sc : Nat} {e tb : TypeId} {ad : Addr} {xs : List Value} (hgd : o.guard = none) (d s : Operand) (T : TypeId) (ho : o.op = .call { callee := .builtin .copy, args := #[d, s], argTypes := #[T, T] })
  (hu : P.underlying T = some (.slice tb)) (hsz : (P.info? tb).map (·.size) = some 1) (cs : List Value) (hb : Blk w B e xs) (hd : a.eval d = .slice (some ⟨B, off, none⟩) dl dc) (hs : a.eval s = .slice (some ad) sl sc)
  (hn : cs.length = Nat.min sl dl) (hsrc : ∀ j v, cs[j]? = some v → w.cell? (ad.add j) = some v) (hfit : off + cs.length ≤ xs.length) (h1 : ∀ v ∈ cs, v.oneCell' = true)
  (h : K (a.put o.dst (goInt cs.length)) (w.setCells B off cs)) :
  if Region.wanted o (yielded ops a.tmps) = true then Oper.wp P o a w K Q else E := by
 have hw : Region.wanted o (yielded ops a.tmps) = true := by simp [Region.wanted, hgd]
 rw [if_pos hw]
 have hrun := run_copy_cells (P := P) w T T o.type tb B off dl dc ad sl sc cs hu hsz hn hsrc (fun j hj => by rw [hb.cell, List.getElem?_eq_getElem (by omega)]; rfl) (fun j _ => hb.frozen _) h1
 unfold Oper.wp
 simp [execOp, ho, resolve, invoke, builtin, hd, hs, hrun, Result.andThen]
 exact h
end
theorem byte_size : (Try.prog.info? 5).map (·.size) = some 1 := by
 obtain ⟨i0, hi, hz0, hz1, hz2⟩ := info_parts Try.infoByte'
 simp [hi, hz1]
set_option maxRecDepth 100000 in
theorem slot_at (sl : List Int) (hl : sl.length = 64) (k : Nat) (hk : k < 32) (w : World) : (Instr.index 138 (.agg (vals .i64 sl).toArray) (.int .i64 k)).run Try.prog w = .ok (.agg #[.int .i64 (sl.getD (2 * k) 0), .int .i64 (sl.getD (2 * k + 1) 0)]) w := by
 have hz : ∀ w, (sizeOf 137).run Try.prog w = .ok 2 w := by
  have h : (Try.prog.info? 137).map (·.size) = some 2 := by kernel_rfl
  intro w
  cases hq : Try.prog.info? 137 with
  | none => simp [hq] at h
  | some i =>
   have hi : i.size = 2 := by simpa [hq] using h
   simp [sizeOf, typeInfo, hq, hi]
 have h1 : (k : Int) < 32 := by omega
 simp [Instr.index, run_underlying Try.underlying138, asIntOf, hz, h1, go_sem]
 rw [if_pos hk]
 have hv : (vals .i64 sl).length = 64 := by rw [vals_length, hl]
 rw [Nat.mul_comm k 2, List.drop_eq_getElem_cons (by omega : 2 * k < (vals .i64 sl).length), List.drop_eq_getElem_cons (by omega : 2 * k + 1 < (vals .i64 sl).length)]
 simp [vals, List.getElem?_eq_getElem (show 2 * k < sl.length by omega), List.getElem?_eq_getElem (show 2 * k + 1 < sl.length by omega)]
end Go.Proofs.Ytdgmecmkkddpeaa
