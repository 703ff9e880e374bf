import Derived.Test.YtnkollbhicmdhaaDoorG02
import Derived.Test.YtnkollbhicmdhaaDoorG01
import Derived.Laws.BitsLemmas
import Derived.Laws.Bits64
import Derived.Deep.MidRow
import Derived.Deep.WholeRow
import Derived.Deep.AppendLies
import Derived.Lib.LazyBuf
import Derived.Laws.AppendOwnNone
namespace Go.Proofs.YtnkollbhicmdhaaDoor
set_option maxRecDepth 100000
set_option maxHeartbeats 1000000
open Go.RowKit
set_option linter.unusedVariables false
def lows (v : Int) : Nat → List Int
  | 0 => []
  | k + 1 => (v / 256 ^ k % 256) :: lows v k
theorem lows_length (v : Int) (k : Nat) : (lows v k).length = k := by
  induction k with
  | zero => rfl
  | succ k ih => simp [lows, ih]
def numB (v n : Int) : List Int := if n < 1 ∨ 8 < n ∨ v < 0 ∨ v / 256 ^ n.toNat ≠ 0 then [] else lows v n.toNat
theorem numB_length (v n : Int) : (numB v n).length ≤ 8 := by
  unfold numB
  split
  · simp
  · rw [lows_length]; omega
theorem pow_step (v : Int) (k : Nat) : v / 256 ^ k / 256 = v / 256 ^ (k + 1) := by
  rw [Int.ediv_ediv_of_nonneg (Int.le_of_lt (Int.pow_pos (by decide))), Int.pow_succ]
theorem lows_step (v : Int) (n k : Nat) (h : k < n) : (List.replicate (n - k) 0 ++ lows v k).set (n - k - 1) (v / 256 ^ k % 256) = List.replicate (n - (k + 1)) 0 ++ lows v (k + 1) := by
  have e : n - k = (n - (k + 1)) + 1 := by omega
  rw [e, List.replicate_succ', List.append_assoc, Nat.add_sub_cancel, List.set_append_right (h := by simp)]
  simp [lows]
theorem made_length (v : Int) (n k : Nat) (h : k ≤ n) : (List.replicate (n - k) 0 ++ lows v k).length = n := by simp [lows_length]; omega
theorem Own.empty (w : World) (e : TypeId) : Own 0 e .u8 (w.alloc (Obj.cells #[] e)) (.slice (some ⟨w.heap.size, 0, none⟩) 0 0) [] :=
  ⟨by simp [vals], .inr ⟨w.heap.size, 0, #[], rfl, Nat.zero_le _, by unfold World.alloc; exact Array.getElem?_push_size, Nat.le_refl _, Nat.zero_le _, by simp [vals]⟩⟩
theorem specPut_yes (v n : Int) (w : World) (hi0 : IsI v) (h1 : 1 ≤ n) (h2 : n ≤ 8) (h3 : 0 ≤ v) :
    Calls Tryd.prog 78 #[.int .i64 v, .int .i64 n] w fun e w' => ∃ a c, e = .returned (.slice a (numB v n).length c) ∧ (∀ b, (Value.slice a (numB v n).length c).ownBlock = some b → w.heap.size ≤ b) ∧
      Own 0 5 .u8 w' (.slice a (numB v n).length c) (numB v n) ∧ Same w w' := by
  obtain ⟨n, rfl⟩ : ∃ m : Nat, n = m := ⟨n.toNat, by omega⟩
  obtain ⟨i0, hi, hz0, hz1, hz2⟩ := info_parts Tryd.infoByte'
  obtain ⟨hv1, hv2⟩ := hi0
  have h1' : ¬ (n : Int) < 1 := by omega
  have h2' : ¬ (8 : Int) < n := by omega
  have h3' : ¬ v < 0 := by omega
  go_enter Tryd.func78, Tryd.ntmps78
  go_wp2_with (at_make; refine wpList_make_full _ rfl (.tmp 18) (.tmp 18) 22 rfl 0 5 i0 (.int .u8 0) 1 Tryd.underlying22 hi hz0 hz1 .i64 .i64 _ _ n rfl rfl (by simp) (by simp) (by rw [hz2]; omega) (by unfold maxLen; omega) (Nat.zero_le _) ?_; intro w1 hown1 hgrow1; have HO : Hid (Own 0 5 .u8 w1 (.slice (some ⟨w.heap.size, 0, none⟩) n n) (List.replicate n 0)) := own_made (by simpa using hown1); have HK : Hid (Same w w1) := Kept.of_grown hgrow1 (fun k e => by cases e); clear hown1 hgrow1)
  go_loopw [0, 6] (fun x i wr => ∃ (k : Nat), k ≤ n ∧ x = .int .i64 (v / 256 ^ k) ∧ i = .int .i64 ((n : Int) - k - 1) ∧ Hid (Own 0 5 .u8 wr (.slice (some ⟨w.heap.size, 0, none⟩) n n) (List.replicate (n - k) 0 ++ lows v k)) ∧ Hid (Same w wr)) (fun _ i _ => (intOf i + 1).toNat)
  case atStart => exact ⟨0, Nat.zero_le _, by simp, by simp, by simpa [lows] using HO, HK⟩
  case round =>
    obtain ⟨k, hk, rfl, rfl, HOr, HKr⟩ := hrel
    by_cases hlt : k < n
    · obtain ⟨j, rfl⟩ : ∃ j : Nat, n = k + 1 + j := ⟨n - k - 1, by omega⟩
      have ej : ((k + 1 + j : Nat) : Int) - k - 1 = j := by omega
      have hlen := made_length v (k + 1 + j) k hk
      have q2 := HOr.out.frozen hlen.symm j
      have q3 := HOr.out.cell hlen.symm j (by omega)
      have hx0 : 0 ≤ v / 256 ^ k := Int.ediv_nonneg h3 (Int.le_of_lt (Int.pow_pos (by decide)))
      have hx1 : v / 256 ^ k ≤ v := Int.ediv_le_self _ h3
      have hst := pow_step v k
      have HST : Hid (v / 256 ^ k / 256 = v / 256 ^ (k + 1)) := hst
      have hls := lows_step v (k + 1 + j) k hlt
      have HLS := (show Hid (_ = _) from hls)
      clear hls hst
      rw [ej]
      generalize hx : v / 256 ^ k = x at *
      clear hx
      go_wp2
      go_roundw
      case rel =>
        have h := HOr.out.stored hlen.symm j (x % 256)
        have e2 := HLS.out
        rw [show k + 1 + j - k - 1 = j from by omega] at e2
        rw [e2] at h
        exact ⟨k + 1, by omega, by rw [HST.out], by go_num, h, HKr.out.setCell (.inl (Nat.le_refl _)) _⟩
      case measure => simp [intOf]
    · obtain rfl : k = n := by omega
      have ej : ((k : Nat) : Int) - k - 1 = -1 := by omega
      have hx0 : 0 ≤ v / 256 ^ k := Int.ediv_nonneg h3 (Int.le_of_lt (Int.pow_pos (by decide)))
      have hx1 : v / 256 ^ k ≤ v := Int.ediv_le_self _ h3
      rw [ej]
      by_cases hz : v / 256 ^ k = 0
      · have hnum : numB v k = lows v k := by unfold numB; rw [if_neg (by simp only [Int.toNat_natCast]; omega)]; simp
        have HN : Hid (numB v k = lows v k) := hnum
        rw [hz]
        clear hz hnum hx0 hx1
        go_wp2
        go_ret
        rw [HN.out, lows_length]
        refine ⟨_, _, rfl, fun b hb => ?_, ?_, HKr.out⟩
        · simp [Value.ownBlock] at hb; omega
        · have h := HOr.out; rw [Nat.sub_self, List.replicate_zero, List.nil_append] at h; exact h
      · have hnum : numB v k = [] := by unfold numB; rw [if_pos (by simp only [Int.toNat_natCast]; omega)]
        have HN : Hid (numB v k = []) := hnum
        clear hnum
        generalize hx : v / 256 ^ k = x at *
        clear hx
        go_wp2
        go_ret
        rw [HN.out]
        refine ⟨some ⟨wr.heap.size, 0, none⟩, 0, rfl, fun b hb => ?_, Own.empty _ _, HKr.out.alloc _⟩
        have := HKr.out.size
        simp [Value.ownBlock] at hb; omega
theorem specPut_no (v n : Int) (w : World) (h : n < 1 ∨ 8 < n ∨ v < 0) :
    Calls Tryd.prog 78 #[.int .i64 v, .int .i64 n] w fun e w' => e = .returned (.slice (some ⟨w.heap.size, 0, none⟩) 0 0) ∧ w' = w.alloc (Obj.cells #[] 5) := by
  rcases h with h | h
  · go_enter Tryd.func78, Tryd.ntmps78
    go_wp2
    go_ret
    exact ⟨rfl, rfl⟩
  · by_cases h1 : n < 1
    · go_enter Tryd.func78, Tryd.ntmps78
      go_wp2
      go_ret
      exact ⟨rfl, rfl⟩
    · rcases h with h | h
      · go_enter Tryd.func78, Tryd.ntmps78
        go_wp2
        go_ret
        exact ⟨rfl, rfl⟩
      · by_cases h2 : 8 < n
        · go_enter Tryd.func78, Tryd.ntmps78
          go_wp2
          go_ret
          exact ⟨rfl, rfl⟩
        · go_enter Tryd.func78, Tryd.ntmps78
          go_wp2
          go_ret
          exact ⟨rfl, rfl⟩
theorem specPut_any (v n : Int) (w : World) (hi0 : IsI v) (hi1 : IsI n) :
    Calls Tryd.prog 78 #[.int .i64 v, .int .i64 n] w fun e w' => ∃ a c, e = .returned (.slice a (numB v n).length c) ∧ (∀ b, (Value.slice a (numB v n).length c).ownBlock = some b → w.heap.size ≤ b) ∧
      Own 0 5 .u8 w' (.slice a (numB v n).length c) (numB v n) ∧ Same w w' := by
  by_cases h : n < 1 ∨ 8 < n ∨ v < 0
  · refine (specPut_no v n w h).mono ?_
    rintro e w' ⟨rfl, rfl⟩
    have e : numB v n = [] := by unfold numB; rw [if_pos (by omega)]
    rw [e]
    exact ⟨some ⟨w.heap.size, 0, none⟩, 0, rfl, fun b hb => by simp [Value.ownBlock] at hb; omega, Own.empty _ _, (Kept.refl _ _).alloc _⟩
  · exact specPut_yes v n w hi0 (by omega) (by omega) (by omega)
theorem writeNumber_any (g o n c : Nat) (t : TypeId) (xs : List Value) (v : Int) (w : World) (hb : Blk w g t xs) (ho : o + n ≤ xs.length) (h0 : 0 ≤ v) (hi : v ≤ 9223372036854775807) (hn : n ≤ 1099511627776) :
    Calls Tryd.prog 80 #[.slice (some ⟨g, o, none⟩) n c, .int .i64 v] w fun e w' => e = .returned (.tuple #[]) ∧ Blk w' g t (lay xs o (vals .u8 (lows v n))) ∧ Kept (fun b => b = g) w w' := by
  have HB := (show Hid (Blk w g t xs) from hb)
  clear hb
  go_enter Tryd.func80, Tryd.ntmps80
  go_wp2
  go_loopw [1, 4] (fun x i wr => ∃ k : Nat, k ≤ n ∧ x = .int .i64 (v / 256 ^ k) ∧ i = .int .i64 ((n : Int) - k - 1) ∧ Hid (Blk wr g t (lay xs (o + (n - k)) (vals .u8 (lows v k)))) ∧ Hid (Kept (fun b => b = g) w wr)) (fun _ i _ => (intOf i + 1).toNat)
  case atStart => exact ⟨0, Nat.zero_le _, by simp, by simp, by simpa [lows, vals, lay_nil] using HB, Kept.refl _ _⟩
  case round =>
    obtain ⟨k, hk, rfl, rfl, HBr, HKr⟩ := hrel
    by_cases hlt : k < n
    · obtain ⟨j, rfl⟩ : ∃ j : Nat, n = k + 1 + j := ⟨n - k - 1, by omega⟩
      have ej : ((k + 1 + j : Nat) : Int) - k - 1 = j := by omega
      have el : (lay xs (o + (k + 1 + j - k)) (vals .u8 (lows v k))).length = xs.length := lay_length _ _ _ (by rw [vals_length, lows_length]; omega)
      have q2 := HBr.out.frozen (o + j)
      have q3 := HBr.out.cell (o + j)
      rw [List.getElem?_eq_getElem (by rw [el]; omega)] at q3
      have hx0 : 0 ≤ v / 256 ^ k := Int.ediv_nonneg h0 (Int.le_of_lt (Int.pow_pos (by decide)))
      have hx1 : v / 256 ^ k ≤ v := Int.ediv_le_self _ h0
      have HST : Hid (v / 256 ^ k / 256 = v / 256 ^ (k + 1)) := pow_step v k
      have HLS : Hid ((lay xs (o + j + 1) (vals .u8 (lows v k))).set (o + j) (.int .u8 (v / 256 ^ k % 256)) = lay xs (o + j) (vals .u8 (lows v (k + 1)))) := lay_set xs (o + j) _ (vals .u8 (lows v k)) (by rw [vals_length, lows_length]; omega)
      rw [ej]
      obtain ⟨z, hz⟩ : ∃ z, (lay xs (o + (k + 1 + j - k)) (vals .u8 (lows v k)))[o + j]'(by rw [el]; omega) = z := ⟨_, rfl⟩
      rw [hz] at q3
      clear hz el
      generalize hx : v / 256 ^ k = x at *
      clear hx
      go_wp2
      go_roundw
      case rel =>
        have h := HBr.out.stored (o + j) (.int .u8 (x % 256))
        rw [show o + (k + 1 + j - k) = o + j + 1 from by omega, HLS.out] at h
        refine ⟨k + 1, by omega, by rw [← HST.out], by go_num, ?_, Kept.setCell (R := fun b => b = g) HKr.out (.inr rfl) _⟩
        rw [show o + (k + 1 + j - (k + 1)) = o + j from by omega]
        exact h
      case measure => simp [intOf]
    · obtain rfl : k = n := by omega
      have ej : ((k : Nat) : Int) - k - 1 = -1 := by omega
      rw [ej]
      generalize hx : v / 256 ^ k = x at *
      go_wp2
      go_end0
      have h := HBr.out
      rw [Nat.sub_self] at h
      exact ⟨rfl, h, HKr.out⟩
end Go.Proofs.YtnkollbhicmdhaaDoor

namespace Go.Proofs.YtnkollbhicmdhaaDoor
set_option maxRecDepth 100000
set_option maxHeartbeats 1000000
open Go.RowKit
set_option linter.unusedVariables false
def num (bs : List Int) : Int := bs.foldl (fun v b => v * 256 + b) 0
theorem num_snoc (bs : List Int) (b : Int) : num (bs ++ [b]) = num bs * 256 + b := by simp [num, List.foldl_append]
theorem num_take (bs : List Int) (k : Nat) (h : k < bs.length) : num (bs.take (k + 1)) = num (bs.take k) * 256 + bs.getD k 0 := by
  rw [List.take_succ_eq_append_getElem h, num_snoc]
  simp [h]
theorem num_bound (bs : List Int) (hb : IsB bs) (k : Nat) (h : k ≤ bs.length) : 0 ≤ num (bs.take k) ∧ num (bs.take k) < 256 ^ k := by
  induction k with
  | zero => simp [num]
  | succ k ih =>
    have h1 := ih (by omega)
    have h2 := hb.at k (by omega)
    rw [num_take bs k (by omega), Int.pow_succ]
    omega
theorem num_cons (x : Int) (bs : List Int) : num (x :: bs) = x * 256 ^ bs.length + num bs := by
  have key : ∀ (bs : List Int) (v : Int), bs.foldl (fun v b => v * 256 + b) v = v * 256 ^ bs.length + num bs := fun bs => by
    induction bs with
    | nil => intro v; simp [num]
    | cons y bs ih =>
      intro v
      simp only [List.foldl_cons, num, List.length_cons]
      rw [ih, ih, Int.pow_succ, Int.add_mul, Int.mul_assoc, Int.mul_comm 256, Int.zero_mul, Int.zero_add]
      omega
  have := key bs x
  simpa [num] using this
theorem num_le (bs : List Int) (hb : IsB bs) (k : Nat) (h : k ≤ bs.length) {m : Int} (hm : num bs ≤ m) : num (bs.take k) ≤ m := by
  obtain ⟨d, hd⟩ : ∃ d, bs.length - k = d := ⟨_, rfl⟩
  induction d generalizing k with
  | zero =>
    obtain rfl : k = bs.length := by omega
    rw [List.take_length]
    exact hm
  | succ d ih =>
    have h1 := ih (k + 1) (by omega) (by omega)
    rw [num_take bs k (by omega)] at h1
    have h2 := hb.at k (by omega)
    have h3 := num_bound bs hb k h
    omega
theorem num_lt8 (bs : List Int) (hb : IsB bs) (k : Nat) (h : k ≤ bs.length) (h8 : k ≤ 8) : num (bs.take k) < 18446744073709551616 := by
  have h1 := (num_bound bs hb k h).2
  have h2 : (256 : Int) ^ k ≤ 256 ^ 8 := by
    have : k = 0 ∨ k = 1 ∨ k = 2 ∨ k = 3 ∨ k = 4 ∨ k = 5 ∨ k = 6 ∨ k = 7 ∨ k = 8 := by omega
    rcases this with rfl | rfl | rfl | rfl | rfl | rfl | rfl | rfl | rfl <;> decide
  omega
def getN (bs : List Int) : Int := if bs.length < 1 ∨ 8 < bs.length ∨ 9223372036854775807 < num bs then -1 else num bs
theorem getN_le (bs : List Int) : getN bs ≤ 9223372036854775807 := by
  unfold getN
  split <;> omega
theorem getN_eight (bs : List Int) (hb : IsB bs) (h : bs.length = 8) : (9223372036854775807 < num bs) ↔ 127 < bs.getD 0 0 := by
  match bs, h with
  | x :: bs, h =>
    have hl : bs.length = 7 := by simpa using h
    have h1 := hb x (by simp)
    have h2 := num_bound bs (fun y hy => hb y (by simp [hy])) 7 (by omega)
    rw [← hl, List.take_length, hl] at h2
    rw [num_cons, hl]
    simp only [List.getD_cons_zero]
    omega
theorem getN_few (bs : List Int) (hb : IsB bs) (h : bs.length ≤ 7) : num bs ≤ 9223372036854775807 := by
  have h1 := num_bound bs hb bs.length (Nat.le_refl _)
  rw [List.take_length] at h1
  generalize bs.length = n at h h1
  have h2 : (256 : Int) ^ n ≤ 256 ^ 7 := by
    have : n = 0 ∨ n = 1 ∨ n = 2 ∨ n = 3 ∨ n = 4 ∨ n = 5 ∨ n = 6 ∨ n = 7 := by omega
    rcases this with rfl | rfl | rfl | rfl | rfl | rfl | rfl | rfl <;> decide
  omega
theorem specGet_any (v : Value) (bs : List Int) (w : World) (hb : IsB bs) (hn : bs.length ≤ 1099511627776) (hv : Rd .u8 w v bs) :
    Calls Tryd.prog 75 #[v] w fun e w' => e = .returned (.int .i64 (getN bs)) ∧ Same w w' := by
  by_cases h : bs.length < 1 ∨ 8 < bs.length
  · obtain ⟨a, c, rfl⟩ := hv.form
    have e : getN bs = -1 := by unfold getN; rw [if_pos (by omega)]
    rw [e]
    clear hv e hb
    rcases h with h | h
    · go_enter Tryd.func75, Tryd.ntmps75
      go_wp2
      go_ret
      exact ⟨rfl, Kept.refl _ _⟩
    · go_enter Tryd.func75, Tryd.ntmps75
      go_wp2
      go_ret
      exact ⟨rfl, Kept.refl _ _⟩
  · rcases hv.2 with ⟨rfl, _⟩ | ⟨b, off, c, rfl, _, hc⟩
    · simp at h
    have hc0 := hc 0 (by omega)
    rw [Nat.add_zero] at hc0
    have HC : Hid (∀ i, i < bs.length → w.cell? ⟨b, off + i, none⟩ = some (.int .u8 (bs.getD i 0))) := hc
    have HB : Hid (IsB bs) := hb
    clear hc hv hb hn
    generalize hl : bs.length = len at h ⊢
    have HL : Hid (bs.length = len) := hl
    have h1 : 1 ≤ len := by omega
    have h2 : len ≤ 8 := by omega
    clear hl h
    have hx := HB.out.at 0 (by have := HL.out; omega)
    obtain ⟨x, hx0⟩ : ∃ x, bs.getD 0 0 = x := ⟨_, rfl⟩
    have HX : Hid (bs.getD 0 0 = x) := hx0
    rw [hx0] at hc0 hx
    clear hx0
    obtain ⟨G, hG⟩ : ∃ G, getN bs = G := ⟨_, rfl⟩
    have HGN : Hid (getN bs = G) := hG
    rw [hG]
    clear hG
    by_cases h8 : len = 8
    · by_cases h127 : 127 < x
      · have e : getN bs = -1 := by unfold getN; rw [if_pos]; right; right; exact (getN_eight bs HB.out (by rw [HL.out]; exact h8)).2 (by rw [HX.out]; exact h127)
        rw [HGN.out] at e
        subst e
        subst h8
        go_enter Tryd.func75, Tryd.ntmps75
        go_wp2
        go_ret
        exact ⟨rfl, Kept.refl _ _⟩
      · have HOK : Hid (len ≤ 7 ∨ len = 8 ∧ x ≤ 127) := Or.inr ⟨h8, by omega⟩
        subst h8
        go_enter Tryd.func75, Tryd.ntmps75
        go_wp2
        go_loopw [3, 4] (fun y i wr => ∃ (k : Nat), k ≤ 8 ∧ y = .int .i64 (num (bs.take k)) ∧ i = .int .i64 k ∧ wr = w) (fun _ i _ => 8 - (intOf i).toNat)
        case atStart => exact ⟨0, Nat.zero_le _, by simp [num], by simp, rfl⟩
        case round =>
          obtain ⟨k, hk, rfl, rfl, rfl⟩ := hrel
          have hg : getN bs = num bs := by
            unfold getN
            rw [if_neg]
            have hl := HL.out
            rcases HOK.out with h | h
            · have := getN_few bs HB.out (by omega)
              omega
            · have := getN_eight bs HB.out (by omega)
              rw [HX.out] at this
              omega
          have HG : Hid (getN bs = num bs) := hg
          clear hg
          by_cases hlt : k < 8
          · have hlp : k < bs.length := by rw [HL.out]; exact hlt
            have q1 := HC.out k hlp
            have hb1 := num_bound bs HB.out k (by omega)
            have hb2 := HB.out.at k hlp
            have hb3 : num (bs.take k) * 256 + bs.getD k 0 ≤ 9223372036854775807 := by
              have e := num_take bs k hlp
              rw [← e]
              exact num_le bs HB.out (k + 1) (by omega) (by have := HG.out; have h9 := getN_le bs; omega)
            have HS : Hid (num (bs.take (k + 1)) = num (bs.take k) * 256 + bs.getD k 0) := num_take bs k hlp
            generalize num (bs.take k) = y at *
            generalize bs.getD k 0 = z at *
            obtain ⟨hy0, _⟩ := hb1
            clear hc0
            go_wp2
            go_roundw
            case rel => exact ⟨k + 1, by omega, by rw [HS.out], by go_num, by first | rfl | trivial⟩
            case measure => simp [intOf]; omega
          · have hke : k = 8 := by omega
            have he : num (bs.take k) = G := by rw [← HGN.out, HG.out, hke, ← HL.out, List.take_length]
            rw [he]
            clear hc0
            go_wp2
            go_ret
            exact ⟨rfl, Kept.refl _ _⟩
    · have HOK : Hid (len ≤ 7 ∨ len = 8 ∧ x ≤ 127) := Or.inl (by omega)
      go_enter Tryd.func75, Tryd.ntmps75
      go_wp2
      go_loopw [3, 4] (fun y i wr => ∃ (k : Nat), k ≤ len ∧ y = .int .i64 (num (bs.take k)) ∧ i = .int .i64 k ∧ wr = w) (fun _ i _ => len - (intOf i).toNat)
      case atStart => exact ⟨0, Nat.zero_le _, by simp [num], by simp, rfl⟩
      case round =>
        obtain ⟨k, hk, rfl, rfl, rfl⟩ := hrel
        have hg : getN bs = num bs := by
          unfold getN
          rw [if_neg]
          have hl := HL.out
          rcases HOK.out with h | h
          · have := getN_few bs HB.out (by omega)
            omega
          · have := getN_eight bs HB.out (by omega)
            rw [HX.out] at this
            omega
        have HG : Hid (getN bs = num bs) := hg
        clear hg
        by_cases hlt : k < len
        · have hlp : k < bs.length := by rw [HL.out]; exact hlt
          have q1 := HC.out k hlp
          have hb1 := num_bound bs HB.out k (by omega)
          have hb2 := HB.out.at k hlp
          have hb3 : num (bs.take k) * 256 + bs.getD k 0 ≤ 9223372036854775807 := by
            have e := num_take bs k hlp
            rw [← e]
            exact num_le bs HB.out (k + 1) (by omega) (by have := HG.out; have h9 := getN_le bs; omega)
          have HS : Hid (num (bs.take (k + 1)) = num (bs.take k) * 256 + bs.getD k 0) := num_take bs k hlp
          generalize num (bs.take k) = y at *
          generalize bs.getD k 0 = z at *
          obtain ⟨hy0, _⟩ := hb1
          clear hc0
          go_wp2
          go_roundw
          case rel => exact ⟨k + 1, by omega, by rw [HS.out], by go_num, by first | rfl | trivial⟩
          case measure => simp [intOf]; omega
        · have hke : k = len := by omega
          have he : num (bs.take k) = G := by rw [← HGN.out, HG.out, hke, ← HL.out, List.take_length]
          rw [he]
          clear hc0
          go_wp2
          go_ret
          exact ⟨rfl, Kept.refl _ _⟩
theorem implGet_any (v : Value) (bs : List Int) (w : World) (hb : IsB bs) (hn : bs.length ≤ 1099511627776) (hv : Rd .u8 w v bs) :
    Calls Tryd.prog 77 #[v] w fun e w' => e = .returned (.int .i64 (getN bs)) ∧ Same w w' := by
  by_cases h : bs.length < 1 ∨ 8 < bs.length
  · obtain ⟨a, c, rfl⟩ := hv.form
    have e : getN bs = -1 := by unfold getN; rw [if_pos (by omega)]
    rw [e]
    clear hv e hb
    rcases h with h | h
    · go_enter Tryd.func77, Tryd.ntmps77
      go_wp2
      go_ret
      exact ⟨rfl, Kept.refl _ _⟩
    · go_enter Tryd.func77, Tryd.ntmps77
      go_wp2
      go_ret
      exact ⟨rfl, Kept.refl _ _⟩
  · rcases hv.2 with ⟨rfl, _⟩ | ⟨b, off, c, rfl, _, hc⟩
    · simp at h
    have HC : Hid (∀ i, i < bs.length → w.cell? ⟨b, off + i, none⟩ = some (.int .u8 (bs.getD i 0))) := hc
    have HB : Hid (IsB bs) := hb
    clear hc hv hb hn
    generalize hl : bs.length = len at h ⊢
    have HL : Hid (bs.length = len) := hl
    have h1 : 1 ≤ len := by omega
    have h2 : len ≤ 8 := by omega
    clear hl h
    obtain ⟨G, hG⟩ : ∃ G, getN bs = G := ⟨_, rfl⟩
    have HGN : Hid (getN bs = G) := hG
    rw [hG]
    clear hG
    go_enter Tryd.func77, Tryd.ntmps77
    go_wp2
    go_loopw [3, 5, 16] (fun y _ i wr => ∃ (k : Nat), k ≤ len ∧ y = .int .u64 (num (bs.take k)) ∧ i = .int .i64 k ∧ wr = w) (fun _ _ i _ => len - (intOf i).toNat)
    case atStart => exact ⟨0, Nat.zero_le _, by simp [num], by simp, rfl⟩
    case round =>
      obtain ⟨k, hk, rfl, rfl, rfl⟩ := hrel
      by_cases hlt : k < len
      · have hlp : k < bs.length := by rw [HL.out]; exact hlt
        have q1 := HC.out k hlp
        have hb1 := num_bound bs HB.out k (by omega)
        have hb2 := HB.out.at k hlp
        have hb3 : num (bs.take k) * 256 + bs.getD k 0 < 18446744073709551616 := by
          have e := num_take bs k hlp
          rw [← e]
          exact num_lt8 bs HB.out (k + 1) (by omega) (by omega)
        have HS : Hid (num (bs.take (k + 1)) = num (bs.take k) * 256 + bs.getD k 0) := num_take bs k hlp
        generalize num (bs.take k) = y at *
        generalize bs.getD k 0 = z at *
        obtain ⟨hy0, _⟩ := hb1
        have hor : bits .or .u64 (y * 256) z = y * 256 + z := bits_join .u64 64 (by decide) (fun n h0 h1 => by rw [IntKind.wrap_u64]; omega) 8 _ _ (by omega) (by omega) (by omega) (by omega) (by omega) (by omega)
        go_wp2
        go_roundw
        case rel => exact ⟨k + 1, by omega, by rw [HS.out], by go_num, by first | rfl | trivial⟩
        case measure => simp [intOf]; omega
      · have hke : k = len := by omega
        have he : num (bs.take k) = num bs := by rw [hke, ← HL.out, List.take_length]
        rw [he]
        have hb1 := num_lt8 bs HB.out len (by have := HL.out; omega) (by omega)
        have hb0 := num_bound bs HB.out len (by have := HL.out; omega)
        rw [← hke, he] at hb1 hb0
        have HG : Hid (getN bs = if 9223372036854775807 < num bs then -1 else num bs) := by
          have hl := HL.out
          have h0 : ¬ bs.length < 1 := by omega
          have h8 : ¬ 8 < bs.length := by omega
          simp [getN, h0, h8, Hid]
        clear he
        generalize num bs = y at *
        by_cases hm : 9223372036854775807 < y
        · have e := HG.out
          rw [if_pos hm, HGN.out] at e
          go_wp2
          go_ret
          rw [e]
          exact ⟨rfl, Kept.refl _ _⟩
        · have e := HG.out
          rw [if_neg hm, HGN.out] at e
          obtain ⟨hy0, _⟩ := hb0
          go_wp2
          go_ret
          exact ⟨rfl, Kept.refl _ _⟩
end Go.Proofs.YtnkollbhicmdhaaDoor

namespace Go.Proofs.YtnkollbhicmdhaaDoor
open Go.RowKit
set_option linter.unusedVariables false
/-! ### Numbers -/
theorem num_lows (v : Nat) (k : Nat) : num (lows (v : Int) k) = ((v % 256 ^ k : Nat) : Int) := by
  induction k with
  | zero => simp [lows, num, Nat.mod_one]
  | succ k ih =>
    have e : lows (v : Int) (k + 1) = ((v : Int) / 256 ^ k % 256) :: lows (v : Int) k := rfl
    rw [e, num_cons, lows_length, ih, Nat.pow_succ, Nat.mod_mul]
    have e2 : ((v : Int) / 256 ^ k % 256) = ((v / 256 ^ k % 256 : Nat) : Int) := by simp
    rw [e2]
    have e3 : (256 : Int) ^ k = ((256 ^ k : Nat) : Int) := by simp
    rw [e3, ← Int.natCast_mul, ← Int.natCast_add, Nat.mul_comm, Nat.add_comm]
end Go.Proofs.YtnkollbhicmdhaaDoor

namespace Go.Proofs.YtnkollbhicmdhaaDoor
open Go.RowKit
set_option linter.unusedVariables false
theorem addr_add (B o j : Nat) : (⟨B, o, none⟩ : Addr).add j = ⟨B, o + j, none⟩ := by unfold Addr.add; split <;> simp_all
theorem Blk.loads {P : Program} {w : World} {B : Nat} {e : TypeId} {xs : List Value} (h : Blk w B e xs) (o n : Nat) (hn : o + n ≤ xs.length) : (loadCellsFrom ⟨B, o, none⟩ 0 n #[]).run P w = .ok ((xs.drop o).take n).toArray w := by
  have hl : ((xs.drop o).take n).length = n := by simp; omega
  have := run_loadCells_list (P := P) w ⟨B, o, none⟩ ((xs.drop o).take n) (fun j v hv => by
    rw [addr_add, h.cell]
    have hj : j < n := by have := (List.getElem?_eq_some_iff.1 hv).1; omega
    rw [List.getElem?_take_of_lt hj, List.getElem?_drop] at hv
    exact hv)
  simpa [loadCells, hl] using this
theorem Blk.setCells {B : Nat} {e : TypeId} : ∀ (vs : List Value) (o : Nat) {w : World} {xs : List Value}, Blk w B e xs → o + vs.length ≤ xs.length → Blk (w.setCells B o vs) B e (lay xs o vs)
  | [], o, w, xs, h, _ => by rw [lay_nil]; exact h
  | v :: vs, o, w, xs, h, hl => by
    simp only [List.length_cons] at hl
    have := Blk.setCells vs (o + 1) (h.stored o v) (by rw [List.length_set]; omega)
    rw [lay_cons _ _ _ _ hl] at this
    exact this
theorem Kept.setCells {R : Nat → Prop} {a : World} {B : Nat} (hB : a.heap.size ≤ B ∨ R B) : ∀ (vs : List Value) (o : Nat) {b : World}, Kept R a b → Kept R a (b.setCells B o vs)
  | [], _, _, h => h
  | v :: vs, o, b, h => Kept.setCells hB vs (o + 1) (h.setCell (p := ⟨B, o, none⟩) hB v)
theorem Blk.stores {P : Program} {w : World} {B : Nat} {e : TypeId} {xs : List Value} (h : Blk w B e xs) (o : Nat) (vs : List Value) (hn : o + vs.length ≤ xs.length) (h1 : ∀ v ∈ vs, v.oneCell' = true) : (storeCells ⟨B, o, none⟩ vs 0).run P w = .ok () (w.setCells B o vs) := by
  have := run_storeCells_cells (P := P) B o vs 0 w (fun j hj => by rw [Nat.add_zero, h.cell, List.getElem?_eq_getElem (by omega)]; rfl) (fun j _ => h.frozen _) h1
  simpa using this
theorem Blk.range {w : World} {B : Nat} {e : TypeId} {xs : List Value} (h : Blk w B e xs) (o : Nat) (cs : List Value) (hc : ∀ j v, cs[j]? = some v → xs[o + j]? = some v) : w.rangeAt B o cs := fun j v hv => by
  rw [h.cell]
  exact hc j v hv
theorem Blk.rangeAll {w : World} {B : Nat} {e : TypeId} {xs : List Value} (h : Blk w B e xs) : w.rangeAt B 0 xs := h.range 0 xs (fun j v hv => by rw [Nat.zero_add]; exact hv)
theorem Blk.there {w : World} {B : Nat} {e : TypeId} {xs : List Value} (h : Blk w B e xs) (o n : Nat) (hn : o + n ≤ xs.length) : w.there B o n := fun j hj => ⟨by rw [h.cell, List.getElem?_eq_getElem (by omega)]; rfl, h.frozen _⟩
theorem Kept.ranges {w w' : World} {b o : Nat} {cs : List Value} (hk : Same w w') (h : w.rangeAt b o cs) : w'.rangeAt b o cs := fun j v hv => hk.cellOf (h j v hv) id
end Go.Proofs.YtnkollbhicmdhaaDoor

namespace Go.Proofs.YtnkollbhicmdhaaDoor
set_option maxRecDepth 100000
set_option maxHeartbeats 4000000
open Go.RowKit
set_option linter.unusedVariables false
set_option linter.unusedSimpArgs false
theorem Blk.rd {w : World} {B : Nat} {e : TypeId} {bs : List Int} (h : Blk w B e (vals .u8 bs)) (o n c : Nat) (hn : o + n ≤ bs.length) (hc : n ≤ c) (hm : bs.length ≤ maxLen) : Rd .u8 w (.slice (some ⟨B, o, none⟩) n c) ((bs.drop o).take n) := by
  have hl : ((bs.drop o).take n).length = n := by simp; omega
  refine ⟨by omega, .inr ⟨B, o, c, by rw [hl], by omega, fun i hi => ?_⟩⟩
  rw [h.cell, vals_at _ _ _ (by omega)]
  simp [List.getD, List.getElem?_take, show i < n by omega]
end Go.Proofs.YtnkollbhicmdhaaDoor

namespace Go.Proofs.YtnkollbhicmdhaaDoor
set_option maxRecDepth 100000
set_option maxHeartbeats 4000000
open Go.RowKit
set_option linter.unusedVariables false
set_option linter.unusedSimpArgs false
theorem rd_range {w : World} {b off c : Nat} {bs : List Int} (h : Rd .u8 w (.slice (some ⟨b, off, none⟩) bs.length c) bs) (hn : 0 < bs.length) : w.rangeAt b off (vals .u8 bs) := fun j v hv => by
  have hj : j < bs.length := by have := (List.getElem?_eq_some_iff.1 hv).1; rwa [vals_length] at this
  rcases h.2 with ⟨h0, _⟩ | ⟨b', o', c', e, _, hc⟩
  · rw [h0] at hn
    simp at hn
  · cases e
    rw [hc j hj, ← hv, vals_at _ _ _ hj]
theorem rd_some {w : World} {a : Option Addr} {n c : Nat} {bs : List Int} (h : Rd .u8 w (.slice a n c) bs) (hn : 0 < bs.length) : ∃ b off, a = some ⟨b, off, none⟩ ∧ bs.length ≤ c := by
  rcases h.2 with ⟨h0, _⟩ | ⟨b', o', c', e, hl, hc⟩
  · rw [h0] at hn
    simp at hn
  · cases e
    exact ⟨_, _, rfl, hl⟩
end Go.Proofs.YtnkollbhicmdhaaDoor

namespace Go.Proofs.YtnkollbhicmdhaaDoor
open Go.RowKit
set_option linter.unusedVariables false
set_option linter.unusedSimpArgs false
section
variable {w w' : World} {B : Nat} {sum : List Int} {lsn num bot : Int} {sl raw : List Int}
end
/-! ### What is written from the front on -/
def cont (A raw : List Int) : List Int := A ++ raw.drop A.length
theorem cont_nil (raw : List Int) : cont [] raw = raw := by simp [cont]
theorem cont_length (A raw : List Int) (h : A.length ≤ raw.length) : (cont A raw).length = raw.length := by simp [cont]; omega
theorem lay_cont (A raw xs : List Int) (h : A.length + xs.length ≤ raw.length) : lay (vals .u8 (cont A raw)) A.length (vals .u8 xs) = vals .u8 (cont (A ++ xs) raw) := by
  unfold lay cont
  simp [vals, Nat.add_comm]
  rw [List.drop_append, List.drop_of_length_le (by simp), List.drop_drop, List.nil_append, List.length_map]
  congr 1
  omega
theorem Blk.more {w : World} {B : Nat} {e : TypeId} {A raw : List Int} (n : Nat) (xs : List Int) (h : Blk w B e (lay (vals .u8 (cont A raw)) n (vals .u8 xs))) (hn : n = A.length) (hl : A.length + xs.length ≤ raw.length) : Blk w B e (vals .u8 (cont (A ++ xs) raw)) := by
  subst hn
  rwa [lay_cont _ _ _ hl] at h
section
variable {P : Program} {ops : Array Oper} {o : Oper} {a : Act} {w : World} {K : Act → World → Prop} {Q : Exit → Act → World → Prop} {E : Prop}
end
end Go.Proofs.YtnkollbhicmdhaaDoor

namespace Go.Proofs.YtnkollbhicmdhaaDoor
set_option maxRecDepth 100000
set_option maxHeartbeats 8000000
open Go.RowKit
set_option linter.unusedVariables false
set_option linter.unusedSimpArgs false
def hp4 : List Int := [104, 101, 97, 112]
def mH (s e c l : Int) : List Int := hp4 ++ lows s 8 ++ lows e 4 ++ lows c 8 ++ lows l 8
def mB (s e c l : Int) : List Int := mH s e c l ++ lows (crcOn 0 (mH s e c l)) 4 ++ List.replicate 476 0
def encM (s e c l : Int) : List Int := if mF s e c l = 0 then mB s e c l else []
theorem mH_length (s e c l : Int) : (mH s e c l).length = 32 := by simp [mH, hp4, lows_length]
theorem mB_length (s e c l : Int) : (mB s e c l).length = 512 := by simp [mB, mH_length, lows_length]
theorem lows_isB' (v : Int) (n : Nat) : IsB (lows v n) := by
  induction n with
  | zero => intro y hy; cases hy
  | succ k ih =>
    intro y hy
    rw [lows] at hy
    rcases List.mem_cons.1 hy with rfl | h
    · omega
    · exact ih y h
theorem isB_app {a b : List Int} (ha : IsB a) (hb : IsB b) : IsB (a ++ b) := fun y hy => (List.mem_append.1 hy).elim (ha y) (hb y)
theorem hp4_isB : IsB hp4 := by intro y hy; simp [hp4] at hy; omega
theorem mH_isB (s e c l : Int) : IsB (mH s e c l) := isB_app (isB_app (isB_app (isB_app hp4_isB (lows_isB' _ _)) (lows_isB' _ _)) (lows_isB' _ _)) (lows_isB' _ _)
theorem zero_isB (n : Nat) : IsB (List.replicate n 0) := fun y hy => by rw [List.eq_of_mem_replicate hy]; omega
theorem mB_isB (s e c l : Int) : IsB (mB s e c l) := isB_app (isB_app (mH_isB _ _ _ _) (lows_isB' _ _)) (zero_isB _)
theorem cont_mB (s e c l : Int) : cont (mH s e c l ++ lows (crcOn 0 (mH s e c l)) 4) (List.replicate 512 0) = mB s e c l := by
  unfold cont mB
  rw [List.drop_replicate, List.length_append, mH_length, lows_length]
theorem write_sec {w : World} {B : Nat} {t : TypeId} {A raw : List Int} (o n c : Nat) (x : Int) (hb : Blk w B t (vals .u8 (cont A raw))) (ho : o = A.length) (hl : o + n ≤ raw.length) (hm : raw.length = 512) (h0 : 0 ≤ x) (h1 : x ≤ 9223372036854775807) :
    Calls Tryd.prog 80 #[.slice (some ⟨B, o, none⟩) n c, .int .i64 x] w fun e' w' => e' = .returned (.tuple #[]) ∧ Blk w' B t (vals .u8 (cont (A ++ lows x n) raw)) ∧ Kept (fun b => b = B) w w' := by
  refine (writeNumber_any B o n c t _ x w hb (by rw [vals_length, cont_length _ _ (by omega)]; exact hl) h0 h1 (by omega)).mono ?_
  rintro e' w' ⟨rfl, hb', hk⟩
  exact ⟨rfl, Blk.more o (lows x n) hb' ho (by rw [lows_length]; omega), hk⟩
structure SecS (w wx : World) (s e c l : Int) (A : List Int) : Prop where
  box : Blk wx w.heap.size 28 [.int .i64 s, .int .i64 e, .int .i64 c, .int .i64 l]
  arr : Blk wx (w.heap.size + 1 + 1) 94 (vals .u8 (cont A (List.replicate 512 0)))
  res : Blk wx (w.heap.size + 1) 94 (vals .u8 (List.replicate 512 0))
  same : Same w wx
  sz : w.heap.size + 3 ≤ wx.heap.size
theorem SecS.next {w wx wy : World} {s e c l : Int} {A A' : List Int} (h : SecS w wx s e c l A) (hk : Kept (fun b => b = w.heap.size + 1 + 1) wx wy) (hb : Blk wy (w.heap.size + 1 + 1) 94 (vals .u8 (cont A' (List.replicate 512 0)))) : SecS w wy s e c l A' :=
  ⟨h.box.kept hk (by omega), hb, h.res.kept hk (by omega), h.same.next hk (fun i hi e => by omega), Nat.le_trans h.sz hk.size⟩
theorem SecS.on {w wx wy : World} {s e c l : Int} {A : List Int} (h : SecS w wx s e c l A) (hk : Same wx wy) : SecS w wy s e c l A :=
  ⟨h.box.same hk, h.arr.same hk, h.res.same hk, h.same.trans hk, Nat.le_trans h.sz hk.size⟩
theorem zeroSec : Tryd.zeroCells94.toList = vals .u8 (List.replicate 512 0) := by kernel_rfl
theorem sec_info : (Tryd.prog.info? 94).map (·.size) = some 512 := by kernel_rfl
theorem size8 : ∀ w, (Go.sizeOf 5).run Tryd.prog w = .ok 1 w := by
  intro w
  kernel_rfl
theorem masterSector_any (s e c l : Int) (w : World) (hg : mF s e c l = 0) :
    Calls Tryd.prog 59 #[.agg #[.int .i64 s, .int .i64 e, .int .i64 c, .int .i64 l]] w fun ex w' => ex = .returned (.agg (vals .u8 (mB s e c l)).toArray) ∧ Same w w' := by
  obtain ⟨⟨hs1, hs2⟩, ⟨he1, he2⟩, hl1, hl2, hc2⟩ := mF_good hg
  clear hg
  have hr512 : (List.replicate 512 (0 : Int)).length = 512 := List.length_replicate
  obtain ⟨W0, hW0⟩ : ∃ W0, ((w.alloc (.cells #[.int .i64 s, .int .i64 e, .int .i64 c, .int .i64 l] 28)).alloc (.cells Tryd.zeroCells94 94)).alloc (.cells Tryd.zeroCells94 94) = W0 := ⟨_, rfl⟩
  have HS0 := (show Hid (SecS w W0 s e c l []) from by
    rw [← hW0]
    have h2 := Blk.new (w.alloc (.cells #[.int .i64 s, .int .i64 e, .int .i64 c, .int .i64 l] 28)) Tryd.zeroCells94 94
    have h3 := Blk.new ((w.alloc (.cells #[.int .i64 s, .int .i64 e, .int .i64 c, .int .i64 l] 28)).alloc (.cells Tryd.zeroCells94 94)) Tryd.zeroCells94 94
    rw [World.size_alloc] at h2
    rw [World.size_alloc, World.size_alloc] at h3
    rw [zeroSec] at h2 h3
    have k1 : Same w (w.alloc (.cells #[.int .i64 s, .int .i64 e, .int .i64 c, .int .i64 l] 28)) := (Kept.refl _ _).alloc _
    refine ⟨((Blk.new w #[.int .i64 s, .int .i64 e, .int .i64 c, .int .i64 l] 28).same ((Kept.refl _ _).alloc _)).same ((Kept.refl _ _).alloc _), by rw [cont_nil]; exact h3, h2.same ((Kept.refl _ _).alloc _), (k1.alloc _).alloc _, by simp [World.size_alloc]⟩)
  have hcp := run_copy_string (P := Tryd.prog) W0 22 9 3 5 (w.heap.size + 1 + 1) 0 512 512 { data := #[104, 101, 97, 112] } Tryd.underlying22 size8 (by decide)
    (fun j hj => by rw [HS0.out.arr.cell, List.getElem?_eq_getElem (by rw [vals_length, cont_length _ _ (by simp), hr512]; have : j < 4 := hj; omega)]; rfl) (fun j _ => HS0.out.arr.frozen _)
  obtain ⟨w1, hw1⟩ : ∃ w1, W0.setCells (w.heap.size + 1 + 1) 0 (vals .u8 hp4) = w1 := ⟨_, rfl⟩
  have hcp : (Builtin.copy_ #[22, 9] 3 #[.slice (some ⟨w.heap.size + 1 + 1, 0, none⟩) 512 512, .string { data := #[104, 101, 97, 112] }]).run Tryd.prog W0 = .ok (.int .i64 4) w1 := by rw [← hw1]; exact hcp
  have HE1 := (show Hid (SecS w w1 s e c l ([] ++ hp4)) from by
    have hb := HS0.out.arr.setCells (vals .u8 hp4) 0 (by rw [vals_length, vals_length, cont_length _ _ (by simp), hr512]; decide)
    have hk := Kept.setCells (R := fun b => b = w.heap.size + 1 + 1) (a := W0) (B := w.heap.size + 1 + 1) (.inr rfl) (vals .u8 hp4) 0 (Kept.refl _ _)
    rw [hw1] at hb hk
    exact HS0.out.next hk (Blk.more 0 hp4 hb rfl (by rw [hr512]; decide)))
  clear hw1 HS0
  rw [← hW0] at hcp
  clear hW0
  go_enter Tryd.func59, Tryd.ntmps59
  go_wp2_with fail
  clear hcp
  have hE := HE1.out.on (Kept.refl _ _).drew
  have hS : (fun wx : World => wx.cell? ⟨w.heap.size, 0, none⟩ = some (.int .i64 s)) w1.drew := by exact hE.box.cell 0
  refine wp_region_V (fun wx : World => wx.cell? ⟨w.heap.size, 0, none⟩ = some (.int .i64 s)) 99 4 rfl (by kernel_rfl) ?_
  refine tk 0 6 hS ?_
  refine tk 1 7 hS ?_
  refine tk 2 8 hS ?_
  refine wpAnyV_one (i := 3) (by kernel_rfl) rfl (fun K hK => ?_)
  go_simp
  have hc := write_sec 4 8 508 s hE.arr (by simp [hp4, lows_length]) (by rw [hr512]; decide) hr512 (by omega) (by omega)
  with_reducible refine hc.mono ?_
  rintro ex w2 ⟨rfl, hb, hk⟩
  have HE2 := (show Hid (SecS w w2 s e c l ([] ++ hp4 ++ lows s 8)) from hE.next hk hb)
  have hS2 : (fun wx : World => wx.cell? ⟨w.heap.size, 0, none⟩ = some (.int .i64 s)) w2 := HE2.out.box.cell 0
  clear hb hk hE hc hS
  refine hK.out _ _ (fun _ => hS2) ?_
  clear hK K hS2 HE1
  refine wpAnyV_done (by kernel_rfl) ?_
  try simp only [Act.put, sA, s0, sS]
  go_wp2_with fail
  have hE := HE2.out.on (Kept.refl _ _).drew
  have hS : (fun wx : World => wx.cell? ⟨w.heap.size, 1, none⟩ = some (.int .i64 e)) w2.drew := by exact hE.box.cell 1
  refine wp_region_V (fun wx : World => wx.cell? ⟨w.heap.size, 1, none⟩ = some (.int .i64 e)) 99 4 rfl (by kernel_rfl) ?_
  refine tk 0 10 hS ?_
  refine tk 1 11 hS ?_
  refine tk 2 12 hS ?_
  refine wpAnyV_one (i := 3) (by kernel_rfl) rfl (fun K hK => ?_)
  go_simp
  have hc := write_sec 12 4 500 e hE.arr (by simp [hp4, lows_length]) (by rw [hr512]; decide) hr512 (by omega) (by omega)
  with_reducible refine hc.mono ?_
  rintro ex w3 ⟨rfl, hb, hk⟩
  have HE3 := (show Hid (SecS w w3 s e c l ([] ++ hp4 ++ lows s 8 ++ lows e 4)) from hE.next hk hb)
  have hS2 : (fun wx : World => wx.cell? ⟨w.heap.size, 1, none⟩ = some (.int .i64 e)) w3 := HE3.out.box.cell 1
  clear hb hk hE hc hS
  refine hK.out _ _ (fun _ => hS2) ?_
  clear hK K hS2 HE2
  refine wpAnyV_done (by kernel_rfl) ?_
  try simp only [Act.put, sA, s0, sS]
  go_wp2_with fail
  have hE := HE3.out.on (Kept.refl _ _).drew
  have hS : (fun wx : World => wx.cell? ⟨w.heap.size, 2, none⟩ = some (.int .i64 c)) w3.drew := by exact hE.box.cell 2
  refine wp_region_V (fun wx : World => wx.cell? ⟨w.heap.size, 2, none⟩ = some (.int .i64 c)) 99 4 rfl (by kernel_rfl) ?_
  refine tk 0 14 hS ?_
  refine tk 1 15 hS ?_
  refine tk 2 16 hS ?_
  refine wpAnyV_one (i := 3) (by kernel_rfl) rfl (fun K hK => ?_)
  go_simp
  have hc := write_sec 16 8 496 c hE.arr (by simp [hp4, lows_length]) (by rw [hr512]; decide) hr512 (by omega) (by omega)
  with_reducible refine hc.mono ?_
  rintro ex w4 ⟨rfl, hb, hk⟩
  have HE4 := (show Hid (SecS w w4 s e c l ([] ++ hp4 ++ lows s 8 ++ lows e 4 ++ lows c 8)) from hE.next hk hb)
  have hS2 : (fun wx : World => wx.cell? ⟨w.heap.size, 2, none⟩ = some (.int .i64 c)) w4 := HE4.out.box.cell 2
  clear hb hk hE hc hS
  refine hK.out _ _ (fun _ => hS2) ?_
  clear hK K hS2 HE3
  refine wpAnyV_done (by kernel_rfl) ?_
  try simp only [Act.put, sA, s0, sS]
  go_wp2_with fail
  have hE := HE4.out.on (Kept.refl _ _).drew
  have hS : (fun wx : World => wx.cell? ⟨w.heap.size, 3, none⟩ = some (.int .i64 l)) w4.drew := by exact hE.box.cell 3
  refine wp_region_V (fun wx : World => wx.cell? ⟨w.heap.size, 3, none⟩ = some (.int .i64 l)) 99 4 rfl (by kernel_rfl) ?_
  refine tk 0 18 hS ?_
  refine tk 1 19 hS ?_
  refine tk 2 20 hS ?_
  refine wpAnyV_one (i := 3) (by kernel_rfl) rfl (fun K hK => ?_)
  go_simp
  have hc := write_sec 24 8 488 l hE.arr (by simp [hp4, lows_length]) (by rw [hr512]; decide) hr512 (by omega) (by omega)
  with_reducible refine hc.mono ?_
  rintro ex w5 ⟨rfl, hb, hk⟩
  have HE5 := (show Hid (SecS w w5 s e c l ([] ++ hp4 ++ lows s 8 ++ lows e 4 ++ lows c 8 ++ lows l 8)) from hE.next hk hb)
  have hS2 : (fun wx : World => wx.cell? ⟨w.heap.size, 3, none⟩ = some (.int .i64 l)) w5 := HE5.out.box.cell 3
  clear hb hk hE hc hS
  refine hK.out _ _ (fun _ => hS2) ?_
  clear hK K hS2 HE4
  refine wpAnyV_done (by kernel_rfl) ?_
  try simp only [Act.put, sA, s0, sS]
  go_wp2_with fail
  have hE0 := HE5.out
  rw [show [] ++ hp4 ++ lows s 8 ++ lows e 4 ++ lows c 8 ++ lows l 8 = mH s e c l from rfl] at hE0
  have HE := (show Hid (SecS w w5 s e c l (mH s e c l)) from hE0)
  clear hE0 HE5
  have hE := HE.out.on (Kept.refl _ _).drew
  have hS : (fun wx : World => True) w5.drew := by trivial
  refine wp_region_V (fun wx : World => True) 99 4 rfl (by kernel_rfl) ?_
  refine tk 0 22 hS ?_
  refine tk 1 23 hS ?_
  refine wpAnyV_one (i := 2) (by kernel_rfl) rfl (fun K hK => ?_)
  go_simp
  have hrd : Rd .u8 w5.drew (.slice (some ⟨w.heap.size + 1 + 1, 0, none⟩) 32 512) (mH s e c l) := by
    have h := Blk.rd hE.arr 0 32 512 (by rw [cont_length _ _ (by rw [mH_length, hr512]; decide), hr512]; decide) (by decide) (by rw [cont_length _ _ (by rw [mH_length, hr512]; decide), hr512]; decide)
    rw [show ((cont (mH s e c l) (List.replicate 512 0)).drop 0).take 32 = mH s e c l from by rw [List.drop_zero]; unfold cont; rw [List.take_append_of_le_length (by rw [mH_length]; decide), List.take_of_length_le (by rw [mH_length]; decide)]] at h
    exact h
  have hc := implCrc_any _ _ _ (mH_isB s e c l) (by rw [mH_length]; decide) hrd
  with_reducible refine hc.mono ?_
  rintro ex w6 ⟨rfl, hk⟩
  have HE6 := (show Hid (SecS w w6 s e c l (mH s e c l)) from hE.on hk)
  clear hk hE hc hrd
  refine hK.out _ _ (fun _ => trivial) ?_
  clear hK K
  try simp only [Act.put, sA, s0, sS]
  refine wpAnyV_one (i := 3) (by kernel_rfl) rfl (fun K hK => ?_)
  go_simp
  have hq := crcOn_le 0 (mH s e c l) (by decide) (by decide) (mH_isB s e c l)
  have hc := write_sec 32 4 480 (crcOn 0 (mH s e c l)) HE6.out.arr (by rw [mH_length]) (by rw [hr512]; decide) hr512 hq.1 (by omega)
  with_reducible refine hc.mono ?_
  rintro ex w7 ⟨rfl, hb, hk⟩
  have hE7 := HE6.out.next hk hb
  rw [show (SecS w w7 s e c l (mH s e c l ++ lows (crcOn 0 (mH s e c l)) 4)) = SecS w w7 s e c l (mH s e c l ++ lows (crcOn 0 (mH s e c l)) 4) from rfl] at hE7
  have hb7 := hE7.arr
  rw [cont_mB] at hb7
  have hr7 := hE7.res
  have hk7 := hE7.same
  have hz7 := hE7.sz
  clear hb hk hE7 hc HE6
  refine hK.out _ _ (fun _ => trivial) ?_
  clear hK K hS HE
  refine wpAnyV_done (by kernel_rfl) ?_
  try simp only [Act.put, sA, s0, sS]
  have hlen : (vals .u8 (mB s e c l)).length = 512 := by rw [vals_length, mB_length]
  obtain ⟨cs, hcs⟩ : ∃ cs : List Value, vals .u8 (mB s e c l) = cs := ⟨_, rfl⟩
  have HONE := (show Hid (cs.toArray.all (·.oneCell') = true) from by rw [← hcs]; exact all_oneCell_toArray vals_one)
  have HRG := (show Hid (w7.rangeAt (w.heap.size + 1 + 1) 0 cs) from by rw [← hcs]; exact hb7.rangeAll)
  have HI := (show Hid ((Tryd.prog.info? 94).map (·.size) = some cs.length) from by rw [← hcs, hlen]; exact sec_info)
  have HI2 := (show Hid ((Tryd.prog.info? 94).map (·.size) = some cs.toArray.size) from by rw [List.size_toArray]; exact HI.out)
  have HT := (show Hid (w7.there (w.heap.size + 1) 0 cs.toArray.size) from hr7.there 0 _ (by rw [List.size_toArray, ← hcs, hlen, vals_length, hr512]; decide))
  have HB := (show Hid (Blk (w7.setCells (w.heap.size + 1) 0 cs) (w.heap.size + 1) 94 cs) from by
    have h := hr7.setCells cs 0 (by rw [← hcs, hlen, vals_length, hr512]; decide)
    rwa [lay_all _ _ (by rw [← hcs, hlen, vals_length, hr512])] at h)
  have HKE := (show Hid (Same w (w7.setCells (w.heap.size + 1) 0 cs)) from Kept.setCells (.inl (Nat.le_succ _)) cs 0 hk7)
  have HCS := (show Hid (vals .u8 (mB s e c l) = cs) from hcs)
  clear hcs hlen hb7 hr7
  go_wp2_with (first | (refine wpList_load_mid rfl 94 _ rfl (w.heap.size + 1 + 1) 0 rfl cs _ HRG.out Tryd.underlying94 rfl HI.out ?_) | (refine wpList_store_mid rfl 94 _ _ rfl (w.heap.size + 1) 0 cs.toArray rfl rfl HT.out HI2.out HONE.out ?_))
  have HRG2 := HB.out.rangeAll
  have hlv := run_loadVar_mid (P := Tryd.prog) _ (w.heap.size + 1) 0 94 cs _ HRG2 Tryd.underlying94 rfl HI.out
  refine bodyPost_ret (v := .agg cs.toArray) ?_ rfl ?_
  · try simp only [Act.put, List.setIfInBounds_toArray, List.set_cons_zero, List.set_cons_succ]
    simp [results, Tryd.results59, asAddr, hlv]
  · rw [HCS.out]
    exact ⟨rfl, HKE.out⟩
theorem encM_length (s e c l : Int) : (encM s e c l).length ≤ 512 := by
  unfold encM
  split
  · rw [mB_length]; decide
  · simp
theorem encM_yes {s e c l : Int} (h : mF s e c l = 0) : encM s e c l = mB s e c l := if_pos h
theorem encM_no {s e c l : Int} (h : mF s e c l ≠ 0) : encM s e c l = [] := if_neg h
theorem errV_no {a0 a1 a2 : Addr} {s e c l : Int} (h : mF s e c l ≠ 0) : ∃ a, errV a0 a1 a2 (mF s e c l) = .iface 179 (.pointer (some a)) := by
  rcases mF_cases s e c l with h0 | h0 | h0 | h0
  · exact absurd h0 h
  · rw [h0]; exact ⟨a0, rfl⟩
  · rw [h0]; exact ⟨a1, rfl⟩
  · rw [h0]; exact ⟨a2, rfl⟩
theorem implEM_any (s e c l : Int) (a0 a1 a2 : Addr) (w : World) (hE : Errs w a0 a1 a2) :
    Calls Tryd.prog 26 #[.agg #[.int .i64 s, .int .i64 e, .int .i64 c, .int .i64 l]] w fun ex w' => ∃ a c', ex = .returned (.slice a (encM s e c l).length c') ∧ (∀ b, (Value.slice a (encM s e c l).length c').ownBlock = some b → w.heap.size ≤ b) ∧
      Own 0 94 .u8 w' (.slice a (encM s e c l).length c') (encM s e c l) ∧ Same w w' := by
  have HK0 := hid (sameA w [.int .i64 s, .int .i64 e, .int .i64 c, .int .i64 l] 28)
  have k1 := wrongMaster_any s e c l a0 a1 a2 _ (hE.same HK0.out)
  clear hE
  have b0 := Blk.new w #[.int .i64 s, .int .i64 e, .int .i64 c, .int .i64 l] 28
  by_cases hg : mF s e c l = 0
  · rw [hg, show errV a0 a1 a2 0 = .nilIface from rfl] at k1
    rw [encM_yes hg, mB_length]
    have k2 := fun wx => masterSector_any s e c l wx hg
    have hsz : (vals .u8 (mB s e c l)).toArray.size = 512 := by rw [List.size_toArray, vals_length, mB_length]
    obtain ⟨cs, hcs⟩ : ∃ cs : Array Value, (vals .u8 (mB s e c l)).toArray = cs := ⟨_, rfl⟩
    have HCS := (show Hid ((vals .u8 (mB s e c l)).toArray = cs) from hcs)
    have HONE := (show Hid (cs.all (·.oneCell') = true) from by rw [← hcs]; exact all_oneCell_toArray vals_one)
    rw [hcs] at k2 hsz
    clear hcs hg
    go_enter Tryd.func26, Tryd.ntmps26
    go_wp2_with (first
      | (go_at_call 58; (with_reducible refine k1.mono ?_); rintro ex w1 ⟨rfl, hk1⟩; have b1 := b0.same hk1; obtain ⟨d0, d1, d2, d3⟩ := b1.all4; have HK1 := (show Hid (Same w w1) from HK0.out.trans hk1); clear hk1)
      | (go_at_call 59; (with_reducible refine (k2 _).mono ?_); rintro ex w2 ⟨rfl, hk2⟩; have HK2 := (show Hid (Same w w2) from HK1.out.trans hk2); clear hk2; have hst := run_storeCells_new (P := Tryd.prog) w2 94 Tryd.zeroCells94 cs (by rw [hsz]; exact sec_info) (by rw [hsz]; exact Tryd.zeroCells94_size) HONE.out))
    go_ret
    have hb := Blk.new w2 cs 94
    rw [← HCS.out] at hb
    refine ⟨_, _, rfl, ?_, ?_, HK2.out.alloc _⟩
    · intro b hb'
      have : w2.heap.size = b := by simpa [Value.ownBlock] using hb'
      have := HK2.out.size
      omega
    · rw [← HCS.out]
      have h2 : Blk (w2.alloc (.cells (vals .u8 (mB s e c l)).toArray 94)) w2.heap.size 94 (vals .u8 (mB s e c l)) := hb
      have h3 := Blk.own h2 (by rw [mB_length]; decide)
      rwa [mB_length] at h3
  · obtain ⟨a, ha⟩ := errV_no (a0 := a0) (a1 := a1) (a2 := a2) hg
    rw [ha] at k1
    rw [encM_no hg]
    go_enter Tryd.func26, Tryd.ntmps26
    go_wp2_with (first
      | (go_at_call 58; (with_reducible refine k1.mono ?_); rintro ex w1 ⟨rfl, hk1⟩; have HK1 := (show Hid (Same w w1) from HK0.out.trans hk1); clear hk1))
    go_ret
    exact ⟨none, 0, rfl, fun b hb => by simp [Value.ownBlock] at hb, Own.nil _ _ _ _, HK1.out⟩
end Go.Proofs.YtnkollbhicmdhaaDoor

namespace Go.Proofs.YtnkollbhicmdhaaDoor
set_option maxHeartbeats 400000
open Go.RowKit
theorem l1Copy_any (v : Value) (bs : List Int) (w : World) (hn : bs.length ≤ 1099511627776) (hv : Rd .u8 w v bs) :
    Calls Tryd.prog 87 #[v] w fun e w' => ∃ a n c, e = .returned (.slice a n c) ∧ Own 0 5 .u8 w' (.slice a n c) bs ∧ (∀ b, (Value.slice a n c).ownBlock = some b → w.heap.size ≤ b) ∧ Same w w' := by
  obtain ⟨i0, hi, hz0, hz1, hz2⟩ := info_parts Tryd.infoByte'
  rcases hv.2 with ⟨rfl, a, c, rfl, hac⟩ | ⟨b, off, c, rfl, _, hc⟩
  · cases a with
    | none =>
      obtain rfl : c = 0 := hac rfl
      clear hv hn hac
      go_enter Tryd.func87, Tryd.ntmps87
      go_wp2_with (at_builtin; refine wpList_append_own_none rfl (.tmp 3) (.tmp 4) 22 rfl w.heap.size 5 i0 1 Tryd.underlying22 hi _ 0 [] rfl (World.ownsRow_made w #[] 0 (Nat.le_refl _) (by simp) (by simp)) rfl ?_)
      go_ret
      exact ⟨_, _, _, rfl, (World.ownsRow_made w #[] 0 (Nat.zero_le _) (by simp) (by simp)), fun b hb => by simp [Value.ownBlock] at hb; omega, (Kept.refl _ _).alloc _⟩
    | some ad =>
      clear hv hn hac
      go_enter Tryd.func87, Tryd.ntmps87
      go_wp2_with (at_builtin; refine wpList_append_own _ rfl (.tmp 3) (.tmp 4) 22 rfl w.heap.size 5 i0 (.int .u8 0) 1 1 Tryd.underlying22 hi hz0 hz1 hz2 rfl (by decide) (.slice (some ⟨w.heap.size, 0, none⟩) 0 0) 0 [] rfl (World.ownsRow_made w #[] 0 (Nat.le_refl _) (by simp) (by simp)) ad 0 c [] rfl rfl (fun j u h => by simp at h) (fun u h => by simp at h) (by simp) (by simp) (by simp) ?_; intro v' w1 hown1 hgrow1 _; have HF := (show Hid (Own w.heap.size 5 .u8 w1 v' []) from hown1); have HK : Hid (Same w w1) := ((Kept.refl _ _).alloc _).grown hgrow1 (fun k e => .inl (by simp [Value.ownBlock] at e; omega)); obtain ⟨aa, na, ca, rfl⟩ := slice_of_own HF.out; clear hown1 hgrow1)
      go_ret
      exact ⟨_, _, _, rfl, HF.out.mono (fun b _ => Nat.zero_le b), fun b hb => (HF.out.lt b hb).1, HK.out⟩
  · have HC : Hid (∀ i, i < bs.length → (w.alloc (.cells #[] 5)).cell? ⟨b, off + i, none⟩ = some (.int .u8 (bs.getD i 0))) := fun i hi => ((Kept.refl (fun _ => False) w).alloc _).cellOf (hc i hi) id
    clear hv hc
    go_enter Tryd.func87, Tryd.ntmps87
    go_wp2_with (at_builtin; refine wpList_append_own _ rfl (.tmp 3) (.tmp 4) 22 rfl w.heap.size 5 i0 (.int .u8 0) 1 1 Tryd.underlying22 hi hz0 hz1 hz2 rfl (by decide) (.slice (some ⟨w.heap.size, 0, none⟩) 0 0) 0 [] rfl (World.ownsRow_made w #[] 0 (Nat.le_refl _) (by simp) (by simp)) ⟨b, off, none⟩ bs.length c (vals .u8 bs) rfl (by simp [vals_length]) (news_of HC.out) vals_one (by unfold maxLen; omega) (by omega) (by simp) ?_; intro v' w1 hown1 hgrow1 _; have HF := (show Hid (Own w.heap.size 5 .u8 w1 v' bs) from (by simpa [Own, Hid] using hown1)); have HK : Hid (Same w w1) := ((Kept.refl _ _).alloc _).grown hgrow1 (fun k e => .inl (by simp [Value.ownBlock] at e; omega)); obtain ⟨aa, na, ca, rfl⟩ := slice_of_own HF.out; clear hown1 hgrow1)
    go_ret
    exact ⟨_, _, _, rfl, HF.out.mono (fun b _ => Nat.zero_le b), fun b hb => (HF.out.lt b hb).1, HK.out⟩
theorem clone_any (v : Value) (bs : List Int) (w : World) (hn : bs.length ≤ 1099511627776) (hv : Rd .u8 w v bs) :
    Calls Tryd.prog 68 #[v] w fun e w' => ∃ a n c, e = .returned (.slice a n c) ∧ Own 0 5 .u8 w' (.slice a n c) bs ∧ (∀ b, (Value.slice a n c).ownBlock = some b → w.heap.size ≤ b) ∧ Same w w' := by
  obtain ⟨i0, hi, hz0, hz1, hz2⟩ := info_parts Tryd.infoByte'
  have hnil := fun (wx : World) (a : Option Addr) (n c : Nat) => Lib.run_eql_slice_nil (P := Tryd.prog) wx 22 5 a n c 0 0 Tryd.underlying22
  rcases hv.2 with ⟨rfl, a, c, rfl, hac⟩ | ⟨b, off, c, rfl, _, hc⟩
  · cases a with
    | none =>
      obtain rfl : c = 0 := hac rfl
      clear hv hn hac
      go_enter Tryd.func68, Tryd.ntmps68
      go_wp2
      go_ret
      exact ⟨_, _, _, rfl, Own.nil _ _ _ _, fun b hb => by simp [Value.ownBlock] at hb, Kept.refl _ _⟩
    | some ad =>
      clear hv hn hac
      go_enter Tryd.func68, Tryd.ntmps68
      go_wp2_with (at_builtin; refine wpList_append_own _ rfl (.tmp 5) (.tmp 6) 22 rfl w.heap.size 5 i0 (.int .u8 0) 1 1 Tryd.underlying22 hi hz0 hz1 hz2 rfl (by decide) (.slice (some ⟨w.heap.size, 0, none⟩) 0 0) 0 [] rfl (World.ownsRow_made w #[] 0 (Nat.le_refl _) (by simp) (by simp)) ad 0 c [] rfl rfl (fun j u h => by simp at h) (fun u h => by simp at h) (by simp) (by simp) (by simp) ?_; intro v' w1 hown1 hgrow1 _; have HF := (show Hid (Own w.heap.size 5 .u8 w1 v' []) from hown1); have HK : Hid (Same w w1) := ((Kept.refl _ _).alloc _).grown hgrow1 (fun k e => .inl (by simp [Value.ownBlock] at e; omega)); obtain ⟨aa, na, ca, rfl⟩ := slice_of_own HF.out; clear hown1 hgrow1)
      go_ret
      exact ⟨_, _, _, rfl, HF.out.mono (fun b _ => Nat.zero_le b), fun b hb => (HF.out.lt b hb).1, HK.out⟩
  · have HC : Hid (∀ i, i < bs.length → (w.alloc (.cells #[] 5)).cell? ⟨b, off + i, none⟩ = some (.int .u8 (bs.getD i 0))) := fun i hi => ((Kept.refl (fun _ => False) w).alloc _).cellOf (hc i hi) id
    clear hv hc
    go_enter Tryd.func68, Tryd.ntmps68
    go_wp2_with (at_builtin; refine wpList_append_own _ rfl (.tmp 5) (.tmp 6) 22 rfl w.heap.size 5 i0 (.int .u8 0) 1 1 Tryd.underlying22 hi hz0 hz1 hz2 rfl (by decide) (.slice (some ⟨w.heap.size, 0, none⟩) 0 0) 0 [] rfl (World.ownsRow_made w #[] 0 (Nat.le_refl _) (by simp) (by simp)) ⟨b, off, none⟩ bs.length c (vals .u8 bs) rfl (by simp [vals_length]) (news_of HC.out) vals_one (by unfold maxLen; omega) (by omega) (by simp) ?_; intro v' w1 hown1 hgrow1 _; have HF := (show Hid (Own w.heap.size 5 .u8 w1 v' bs) from (by simpa [Own, Hid] using hown1)); have HK : Hid (Same w w1) := ((Kept.refl _ _).alloc _).grown hgrow1 (fun k e => .inl (by simp [Value.ownBlock] at e; omega)); obtain ⟨aa, na, ca, rfl⟩ := slice_of_own HF.out; clear hown1 hgrow1)
    go_ret
    exact ⟨_, _, _, rfl, HF.out.mono (fun b _ => Nat.zero_le b), fun b hb => (HF.out.lt b hb).1, HK.out⟩
end Go.Proofs.YtnkollbhicmdhaaDoor
