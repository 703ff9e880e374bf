import Derived.Test.YtepdakgfioffgaaGreatG01
import Derived.Test.YtepdakgfioffgaaGreatG04
import Derived.Test.YtepdakgfioffgaaGreatG00
import Derived.Laws.BitsLemmas
import Derived.Laws.Bits64
import Derived.Deep.MidRow
import Derived.Deep.WholeRow
import Derived.Deep.AppendLies
import Derived.Great.BuildSlice
namespace Go.Proofs.YtepdakgfioffgaaGreat
set_option maxRecDepth 100000
set_option maxHeartbeats 16000000
set_option linter.unusedVariables false
set_option linter.unusedSimpArgs false
open Go.RowKit
def num (bs : List Int) : Int := bs.foldl (fun v b => v * 256 + b) 0
theorem num_snoc (bs : List Int) (b : Int) : num (bs ++ [b]) = num bs * 256 + b := by simp [num, List.foldl_append]
theorem num_take (bs : List Int) (k : Nat) (h : k < bs.length) : num (bs.take (k + 1)) = num (bs.take k) * 256 + bs.getD k 0 := by
 rw [List.take_succ_eq_append_getElem h, num_snoc]
 simp [h]
theorem num_bound (bs : List Int) (hb : IsB bs) (k : Nat) (h : k ≤ bs.length) : 0 ≤ num (bs.take k) ∧ num (bs.take k) < 256 ^ k := by
 induction k with
 | zero => simp [num]
 | succ k ih =>
  have h1 := ih (by omega)
  have h2 := hb.at k (by omega)
  rw [num_take bs k (by omega), Int.pow_succ]
  omega
theorem num_cons (x : Int) (bs : List Int) : num (x :: bs) = x * 256 ^ bs.length + num bs := by
 have key : ∀ (bs : List Int) (v : Int), bs.foldl (fun v b => v * 256 + b) v = v * 256 ^ bs.length + num bs := fun bs => by
  induction bs with
  | nil => intro v; simp [num]
  | cons y bs ih =>
   intro v
   simp only [List.foldl_cons, num, List.length_cons]
   rw [ih, ih, Int.pow_succ, Int.add_mul, Int.mul_assoc, Int.mul_comm 256, Int.zero_mul, Int.zero_add]
   omega
 have := key bs x
 simpa [num] using this
theorem num_le (bs : List Int) (hb : IsB bs) (k : Nat) (h : k ≤ bs.length) {m : Int} (hm : num bs ≤ m) : num (bs.take k) ≤ m := by
 obtain ⟨d, hd⟩ : ∃ d, bs.length - k = d := ⟨_, rfl⟩
 induction d generalizing k with
 | zero =>
  obtain rfl : k = bs.length := by omega
  rw [List.take_length]
  exact hm
 | succ d ih =>
  have h1 := ih (k + 1) (by omega) (by omega)
  rw [num_take bs k (by omega)] at h1
  have h2 := hb.at k (by omega)
  have h3 := num_bound bs hb k h
  omega
theorem num_lt8 (bs : List Int) (hb : IsB bs) (k : Nat) (h : k ≤ bs.length) (h8 : k ≤ 8) : num (bs.take k) < 18446744073709551616 := by
 have h1 := (num_bound bs hb k h).2
 have h2 : (256 : Int) ^ k ≤ 256 ^ 8 := by
  have : k = 0 ∨ k = 1 ∨ k = 2 ∨ k = 3 ∨ k = 4 ∨ k = 5 ∨ k = 6 ∨ k = 7 ∨ k = 8 := by omega
  rcases this with rfl | rfl | rfl | rfl | rfl | rfl | rfl | rfl | rfl <;> decide
 omega
def getN (bs : List Int) : Int := if bs.length < 1 ∨ 8 < bs.length ∨ 9223372036854775807 < num bs then -1 else num bs
theorem getN_le (bs : List Int) : getN bs ≤ 9223372036854775807 := by
 unfold getN
 split <;> omega
theorem getN_eight (bs : List Int) (hb : IsB bs) (h : bs.length = 8) : (9223372036854775807 < num bs) ↔ 127 < bs.getD 0 0 := by
 match bs, h with
 | x :: bs, h =>
  have hl : bs.length = 7 := by simpa using h
  have h1 := hb x (by simp)
  have h2 := num_bound bs (fun y hy => hb y (by simp [hy])) 7 (by omega)
  rw [← hl, List.take_length, hl] at h2
  rw [num_cons, hl]
  simp only [List.getD_cons_zero]
  omega
theorem getN_few (bs : List Int) (hb : IsB bs) (h : bs.length ≤ 7) : num bs ≤ 9223372036854775807 := by
 have h1 := num_bound bs hb bs.length (Nat.le_refl _)
 rw [List.take_length] at h1
 generalize bs.length = n at h h1
 have h2 : (256 : Int) ^ n ≤ 256 ^ 7 := by
  have : n = 0 ∨ n = 1 ∨ n = 2 ∨ n = 3 ∨ n = 4 ∨ n = 5 ∨ n = 6 ∨ n = 7 := by omega
  rcases this with rfl | rfl | rfl | rfl | rfl | rfl | rfl | rfl <;> decide
 omega
theorem specGet_any (v : Value) (bs : List Int) (w : World) (hb : IsB bs) (hn : bs.length ≤ 1099511627776) (hv : Rd .u8 w v bs) :
  Calls Tryz.prog 89 #[v] w fun e w' => e = .returned (.int .i64 (getN bs)) ∧ Same w w' := by
 by_cases h : bs.length < 1 ∨ 8 < bs.length
 ·obtain ⟨a, c, rfl⟩ := hv.form
  have e : getN bs = -1 := by unfold getN; rw [if_pos (by omega)]
  rw [e]
  clear hv e hb
  rcases h with h | h
  ·go_enter Tryz.func89, Tryz.ntmps89
   go_wp2
   go_ret
   exact ⟨rfl, Kept.refl _ _⟩
  ·go_enter Tryz.func89, Tryz.ntmps89
   go_wp2
   go_ret
   exact ⟨rfl, Kept.refl _ _⟩
 ·rcases hv.2 with ⟨rfl, _⟩ | ⟨b, off, c, rfl, _, hc⟩
  ·simp at h
  have pI := hc 0 (by omega)
  rw [Nat.add_zero] at pI
  have HC : Hid (∀ i, i < bs.length → w.cell? ⟨b, off + i, none⟩ = some (.int .u8 (bs.getD i 0))) := hc
  have HB : Hid (IsB bs) := hb
  clear hc hv hb hn
  generalize hl : bs.length = len at h ⊢
  have HL : Hid (bs.length = len) := hl
  have h1 : 1 ≤ len := by omega
  have h2 : len ≤ 8 := by omega
  clear hl h
  have hx := HB.out.at 0 (by have := HL.out; omega)
  obtain ⟨x, lz⟩ : ∃ x, bs.getD 0 0 = x := ⟨_, rfl⟩
  have HX : Hid (bs.getD 0 0 = x) := lz
  rw [lz] at pI hx
  clear lz
  obtain ⟨G, hG⟩ : ∃ G, getN bs = G := ⟨_, rfl⟩
  have AK : Hid (getN bs = G) := hG
  rw [hG]
  clear hG
  by_cases h8 : len = 8
  ·by_cases h127 : 127 < x
   ·have e : getN bs = -1 := by unfold getN; rw [if_pos]; right; right; exact (getN_eight bs HB.out (by rw [HL.out]; exact h8)).2 (by rw [HX.out]; exact h127)
    rw [AK.out] at e
    subst e
    subst h8
    go_enter Tryz.func89, Tryz.ntmps89
    go_wp2
    go_ret
    exact ⟨rfl, Kept.refl _ _⟩
   ·have mU : Hid (len ≤ 7 ∨ len = 8 ∧ x ≤ 127) := Or.inr ⟨h8, by omega⟩
    subst h8
    go_enter Tryz.func89, Tryz.ntmps89
    go_wp2
    go_loopw [3, 4] (fun y i wr => ∃ (k : Nat), k ≤ 8 ∧ y = .int .i64 (num (bs.take k)) ∧ i = .int .i64 k ∧ wr = w) (fun _ i _ => 8 - (intOf i).toNat)
    case atStart => exact ⟨0, Nat.zero_le _, by simp [num], by simp, rfl⟩
    case round =>
     obtain ⟨k, hk, rfl, rfl, rfl⟩ := hrel
     have hg : getN bs = num bs := by
      unfold getN
      rw [if_neg]
      have hl := HL.out
      rcases mU.out with h | h
      ·have := getN_few bs HB.out (by omega)
       omega
      ·have := getN_eight bs HB.out (by omega)
       rw [HX.out] at this
       omega
     have HG : Hid (getN bs = num bs) := hg
     clear hg
     by_cases dh : k < 8
     ·have gV : k < bs.length := by rw [HL.out]; exact dh
      have q1 := HC.out k gV
      have fx := num_bound bs HB.out k (by omega)
      have fW := HB.out.at k gV
      have ri : num (bs.take k) * 256 + bs.getD k 0 ≤ 9223372036854775807 := by
       have e := num_take bs k gV
       rw [← e]
       exact num_le bs HB.out (k + 1) (by omega) (by have := HG.out; have h9 := getN_le bs; omega)
      have HS : Hid (num (bs.take (k + 1)) = num (bs.take k) * 256 + bs.getD k 0) := num_take bs k gV
      generalize num (bs.take k) = y at *
      generalize bs.getD k 0 = z at *
      obtain ⟨nZ, _⟩ := fx
      clear pI
      go_wp2
      go_roundw
      case rel => exact ⟨k + 1, by omega, by rw [HS.out], by go_num, by first | rfl | trivial⟩
      case measure => simp [intOf]; omega
     ·have As : k = 8 := by omega
      have he : num (bs.take k) = G := by rw [← AK.out, HG.out, As, ← HL.out, List.take_length]
      rw [he]
      clear pI
      go_wp2
      go_ret
      exact ⟨rfl, Kept.refl _ _⟩
  ·have mU : Hid (len ≤ 7 ∨ len = 8 ∧ x ≤ 127) := Or.inl (by omega)
   go_enter Tryz.func89, Tryz.ntmps89
   go_wp2
   go_loopw [3, 4] (fun y i wr => ∃ (k : Nat), k ≤ len ∧ y = .int .i64 (num (bs.take k)) ∧ i = .int .i64 k ∧ wr = w) (fun _ i _ => len - (intOf i).toNat)
   case atStart => exact ⟨0, Nat.zero_le _, by simp [num], by simp, rfl⟩
   case round =>
    obtain ⟨k, hk, rfl, rfl, rfl⟩ := hrel
    have hg : getN bs = num bs := by
     unfold getN
     rw [if_neg]
     have hl := HL.out
     rcases mU.out with h | h
     ·have := getN_few bs HB.out (by omega)
      omega
     ·have := getN_eight bs HB.out (by omega)
      rw [HX.out] at this
      omega
    have HG : Hid (getN bs = num bs) := hg
    clear hg
    by_cases dh : k < len
    ·have gV : k < bs.length := by rw [HL.out]; exact dh
     have q1 := HC.out k gV
     have fx := num_bound bs HB.out k (by omega)
     have fW := HB.out.at k gV
     have ri : num (bs.take k) * 256 + bs.getD k 0 ≤ 9223372036854775807 := by
      have e := num_take bs k gV
      rw [← e]
      exact num_le bs HB.out (k + 1) (by omega) (by have := HG.out; have h9 := getN_le bs; omega)
     have HS : Hid (num (bs.take (k + 1)) = num (bs.take k) * 256 + bs.getD k 0) := num_take bs k gV
     generalize num (bs.take k) = y at *
     generalize bs.getD k 0 = z at *
     obtain ⟨nZ, _⟩ := fx
     clear pI
     go_wp2
     go_roundw
     case rel => exact ⟨k + 1, by omega, by rw [HS.out], by go_num, by first | rfl | trivial⟩
     case measure => simp [intOf]; omega
    ·have As : k = len := by omega
     have he : num (bs.take k) = G := by rw [← AK.out, HG.out, As, ← HL.out, List.take_length]
     rw [he]
     clear pI
     go_wp2
     go_ret
     exact ⟨rfl, Kept.refl _ _⟩
theorem implGet_any (v : Value) (bs : List Int) (w : World) (hb : IsB bs) (hn : bs.length ≤ 1099511627776) (hv : Rd .u8 w v bs) :
  Calls Tryz.prog 171 #[v] w fun e w' => e = .returned (.int .i64 (getN bs)) ∧ Same w w' := by
 by_cases h : bs.length < 1 ∨ 8 < bs.length
 ·obtain ⟨a, c, rfl⟩ := hv.form
  have e : getN bs = -1 := by unfold getN; rw [if_pos (by omega)]
  rw [e]
  clear hv e hb
  rcases h with h | h
  ·go_enter Tryz.func171, Tryz.ntmps171
   go_wp2
   go_ret
   exact ⟨rfl, Kept.refl _ _⟩
  ·go_enter Tryz.func171, Tryz.ntmps171
   go_wp2
   go_ret
   exact ⟨rfl, Kept.refl _ _⟩
 ·rcases hv.2 with ⟨rfl, _⟩ | ⟨b, off, c, rfl, _, hc⟩
  ·simp at h
  have HC : Hid (∀ i, i < bs.length → w.cell? ⟨b, off + i, none⟩ = some (.int .u8 (bs.getD i 0))) := hc
  have HB : Hid (IsB bs) := hb
  clear hc hv hb hn
  generalize hl : bs.length = len at h ⊢
  have HL : Hid (bs.length = len) := hl
  have h1 : 1 ≤ len := by omega
  have h2 : len ≤ 8 := by omega
  clear hl h
  obtain ⟨G, hG⟩ : ∃ G, getN bs = G := ⟨_, rfl⟩
  have AK : Hid (getN bs = G) := hG
  rw [hG]
  clear hG
  go_enter Tryz.func171, Tryz.ntmps171
  go_wp2
  go_loopw [3, 5, 16] (fun y _ i wr => ∃ (k : Nat), k ≤ len ∧ y = .int .u64 (num (bs.take k)) ∧ i = .int .i64 k ∧ wr = w) (fun _ _ i _ => len - (intOf i).toNat)
  case atStart => exact ⟨0, Nat.zero_le _, by simp [num], by simp, rfl⟩
  case round =>
   obtain ⟨k, hk, rfl, rfl, rfl⟩ := hrel
   by_cases dh : k < len
   ·have gV : k < bs.length := by rw [HL.out]; exact dh
    have q1 := HC.out k gV
    have fx := num_bound bs HB.out k (by omega)
    have fW := HB.out.at k gV
    have ri : num (bs.take k) * 256 + bs.getD k 0 < 18446744073709551616 := by
     have e := num_take bs k gV
     rw [← e]
     exact num_lt8 bs HB.out (k + 1) (by omega) (by omega)
    have HS : Hid (num (bs.take (k + 1)) = num (bs.take k) * 256 + bs.getD k 0) := num_take bs k gV
    generalize num (bs.take k) = y at *
    generalize bs.getD k 0 = z at *
    obtain ⟨nZ, _⟩ := fx
    have RF : bits .or .u64 (y * 256) z = y * 256 + z := bits_join .u64 64 (by decide) (fun n h0 h1 => by rw [IntKind.wrap_u64]; omega) 8 _ _ (by omega) (by omega) (by omega) (by omega) (by omega) (by omega)
    go_wp2
    go_roundw
    case rel => exact ⟨k + 1, by omega, by rw [HS.out], by go_num, by first | rfl | trivial⟩
    case measure => simp [intOf]; omega
   ·have As : k = len := by omega
    have he : num (bs.take k) = num bs := by rw [As, ← HL.out, List.take_length]
    rw [he]
    have fx := num_lt8 bs HB.out len (by have := HL.out; omega) (by omega)
    have bY := num_bound bs HB.out len (by have := HL.out; omega)
    rw [← As, he] at fx bY
    have HG : Hid (getN bs = if 9223372036854775807 < num bs then -1 else num bs) := by
     have hl := HL.out
     have h0 : ¬ bs.length < 1 := by omega
     have h8 : ¬ 8 < bs.length := by omega
     simp [getN, h0, h8, Hid]
    clear he
    generalize num bs = y at *
    by_cases hm : 9223372036854775807 < y
    ·have e := HG.out
     rw [if_pos hm, AK.out] at e
     go_wp2
     go_ret
     rw [e]
     exact ⟨rfl, Kept.refl _ _⟩
    ·have e := HG.out
     rw [if_neg hm, AK.out] at e
     obtain ⟨nZ, _⟩ := bY
     go_wp2
     go_ret
     exact ⟨rfl, Kept.refl _ _⟩
def le : List Int → Nat
 | [] => 0
 | b :: bs => b.toNat ^^^ 256 * le bs
theorem Rd.mid {k : IntKind} {w : World} {b off c : Nat} {bs : List Int} (h : Rd k w (.slice (some ⟨b, off, none⟩) bs.length c) bs) (o n c' : Nat) (hm : o + n ≤ bs.length) (QW : n ≤ c') : Rd k w (.slice (some ⟨b, off + o, none⟩) n c') ((bs.drop o).take n) := by
 have hl : ((bs.drop o).take n).length = n := by simp; omega
 refine ⟨by rw [hl]; have := h.1; omega, ?_⟩
 by_cases h0 : n = 0
 ·subst h0
  exact .inl ⟨by simp, _, _, rfl, fun e => by cases e⟩
 ·rcases h.2 with ⟨hn, a, c', e, _⟩ | ⟨b', yy, VK, e, Ij, hc⟩
  ·rw [hn] at hm
   simp at hm
   omega
  ·cases e
   refine .inr ⟨b, off + o, c', by rw [hl], by omega, fun i hi => ?_⟩
   have := hc (o + i) (by omega)
   rw [Nat.add_assoc, this]
   simp [List.getD, List.getElem?_take, List.getElem?_drop, show i < n by omega]
theorem l3Number_any (b off len c : Nat) (bs : List Int) (at_ n : Nat) (w : World) (hB : IsB bs) (hl : bs.length = len) (hm : len ≤ 1099511627776) (h1 : 1 ≤ n) (h2 : at_ + n ≤ len) (hv : Rd .u8 w (.slice (some ⟨b, off, none⟩) len c) bs) :
  Calls Tryz.prog 69 #[.slice (some ⟨b, off, none⟩) len c, .int .i64 at_, .int .i64 n] w fun e w' => e = .returned (.int .i64 (getN ((bs.drop at_).take n))) ∧ Same w w' := by
 have hc : len ≤ c := by
  rcases hv.2 with ⟨h0, _⟩ | ⟨b', o', c', e, Ij, hc⟩
  ·rw [h0] at hl
   simp at hl
   omega
  ·cases e
   omega
 have HR := (show Hid (Rd .u8 w (.slice (some ⟨b, off + at_, none⟩) n (c - at_)) ((bs.drop at_).take n)) from (by subst hl; exact hv.mid at_ n (c - at_) h2 (by omega)))
 have HG := (show Hid (Calls Tryz.prog 89 #[.slice (some ⟨b, off + at_, none⟩) n (c - at_)] w fun e w' => e = .returned (.int .i64 (getN ((bs.drop at_).take n))) ∧ Same w w') from specGet_any _ _ w (isB_take (isB_drop hB at_) n) (by simp; omega) HR.out)
 clear hv hB HR
 have q1 : (at_ : Int) ≤ (at_ : Int) + (n : Int) := by omega
 have q2 : (at_ : Int) + (n : Int) ≤ (c : Int) := by omega
 have q3 : (0 : Int) ≤ (at_ : Int) := by omega
 have q4 : at_ < c := by omega
 have q5 : ¬ c = at_ := by omega
 have q6 : ((at_ : Int) + (n : Int)).toNat = at_ + n := by omega
 have q7 : at_ + n - at_ = n := by omega
 go_enter Tryz.func69, Tryz.ntmps69
 go_wp2_with fail
 with_reducible refine HG.out.mono ?_
 rintro e w1 ⟨rfl, bg⟩
 go_wp2
 go_ret
 exact ⟨rfl, bg⟩
theorem Blk.rd {w : World} {B : Nat} {e : TypeId} {bs : List Int} (h : Blk w B e (vals .u8 bs)) (o n c : Nat) (hn : o + n ≤ bs.length) (hc : n ≤ c) (hm : bs.length ≤ maxLen) : Rd .u8 w (.slice (some ⟨B, o, none⟩) n c) ((bs.drop o).take n) := by
 have hl : ((bs.drop o).take n).length = n := by simp; omega
 refine ⟨by omega, .inr ⟨B, o, c, by rw [hl], by omega, fun i hi => ?_⟩⟩
 rw [h.cell, vals_at _ _ _ (by omega)]
 simp [List.getD, List.getElem?_take, show i < n by omega]
theorem run_arrayP (w : World) (ad : Option Addr) (c : Nat) : (Instr.arrayAt 205 (.slice ad 4096 c)).run Tryz.prog w = .ok (.pointer ad) w := by
 simp [Instr.arrayAt, run_underlying Tryz.underlying205]
theorem page_info : (Tryz.prog.info? 205).map (·.size) = some 4096 := by kernel_rfl
theorem rd_range {w : World} {b off c : Nat} {bs : List Int} (h : Rd .u8 w (.slice (some ⟨b, off, none⟩) bs.length c) bs) (hn : 0 < bs.length) : w.rangeAt b off (vals .u8 bs) := fun j v hv => by
 have hj : j < bs.length := by have := (List.getElem?_eq_some_iff.1 hv).1; rwa [vals_length] at this
 rcases h.2 with ⟨h0, _⟩ | ⟨b', o', c', e, _, hc⟩
 ·rw [h0] at hn
  simp at hn
 ·cases e
  rw [hc j hj, ← hv, vals_at _ _ _ hj]
theorem rd_some {w : World} {a : Option Addr} {n c : Nat} {bs : List Int} (h : Rd .u8 w (.slice a n c) bs) (hn : 0 < bs.length) : ∃ b off, a = some ⟨b, off, none⟩ ∧ bs.length ≤ c := by
 rcases h.2 with ⟨h0, _⟩ | ⟨b', o', c', e, hl, hc⟩
 ·rw [h0] at hn
  simp at hn
 ·cases e
  exact ⟨_, _, rfl, hl⟩
def spCells (sum : List Int) (lsn num bot : Int) (sl raw : List Int) : List Value :=
 vals .u8 sum ++ (.int .i64 lsn :: .int .i64 num :: .int .i64 bot :: (vals .i64 sl ++ vals .u8 raw))
structure SP (w : World) (B : Nat) (sum : List Int) (lsn num bot : Int) (sl raw : List Int) : Prop where
 blk : Blk w B 212 (spCells sum lsn num bot sl raw)
 l1 : sum.length = 4
 l2 : sl.length = 64
 l3 : raw.length = 4096
section
variable {w w' : World} {B : Nat} {sum : List Int} {lsn num bot : Int} {sl raw : List Int}
theorem SP.kept {R : Nat → Prop} (h : SP w B sum lsn num bot sl raw) (hk : Kept R w w') (hr : ¬ R B) : SP w' B sum lsn num bot sl raw := ⟨h.blk.kept hk hr, h.l1, h.l2, h.l3⟩
theorem SP.same (h : SP w B sum lsn num bot sl raw) (hk : Same w w') : SP w' B sum lsn num bot sl raw := ⟨h.blk.same hk, h.l1, h.l2, h.l3⟩
theorem spCells_length (h1 : sum.length = 4) (h2 : sl.length = 64) (h3 : raw.length = 4096) : (spCells sum lsn num bot sl raw).length = 4167 := by simp [spCells, vals, h1, h2, h3]
theorem SP.sumAt (h : SP w B sum lsn num bot sl raw) (j : Nat) (hj : j < 4) : w.cell? ⟨B, j, none⟩ = some (.int .u8 (sum.getD j 0)) := by
 rw [h.blk.cell, spCells, List.getElem?_append_left (by rw [vals_length, h.l1]; exact hj), vals_at _ _ _ (by rw [h.l1]; exact hj)]
theorem SP.num3 (h : SP w B sum lsn num bot sl raw) : w.cell? ⟨B, 4, none⟩ = some (.int .i64 lsn) ∧ w.cell? ⟨B, 5, none⟩ = some (.int .i64 num) ∧ w.cell? ⟨B, 6, none⟩ = some (.int .i64 bot) := by
 have e : (vals .u8 sum).length = 4 := by rw [vals_length, h.l1]
 refine ⟨?_, ?_, ?_⟩ <;> rw [h.blk.cell, spCells, List.getElem?_append_right (by rw [e]; decide), e] <;> rfl
theorem SP.slAt (h : SP w B sum lsn num bot sl raw) (j : Nat) (hj : j < 64) : w.cell? ⟨B, 7 + j, none⟩ = some (.int .i64 (sl.getD j 0)) := by
 have e : (vals .u8 sum).length = 4 := by rw [vals_length, h.l1]
 rw [h.blk.cell, spCells, List.getElem?_append_right (by omega), e, show 7 + j - 4 = j + 1 + 1 + 1 from by omega, List.getElem?_cons_succ, List.getElem?_cons_succ, List.getElem?_cons_succ,
  List.getElem?_append_left (by rw [vals_length, h.l2]; exact hj), vals_at _ _ _ (by rw [h.l2]; exact hj)]
theorem SP.rawAt (h : SP w B sum lsn num bot sl raw) (j : Nat) (hj : j < 4096) : w.cell? ⟨B, 71 + j, none⟩ = some (.int .u8 (raw.getD j 0)) := by
 have e : (vals .u8 sum).length = 4 := by rw [vals_length, h.l1]
 have e2 : (vals .i64 sl).length = 64 := by rw [vals_length, h.l2]
 rw [h.blk.cell, spCells, List.getElem?_append_right (by omega), e, show 71 + j - 4 = 64 + j + 1 + 1 + 1 from by omega, List.getElem?_cons_succ, List.getElem?_cons_succ, List.getElem?_cons_succ,
  List.getElem?_append_right (by omega), e2, Nat.add_sub_cancel_left, vals_at _ _ _ (by rw [h.l3]; exact hj)]
theorem SP.rawRange (h : SP w B sum lsn num bot sl raw) : w.rangeAt B 71 (vals .u8 raw) := fun j v hv => by
 have hj : j < 4096 := by have := (List.getElem?_eq_some_iff.1 hv).1; rwa [vals_length, h.l3] at this
 rw [h.rawAt j hj, ← hv, vals_at _ _ _ (by rw [h.l3]; exact hj)]
theorem SP.slRange (h : SP w B sum lsn num bot sl raw) : w.rangeAt B 7 (vals .i64 sl) := fun j v hv => by
 have hj : j < 64 := by have := (List.getElem?_eq_some_iff.1 hv).1; rwa [vals_length, h.l2] at this
 rw [h.slAt j hj, ← hv, vals_at _ _ _ (by rw [h.l2]; exact hj)]
end
/-! ### What is written from the front on -/
def cont (A raw : List Int) : List Int := A ++ raw.drop A.length
theorem cont_nil (raw : List Int) : cont [] raw = raw := by simp [cont]
theorem cont_length (A raw : List Int) (h : A.length ≤ raw.length) : (cont A raw).length = raw.length := by simp [cont]; omega
theorem lay_cont (A raw xs : List Int) (h : A.length + xs.length ≤ raw.length) : lay (vals .u8 (cont A raw)) A.length (vals .u8 xs) = vals .u8 (cont (A ++ xs) raw) := by
 unfold lay cont
 simp [vals, Nat.add_comm]
 rw [List.drop_append, List.drop_of_length_le (by simp), List.drop_drop, List.nil_append, List.length_map]
 congr 1
 omega
theorem Blk.more {w : World} {B : Nat} {e : TypeId} {A raw : List Int} (n : Nat) (xs : List Int) (h : Blk w B e (lay (vals .u8 (cont A raw)) n (vals .u8 xs))) (hn : n = A.length) (hl : A.length + xs.length ≤ raw.length) : Blk w B e (vals .u8 (cont (A ++ xs) raw)) := by
 subst hn
 rwa [lay_cont _ _ _ hl] at h
def headB (sum : List Int) (lsn num bot : Int) : List Int := sum ++ lows lsn 8 ++ lows num 4 ++ lows bot 2 ++ lows 0 2
theorem headB_length (sum : List Int) (lsn num bot : Int) (h : sum.length = 4) : (headB sum lsn num bot).length = 20 := by simp [headB, lows_length, h]
def slotB (sl : List Int) : List Int := sl.flatMap fun x => lows x 2
theorem slotB_length (sl : List Int) : (slotB sl).length = 2 * sl.length := by
 induction sl with
 | nil => rfl
 | cons x sl ih => simp only [slotB, List.flatMap_cons, List.length_append, lows_length, List.length_cons] at ih ⊢; omega
theorem slotB_take (sl : List Int) (k : Nat) (h : k < sl.length) : slotB (sl.take (k + 1)) = slotB (sl.take k) ++ lows (sl.getD k 0) 2 := by
 unfold slotB
 rw [List.take_succ_eq_append_getElem h, List.flatMap_append]
 simp [h]
def encB (sum : List Int) (lsn num bot : Int) (sl raw : List Int) : List Int := cont (headB sum lsn num bot ++ slotB sl) raw
theorem encB_length {sum : List Int} {lsn num bot : Int} {sl raw : List Int} (h1 : sum.length = 4) (h2 : sl.length = 64) (h3 : raw.length = 4096) : (encB sum lsn num bot sl raw).length = 4096 := by
 unfold encB
 rw [cont_length, h3]
 rw [List.length_append, headB_length _ _ _ _ h1, slotB_length, h2, h3]
 decide
section
variable {P : Program} {fi : Array Oper} {o : Oper} {a : Act} {w : World} {K : Act → World → Prop} {Q : Exit → Act → World → Prop} {E : Prop}
theorem step_copy_blk {B off dl dc sl sc : Nat} {e tb : TypeId} {ad : Addr} {xs : List Value} (rf : o.guard = none) (d s : Operand) (T : TypeId) (ho : o.op = .call { callee := .builtin .copy, args := #[d, s], argTypes := #[T, T] })
  (hu : P.underlying T = some (.slice tb)) (i1 : (P.info? tb).map (·.size) = some 1) (cs : List Value) (hb : Blk w B e xs) (hd : a.eval d = .slice (some ⟨B, off, none⟩) dl dc) (hs : a.eval s = .slice (some ad) sl sc)
  (hn : cs.length = Nat.min sl dl) (GY : ∀ j v, cs[j]? = some v → w.cell? (ad.add j) = some v) (SG : off + cs.length ≤ xs.length) (h1 : ∀ v ∈ cs, v.oneCell' = true)
  (h : K (a.put o.dst (goInt cs.length)) (w.setCells B off cs)) :
  if Region.wanted o (yielded fi a.tmps) = true then Oper.wp P o a w K Q else E := by
 have hw : Region.wanted o (yielded fi a.tmps) = true := by simp [Region.wanted, rf]
 rw [if_pos hw]
 have yO := run_copy_cells (P := P) w T T o.type tb B off dl dc ad sl sc cs hu i1 hn GY (fun j hj => by rw [hb.cell, List.getElem?_eq_getElem (by omega)]; rfl) (fun j _ => hb.frozen _) h1
 unfold Oper.wp
 simp [execOp, ho, resolve, invoke, builtin, hd, hs, yO, Result.andThen]
 exact h
end
theorem byte_size : (Tryz.prog.info? 5).map (·.size) = some 1 := by
 obtain ⟨i0, hi, j9, j0, l9⟩ := info_parts Tryz.infoByte'
 simp [hi, j0]
set_option maxRecDepth 100000 in
theorem slot_at (sl : List Int) (hl : sl.length = 64) (k : Nat) (hk : k < 32) (w : World) : (Instr.index 210 (.agg (vals .i64 sl).toArray) (.int .i64 k)).run Tryz.prog w = .ok (.agg #[.int .i64 (sl.getD (2 * k) 0), .int .i64 (sl.getD (2 * k + 1) 0)]) w := by
 have hz : ∀ w, (sizeOf 209).run Tryz.prog w = .ok 2 w := by
  have h : (Tryz.prog.info? 209).map (·.size) = some 2 := by kernel_rfl
  intro w
  cases hq : Tryz.prog.info? 209 with
  | none => simp [hq] at h
  | some i =>
   have hi : i.size = 2 := by simpa [hq] using h
   simp [sizeOf, typeInfo, hq, hi]
 have h1 : (k : Int) < 32 := by omega
 simp [Instr.index, run_underlying Tryz.underlying210, asIntOf, hz, h1, go_sem]
 rw [if_pos hk]
 have hv : (vals .i64 sl).length = 64 := by rw [vals_length, hl]
 rw [Nat.mul_comm k 2, List.drop_eq_getElem_cons (by omega : 2 * k < (vals .i64 sl).length), List.drop_eq_getElem_cons (by omega : 2 * k + 1 < (vals .i64 sl).length)]
 simp [vals, List.getElem?_eq_getElem (show 2 * k < sl.length by omega), List.getElem?_eq_getElem (show 2 * k + 1 < sl.length by omega)]
theorem write_more {w : World} {B : Nat} {e : TypeId} {A raw : List Int} (o n c : Nat) (x : Int) (hb : Blk w B e (vals .u8 (cont A raw))) (ho : o = A.length) (hl : o + n ≤ raw.length) (hm : raw.length = 4096) (h0 : 0 ≤ x) (h1 : x ≤ 9223372036854775807) :
  Calls Tryz.prog 175 #[.slice (some ⟨B, o, none⟩) n c, .int .i64 x] w fun e' w' => e' = .returned (.tuple #[]) ∧ Blk w' B e (vals .u8 (cont (A ++ lows x n) raw)) ∧ Kept (fun b => b = B) w w' := by
 refine (writeNumber_any B o n c e _ x w hb (by rw [vals_length, cont_length _ _ (by omega)]; exact hl) h0 h1 (by omega)).mono ?_
 rintro e' w' ⟨rfl, om, hk⟩
 exact ⟨rfl, Blk.more o (lows x n) om ho (by rw [lows_length]; omega), hk⟩
structure Num3 (lsn num bot : Int) (sl : List Int) : Prop where
 a : 0 ≤ lsn ∧ lsn ≤ 9223372036854775807
 b : 0 ≤ num ∧ num ≤ 9223372036854775807
 c : 0 ≤ bot ∧ bot ≤ 9223372036854775807
 d : ∀ x ∈ sl, 0 ≤ x ∧ x ≤ 9223372036854775807
theorem Num3.at {lsn num bot : Int} {sl : List Int} (h : Num3 lsn num bot sl) (k : Nat) : 0 ≤ sl.getD k 0 ∧ sl.getD k 0 ≤ 9223372036854775807 := by
 by_cases hk : k < sl.length
 ·have : sl.getD k 0 = sl[k] := by simp [hk]
  rw [this]
  exact h.d _ (List.getElem_mem hk)
 ·simp [List.getD, List.getElem?_eq_none (show sl.length ≤ k by omega)]
structure EncS (w wx : World) (B : Nat) (sum : List Int) (lsn num bot : Int) (sl raw A : List Int) : Prop where
 sp : SP wx B sum lsn num bot sl raw
 arr : Blk wx (w.heap.size + 1) 205 (vals .u8 (cont A raw))
 res : Blk wx w.heap.size 205 Tryz.zeroCells205.toList
 same : Same w wx
 sz : w.heap.size + 2 ≤ wx.heap.size
 lt : B < w.heap.size
theorem EncS.next {w wx wy : World} {B : Nat} {sum : List Int} {lsn num bot : Int} {sl raw A A' : List Int} (h : EncS w wx B sum lsn num bot sl raw A) (hk : Kept (fun b => b = w.heap.size + 1) wx wy) (hb : Blk wy (w.heap.size + 1) 205 (vals .u8 (cont A' raw))) : EncS w wy B sum lsn num bot sl raw A' :=
 have dh := h.lt
 ⟨h.sp.kept hk (by omega), hb, h.res.kept hk (by omega), h.same.next hk (fun i hi e => by omega), Nat.le_trans h.sz hk.size, h.lt⟩
theorem EncS.on {w wx wy : World} {B : Nat} {sum : List Int} {lsn num bot : Int} {sl raw A : List Int} (h : EncS w wx B sum lsn num bot sl raw A) (hk : Same wx wy) : EncS w wy B sum lsn num bot sl raw A :=
 ⟨h.sp.same hk, h.arr.same hk, h.res.same hk, h.same.trans hk, Nat.le_trans h.sz hk.size, h.lt⟩
theorem encode_any (B : Nat) (sum : List Int) (lsn num bot : Int) (sl raw : List Int) (w : World) (hp : SP w B sum lsn num bot sl raw) (hn : Num3 lsn num bot sl) :
  Calls Tryz.prog 172 #[.pointer (some ⟨B, 0, none⟩)] w fun e w' => e = .returned (.agg (vals .u8 (encB sum lsn num bot sl raw)).toArray) ∧ Same w w' := by
 have SA := hp.blk.lt
 have m5 := hp.l3
 have HP := (show Hid (SP w B sum lsn num bot sl raw) from hp)
 have HN := (show Hid (Num3 lsn num bot sl) from hn)
 have nJ : Tryz.zeroCells205.toList.length = 4096 := by rw [Array.length_toList]; exact Tryz.zeroCells205_size
 have AY : (vals .u8 raw).length = 4096 := by rw [vals_length, m5]
 have gW := (show Hid ((w.alloc (.cells Tryz.zeroCells205 205)).rangeAt B 71 (vals .u8 raw)) from (hp.same ((Kept.refl _ _).alloc _)).rawRange)
 have HI := (show Hid ((Tryz.prog.info? 205).map (·.size) = some (vals .u8 raw).length) from (by rw [AY]; exact page_info : (Tryz.prog.info? 205).map (·.size) = some (vals .u8 raw).length))
 have nH := (show Hid ((Tryz.prog.info? 205).map (·.size) = some (vals .u8 raw).toArray.size) from (by rw [List.size_toArray]; exact HI.out : (Tryz.prog.info? 205).map (·.size) = some (vals .u8 raw).toArray.size))
 have iW := (show Hid ((vals .u8 raw).toArray.all (·.oneCell') = true) from all_oneCell_toArray vals_one)
 obtain ⟨cs, dY⟩ : ∃ cs : List Value, vals .u8 raw = cs := ⟨_, rfl⟩
 have l6 := (show Hid (vals .u8 raw = cs) from dY)
 have HT := (show Hid (((w.alloc (.cells Tryz.zeroCells205 205)).alloc (.cells Tryz.zeroCells205 205)).there (w.heap.size + 1) 0 (vals .u8 raw).toArray.size) from by
  have h := Blk.new (w.alloc (.cells Tryz.zeroCells205 205)) Tryz.zeroCells205 205
  rw [World.size_alloc] at h
  exact h.there 0 _ (by rw [List.size_toArray, AY, nJ]; decide))
 rw [dY] at gW HI nH iW HT
 clear dY hp hn AY
 go_enter Tryz.func172, Tryz.ntmps172
 go_wp2_with (first | (refine wpList_load_mid rfl 205 _ rfl B 71 rfl cs _ gW.out Tryz.underlying205 rfl HI.out ?_) | (refine wpList_store_mid rfl 205 _ _ rfl (w.heap.size + 1) 0 cs.toArray rfl rfl HT.out nH.out iW.out ?_))
 obtain ⟨w1, fC⟩ : ∃ w1, ((w.alloc (.cells Tryz.zeroCells205 205)).alloc (.cells Tryz.zeroCells205 205)).setCells (w.heap.size + 1) 0 cs = w1 := ⟨_, rfl⟩
 have Q8 := (show Hid (EncS w w1 B sum lsn num bot sl raw ([])) from by
  rw [← fC, ← l6.out]
  have ha := Blk.new (w.alloc (.cells Tryz.zeroCells205 205)) Tryz.zeroCells205 205
  rw [World.size_alloc] at ha
  have hb := ha.setCells (vals .u8 raw) 0 (by rw [nJ, vals_length, m5]; decide)
  rw [lay_all _ _ (by rw [nJ, vals_length, m5])] at hb
  have ep : Same w ((w.alloc (.cells Tryz.zeroCells205 205)).alloc (.cells Tryz.zeroCells205 205)) := ((Kept.refl _ _).alloc _).alloc _
  have bg := Kept.setCells (R := fun b => b = w.heap.size + 1) (a := (w.alloc (.cells Tryz.zeroCells205 205)).alloc (.cells Tryz.zeroCells205 205)) (B := w.heap.size + 1) (.inr rfl) (vals .u8 raw) 0 (Kept.refl _ _)
  refine ⟨(HP.out.same ep).kept bg (by omega), by rw [cont_nil]; exact hb, (((Blk.new w _ _).alloc _).kept bg (by omega)), ep.next bg (fun i hi e => by omega), ?_, SA⟩
  have := bg.size
  simp at this
  omega)
 rw [fC]
 clear fC gW HT iW HI nH l6 nJ
 have hS : (fun _ : World => True) w1.drew := by trivial
 refine wp_region_V (fun _ : World => True) 99 6 rfl (by kernel_rfl) ?_
 refine tk 0 11 hS ?_
 refine tk 1 12 hS ?_
 refine tk 2 13 hS ?_
 refine tk 3 14 hS ?_
 refine tk 4 15 hS ?_
 refine wpAnyV_one (i := 5) (by kernel_rfl) rfl (fun K hK => ?_)
 have hE := Q8.out.on (Kept.refl _ _).drew
 have sC : (vals .u8 sum).length = 4 := by rw [vals_length, hE.sp.l1]
 refine step_copy_blk (by rfl) _ _ 45 (by rfl) Tryz.underlying45 byte_size (vals .u8 sum) hE.arr (by rfl) (by rfl) (by rw [sC]; decide) (fun j u hu => ?_) (by rw [sC, vals_length, cont_length _ _ (by simp), m5]; decide) vals_one ?_
 ·have hj : j < 4 := by have := (List.getElem?_eq_some_iff.1 hu).1; rwa [sC] at this
  rw [addr_add, Nat.zero_add, hE.sp.sumAt j hj, ← hu, vals_at _ _ _ (by rw [hE.sp.l1]; exact hj)]
 have fW := hE.arr.setCells (vals .u8 sum) 0 (by rw [sC, vals_length, cont_length _ _ (by simp), m5]; decide)
 have ri := Blk.more 0 sum fW rfl (by rw [hE.sp.l1, m5]; decide)
 have eC := Kept.setCells (R := fun b => b = w.heap.size + 1) (a := w1.drew) (B := w.heap.size + 1) (.inr rfl) (vals .u8 sum) 0 (Kept.refl _ _)
 obtain ⟨w2, OG⟩ : ∃ w2, w1.drew.setCells (w.heap.size + 1) 0 (vals .u8 sum) = w2 := ⟨_, rfl⟩
 rw [OG] at ri eC ⊢
 have KQ := (show Hid (EncS w w2 B sum lsn num bot sl raw ([] ++ sum)) from hE.next eC ri)
 clear OG
 clear fW ri eC hE hS Q8
 rw [sC]
 show K (Act.put _ (some 16) (.int .i64 4)) _
 refine hK.out _ _ (fun _ => trivial) ?_
 clear hK K
 refine wpAnyV_done (by kernel_rfl) ?_
 try simp only [Act.put, sA, s0, sS]
 go_wp2_with fail
 have hE := KQ.out.on (Kept.refl _ _).drew
 have hS : (fun wx : World => wx.cell? ⟨B, 4, none⟩ = some (.int .i64 lsn)) w2.drew := by exact hE.sp.num3.1
 refine wp_region_V (fun wx : World => wx.cell? ⟨B, 4, none⟩ = some (.int .i64 lsn)) 99 6 rfl (by kernel_rfl) ?_
 refine tk 0 17 hS ?_
 refine tk 1 18 hS ?_
 refine tk 2 19 hS ?_
 refine tk 3 20 hS ?_
 refine tk 4 21 hS ?_
 refine wpAnyV_one (i := 5) (by kernel_rfl) rfl (fun K hK => ?_)
 go_simp
 have hc := write_more 4 8 4092 lsn hE.arr (by simp [hE.sp.l1, lows_length]) (by rw [m5]; decide) m5 HN.out.a.1 HN.out.a.2
 with_reducible refine hc.mono ?_
 rintro e w3 ⟨rfl, hb, hk⟩
 have tT := (show Hid (EncS w w3 B sum lsn num bot sl raw ([] ++ sum ++ lows lsn 8)) from hE.next hk hb)
 have p9 : (fun wx : World => wx.cell? ⟨B, 4, none⟩ = some (.int .i64 lsn)) w3 := tT.out.sp.num3.1
 clear hb hk hE hc hS
 refine hK.out _ _ (fun _ => p9) ?_
 clear hK K p9 KQ
 refine wpAnyV_done (by kernel_rfl) ?_
 try simp only [Act.put, sA, s0, sS]
 go_wp2_with fail
 have hE := tT.out.on (Kept.refl _ _).drew
 have hS : (fun wx : World => wx.cell? ⟨B, 5, none⟩ = some (.int .i64 num)) w3.drew := by exact hE.sp.num3.2.1
 refine wp_region_V (fun wx : World => wx.cell? ⟨B, 5, none⟩ = some (.int .i64 num)) 99 6 rfl (by kernel_rfl) ?_
 refine tk 0 23 hS ?_
 refine tk 1 24 hS ?_
 refine tk 2 25 hS ?_
 refine tk 3 26 hS ?_
 refine tk 4 27 hS ?_
 refine wpAnyV_one (i := 5) (by kernel_rfl) rfl (fun K hK => ?_)
 go_simp
 have hc := write_more 12 4 4084 num hE.arr (by simp [hE.sp.l1, lows_length]) (by rw [m5]; decide) m5 HN.out.b.1 HN.out.b.2
 with_reducible refine hc.mono ?_
 rintro e w4 ⟨rfl, hb, hk⟩
 have GG := (show Hid (EncS w w4 B sum lsn num bot sl raw ([] ++ sum ++ lows lsn 8 ++ lows num 4)) from hE.next hk hb)
 have p9 : (fun wx : World => wx.cell? ⟨B, 5, none⟩ = some (.int .i64 num)) w4 := GG.out.sp.num3.2.1
 clear hb hk hE hc hS
 refine hK.out _ _ (fun _ => p9) ?_
 clear hK K p9 tT
 refine wpAnyV_done (by kernel_rfl) ?_
 try simp only [Act.put, sA, s0, sS]
 go_wp2_with fail
 have hE := GG.out.on (Kept.refl _ _).drew
 have hS : (fun wx : World => wx.cell? ⟨B, 6, none⟩ = some (.int .i64 bot)) w4.drew := by exact hE.sp.num3.2.2
 refine wp_region_V (fun wx : World => wx.cell? ⟨B, 6, none⟩ = some (.int .i64 bot)) 99 6 rfl (by kernel_rfl) ?_
 refine tk 0 29 hS ?_
 refine tk 1 30 hS ?_
 refine tk 2 31 hS ?_
 refine tk 3 32 hS ?_
 refine tk 4 33 hS ?_
 refine wpAnyV_one (i := 5) (by kernel_rfl) rfl (fun K hK => ?_)
 go_simp
 have hc := write_more 16 2 4080 bot hE.arr (by simp [hE.sp.l1, lows_length]) (by rw [m5]; decide) m5 HN.out.c.1 HN.out.c.2
 with_reducible refine hc.mono ?_
 rintro e w5 ⟨rfl, hb, hk⟩
 have Fw := (show Hid (EncS w w5 B sum lsn num bot sl raw ([] ++ sum ++ lows lsn 8 ++ lows num 4 ++ lows bot 2)) from hE.next hk hb)
 have p9 : (fun wx : World => wx.cell? ⟨B, 6, none⟩ = some (.int .i64 bot)) w5 := Fw.out.sp.num3.2.2
 clear hb hk hE hc hS
 refine hK.out _ _ (fun _ => p9) ?_
 clear hK K p9 GG
 refine wpAnyV_done (by kernel_rfl) ?_
 try simp only [Act.put, sA, s0, sS]
 have hc := write_more 18 2 4078 0 Fw.out.arr (by simp [Fw.out.sp.l1, lows_length]) (by rw [m5]; decide) m5 (by decide) (by decide)
 have wU := (show Hid ((Tryz.prog.info? 210).map (·.size) = some (vals .i64 sl).length) from (by rw [vals_length, HP.out.l2]; exact (by kernel_rfl : (Tryz.prog.info? 210).map (·.size) = some 64) : (Tryz.prog.info? 210).map (·.size) = some (vals .i64 sl).length))
 obtain ⟨ss, sV⟩ : ∃ ss : List Value, vals .i64 sl = ss := ⟨_, rfl⟩
 have Ay := (show Hid (vals .i64 sl = ss) from sV)
 rw [sV] at wU
 clear sV
 go_wp2_with (first
  | (go_at_call 175; refine hc.mono ?_; rintro e w6 ⟨rfl, Ax, nF⟩; have N5 := (show Hid (EncS w w6 B sum lsn num bot sl raw ([] ++ sum ++ lows lsn 8 ++ lows num 4 ++ lows bot 2 ++ lows 0 2)) from Fw.out.next nF Ax); have zV := (show Hid (w6.rangeAt B 7 ss) from (by rw [← Ay.out]; exact N5.out.sp.slRange : w6.rangeAt B 7 ss)); clear Ax nF hc)
  | (refine wpList_load_mid rfl 210 _ rfl B 7 rfl ss _ zV.out Tryz.underlying210 rfl wU.out ?_))
 go_loopw [4, 5, 6, 41] (fun _ _ _ i wr => ∃ k : Nat, k ≤ 32 ∧ i = .int .i64 k ∧ Hid (EncS w wr B sum lsn num bot sl raw (headB sum lsn num bot ++ slotB (sl.take (2 * k))))) (fun _ _ _ i _ => 32 - (intOf i).toNat)
 case atStart => exact ⟨0, by omega, rfl, by simpa [slotB, headB] using N5⟩
 case round =>
  obtain ⟨k, hk, rfl, EJ⟩ := hrel
  by_cases dh : k < 32
  ·have eC : (k : Int) < 32 := by omega
   have Am := fun w => slot_at sl HP.out.l2 k dh w
   rw [Ay.out] at Am
   have Al := (show Hid (_) from HN.out.at (2 * k))
   have N3 := (show Hid (_) from HN.out.at (2 * k + 1))
   have TU := (show Hid (slotB (sl.take (2 * (k + 1))) = slotB (sl.take (2 * k)) ++ lows (sl.getD (2 * k) 0) 2 ++ lows (sl.getD (2 * k + 1) 0) 2) from (by rw [show 2 * (k + 1) = 2 * k + 1 + 1 from by omega, slotB_take _ _ (by rw [HP.out.l2]; omega), slotB_take _ _ (by rw [HP.out.l2]; omega)] : slotB (sl.take (2 * (k + 1))) = _))
   have M9 := (show Hid ((slotB (sl.take (2 * k))).length = 4 * k) from (by rw [slotB_length, List.length_take, HP.out.l2]; omega : (slotB (sl.take (2 * k))).length = 4 * k))
   generalize sl.getD (2 * k) 0 = x at *
   generalize sl.getD (2 * k + 1) 0 = y at *
   have Pj := headB_length sum lsn num bot HP.out.l1
   go_wp2_with fail
   obtain ⟨oo, Mn⟩ : ∃ oo : Nat, 20 + 4 * k = oo := ⟨_, rfl⟩
   have e1 : (20 + (k : Int) * 4) = (oo : Int) := by omega
   rw [e1]
   have FW := (show Hid (EncS w (wr.alloc (.cells #[.int .i64 x, .int .i64 y] 209)) B sum lsn num bot sl raw (headB sum lsn num bot ++ slotB (sl.take (2 * k)))) from EJ.out.on ((Kept.refl _ _).alloc _))
   have oV := Blk.new wr #[.int .i64 x, .int .i64 y] 209
   have EY := EJ.out.sz
   obtain ⟨w7, rm⟩ : ∃ w7, wr.alloc (.cells #[.int .i64 x, .int .i64 y] 209) = w7 := ⟨_, rfl⟩
   rw [rm] at FW oV ⊢
   have nu := (show Hid (Blk w7 wr.heap.size 209 [.int .i64 x, .int .i64 y]) from oV)
   clear rm oV
   have o1 : (oo : Int) + 2 ≤ 4096 := by omega
   have o2 : (0 : Int) ≤ (oo : Int) := by omega
   have o3 : IntKind.i64.wrap ((oo : Int) + 2) = (oo : Int) + 2 := by rw [IntKind.wrap_i64]; omega
   have o4 : (oo : Int) ≤ (oo : Int) + 2 := by omega
   have o5 : ((oo : Int) + 2).toNat = oo + 2 := by omega
   have o6 : oo + 2 - oo = 2 := by omega
   have o7 : oo < 4096 := by omega
   have o8 : ¬ 4096 = oo := by omega
   have p3 : IntKind.i64.wrap ((oo : Int) + 4) = (oo : Int) + 4 := by rw [IntKind.wrap_i64]; omega
   have p1 : (oo : Int) + 4 ≤ 4096 := by omega
   have p4 : (oo : Int) + 2 ≤ (oo : Int) + 4 := by omega
   have p2 : (0 : Int) ≤ (oo : Int) + 2 := by omega
   have p5 : ((oo : Int) + 4).toNat = oo + 4 := by omega
   have p6 : oo + 4 - (oo + 2) = 2 := by omega
   have p7 : oo + 2 < 4096 := by omega
   have p8 : ¬ 4096 = oo + 2 := by omega
   have hS : (fun wx : World => wx.cell? ⟨wr.heap.size, 0, none⟩ = some (.int .i64 x)) w7.drew := by (have h := nu.out.drew.cell 0; simpa using h)
   refine wp_region_V (fun wx : World => wx.cell? ⟨wr.heap.size, 0, none⟩ = some (.int .i64 x)) 99 7 rfl (by kernel_rfl) ?_
   refine tk 0 48 hS ?_
   refine tk 1 49 hS ?_
   refine tk 2 50 hS ?_
   refine tk 3 51 hS ?_
   refine tk 4 52 hS ?_
   refine tk 5 53 hS ?_
   refine wpAnyV_one (i := 6) (by kernel_rfl) rfl (fun K hK => ?_)
   go_simp
   have hE := FW.out.on (Kept.refl _ _).drew
   have hc := write_more oo 2 (4096 - oo) x hE.arr (by rw [List.length_append, Pj, M9.out]; omega) (by rw [m5]; omega) m5 Al.out.1 Al.out.2
   with_reducible refine hc.mono ?_
   rintro e w8 ⟨rfl, hb, nR⟩
   have Ot := (show Hid (EncS w w8 B sum lsn num bot sl raw (headB sum lsn num bot ++ slotB (sl.take (2 * k)) ++ lows x 2)) from hE.next nR hb)
   have tQ := (show Hid (Blk w8 wr.heap.size 209 [.int .i64 x, .int .i64 y]) from (nu.out.drew.kept nR (by omega)))
   have p9 : (fun wx : World => wx.cell? ⟨wr.heap.size, 0, none⟩ = some (.int .i64 x)) w8 := by have h := tQ.out.cell 0; simpa using h
   clear hb nR hE hc hS
   refine hK.out _ _ (fun _ => p9) ?_
   clear hK K p9 FW nu
   refine wpAnyV_done (by kernel_rfl) ?_
   try simp only [Act.put, sA, s0, sS]
   go_wp2_with fail
   have hS : (fun wx : World => wx.cell? ⟨wr.heap.size, 1, none⟩ = some (.int .i64 y)) w8.drew := by (have h := tQ.out.drew.cell 1; simpa using h)
   refine wp_region_V (fun wx : World => wx.cell? ⟨wr.heap.size, 1, none⟩ = some (.int .i64 y)) 99 8 rfl (by kernel_rfl) ?_
   refine tk 0 55 hS ?_
   refine tk 1 56 hS ?_
   refine tk 2 57 hS ?_
   refine tk 3 58 hS ?_
   refine tk 4 59 hS ?_
   refine tk 5 60 hS ?_
   refine tk 6 61 hS ?_
   refine wpAnyV_one (i := 7) (by kernel_rfl) rfl (fun K hK => ?_)
   go_simp
   have hE := Ot.out.on (Kept.refl _ _).drew
   have hc := write_more (oo + 2) 2 (4094 - oo) y hE.arr (by rw [List.length_append, List.length_append, Pj, M9.out, lows_length]; omega) (by rw [m5]; omega) m5 N3.out.1 N3.out.2
   with_reducible refine hc.mono ?_
   rintro e w9 ⟨rfl, hb, j5⟩
   have SR := (show Hid (EncS w w9 B sum lsn num bot sl raw (headB sum lsn num bot ++ slotB (sl.take (2 * (k + 1))))) from (by rw [TU.out, ← List.append_assoc, ← List.append_assoc]; exact hE.next j5 hb))
   have p9 : (fun wx : World => wx.cell? ⟨wr.heap.size, 1, none⟩ = some (.int .i64 y)) w9 := by have h := (tQ.out.drew.kept j5 (by omega)).cell 1; simpa using h
   clear hb j5 hE hc hS
   refine hK.out _ _ (fun _ => p9) ?_
   clear hK K p9 Ot tQ
   refine wpAnyV_done (by kernel_rfl) ?_
   try simp only [Act.put, sA, s0, sS]
   go_wp2
   go_roundw
   case rel => exact ⟨k + 1, by omega, by go_num, SR⟩
   case measure => simp [intOf]; omega
  ·obtain rfl : k = 32 := by omega
   have hA : headB sum lsn num bot ++ slotB (sl.take (2 * 32)) = headB sum lsn num bot ++ slotB sl := by rw [List.take_of_length_le (by rw [HP.out.l2]; decide)]
   have hE := EJ.out
   rw [hA] at hE
   have Cf : (encB sum lsn num bot sl raw).length = 4096 := encB_length HP.out.l1 HP.out.l2 m5
   have tf : Blk wr (w.heap.size + 1) 205 (vals .u8 (encB sum lsn num bot sl raw)) := hE.arr
   obtain ⟨ds, lR⟩ : ∃ ds : List Value, vals .u8 (encB sum lsn num bot sl raw) = ds := ⟨_, rfl⟩
   have oS : ds.length = 4096 := by rw [← lR, vals_length, Cf]
   have Si := (show Hid (vals .u8 (encB sum lsn num bot sl raw) = ds) from lR)
   have iW := (show Hid (ds.toArray.all (·.oneCell') = true) from (by rw [← lR]; exact all_oneCell_toArray vals_one : ds.toArray.all (·.oneCell') = true))
   rw [lR] at tf
   have nJ : Tryz.zeroCells205.toList.length = 4096 := by rw [Array.length_toList]; exact Tryz.zeroCells205_size
   have gW := (show Hid (wr.rangeAt (w.heap.size + 1) 0 ds) from tf.rangeAll)
   have H9 := (show Hid (wr.there w.heap.size 0 ds.toArray.size) from hE.res.there 0 _ (by rw [List.size_toArray, oS, nJ]; decide))
   have qM := hE.res.setCells ds 0 (by rw [oS, nJ]; decide)
   rw [lay_all _ _ (by rw [oS, nJ])] at qM
   have pj := (show Hid ((wr.setCells w.heap.size 0 ds).rangeAt w.heap.size 0 ds) from qM.rangeAll)
   have HI := (show Hid ((Tryz.prog.info? 205).map (·.size) = some ds.length) from (by rw [oS]; exact page_info : (Tryz.prog.info? 205).map (·.size) = some ds.length))
   have nH := (show Hid ((Tryz.prog.info? 205).map (·.size) = some ds.toArray.size) from (by rw [List.size_toArray]; exact HI.out : (Tryz.prog.info? 205).map (·.size) = some ds.toArray.size))
   have SX := (show Hid (Same w (wr.setCells w.heap.size 0 ds)) from Kept.setCells (.inl (Nat.le_refl _)) ds 0 hE.same)
   clear lR oS Cf tf qM hE nJ EJ hA
   go_wp2_with (first | (refine wpList_load_mid rfl 205 _ rfl (w.heap.size + 1) 0 rfl ds _ gW.out Tryz.underlying205 rfl HI.out ?_) | (refine wpList_store_mid rfl 205 _ _ rfl w.heap.size 0 ds.toArray rfl rfl H9.out nH.out iW.out ?_))
   have Sw := run_loadVar_mid (P := Tryz.prog) _ w.heap.size 0 205 ds _ pj.out Tryz.underlying205 rfl HI.out
   refine bodyPost_ret (v := .agg ds.toArray) ?_ rfl ?_
   ·try simp only [Act.put, List.setIfInBounds_toArray, List.set_cons_zero, List.set_cons_succ]
    simp [results, Tryz.results172, asAddr, Sw]
   ·rw [Si.out]
    exact ⟨rfl, SX.out⟩
theorem lay_mid (A B C B' : List Value) (h : B'.length = B.length) : lay (A ++ (B ++ C)) A.length B' = A ++ (B' ++ C) := by
 unfold lay
 rw [List.take_left, h, List.drop_append, List.drop_of_length_le (by omega), Nat.add_sub_cancel_left, List.drop_left, List.nil_append]
def lay82 : Array (Nat × Nat) := #[(0, 4), (4, 1), (5, 1), (6, 1), (7, 64), (71, 4096)]
set_option maxRecDepth 100000 in
theorem built82 (parts : List (Nat × Value)) : Tryz.prog.built 212 parts = Instr.fill (fun i => lay82[i]?) Tryz.zeroCells212 parts := by kernel_rfl
theorem fill_one (L : Nat → Option (Nat × Nat)) (Z : List Value) (i off n : Nat) (v : Value) (ps : List (Nat × Value)) (hL : L i = some (off, n)) (hv : v.cells.size = n) (hz : off + n ≤ Z.length) :
  Instr.fill L Z.toArray ((i, v) :: ps) = Instr.fill L (lay Z off v.cells.toList).toArray ps := by
 obtain ⟨s1, g1⟩ := Great.foldl_set off v.cells.toList 0 Z.toArray
 have KU : v.cells.toList.length = n := by rw [Array.length_toList, hv]
 have e : v.cells.zipIdx.foldl (fun cs (c, j) => cs.setIfInBounds (off + j) c) Z.toArray = (lay Z off v.cells.toList).toArray := by
  have e0 : v.cells.zipIdx.foldl (fun cs (c, j) => cs.setIfInBounds (off + j) c) Z.toArray = (v.cells.toList.zipIdx 0).foldl (fun cs (x : Value × Nat) => cs.setIfInBounds (off + x.2) x.1) Z.toArray := by
   rw [← Array.foldl_toList, Array.toList_zipIdx]
  rw [e0]
  refine Array.ext_getElem? fun k => ?_
  rw [g1 k]
  simp only [Nat.add_zero, List.getElem?_toArray, List.size_toArray, KU]
  unfold lay
  by_cases h1 : k < off
  ·rw [if_neg (by omega), List.getElem?_append_left (by simp; omega), List.getElem?_take_of_lt h1]
  ·rw [List.getElem?_append_right (by simp; omega), List.length_take, Nat.min_eq_left (by omega)]
   by_cases h2 : k < off + n
   ·rw [if_pos (by omega), List.getElem?_append_left (by omega)]
   ·rw [if_neg (by omega), List.getElem?_append_right (by omega), KU, List.getElem?_drop]
    congr 1
    omega
 rw [Instr.fill, hL]
 simp only [hv, List.size_toArray, ne_eq, not_true_eq_false, decide_false, Bool.false_or, gt_iff_lt, decide_eq_true_eq]
 rw [if_neg (by omega), e]
set_option maxRecDepth 100000 in
theorem build82 (sum : List Int) (lsn num bot : Int) (raw : List Int) (h1 : sum.length = 4) (h3 : raw.length = 4096) :
  Tryz.prog.built 212 [(0, .agg (vals .u8 sum).toArray), (1, .int .i64 lsn), (2, .int .i64 num), (3, .int .i64 bot), (5, .agg (vals .u8 raw).toArray)] = some (spCells sum lsn num bot (List.replicate 64 0) raw).toArray := by
 have Rv : Tryz.zeroCells212.toList = spCells (List.replicate 4 0) 0 0 0 (List.replicate 64 0) (List.replicate 4096 0) := by kernel_rfl
 have hz : Tryz.zeroCells212 = (spCells (List.replicate 4 0) 0 0 0 (List.replicate 64 0) (List.replicate 4096 0)).toArray := by rw [← Rv]
 have L0 : ∀ (sum : List Int) (a b c : Int) (sl raw : List Int), sum.length = 4 → sl.length = 64 → raw.length = 4096 → (spCells sum a b c sl raw).length = 4167 := fun _ _ _ _ _ _ h1 h2 h3 => spCells_length h1 h2 h3
 rw [built82, hz]
 rw [fill_one _ _ 0 0 4 _ _ rfl (by simp [Value.cells, vals, h1]) (by rw [L0 _ _ _ _ _ _ List.length_replicate List.length_replicate List.length_replicate]; decide)]
 have e0 : lay (spCells (List.replicate 4 0) 0 0 0 (List.replicate 64 0) (List.replicate 4096 0)) 0 (Value.agg (vals .u8 sum).toArray).cells.toList = spCells sum 0 0 0 (List.replicate 64 0) (List.replicate 4096 0) := lay_mid [] (vals .u8 (List.replicate 4 0)) _ (vals .u8 sum) (by rw [vals_length, vals_length, h1, List.length_replicate])
 rw [e0, fill_one _ _ 1 4 1 _ _ rfl rfl (by rw [L0 _ _ _ _ _ _ h1 List.length_replicate List.length_replicate]; decide)]
 have t6 : (vals .u8 sum).length = 4 := by rw [vals_length, h1]
 have e1 : lay (spCells sum 0 0 0 (List.replicate 64 0) (List.replicate 4096 0)) 4 (Value.int .i64 lsn).cells.toList = spCells sum lsn 0 0 (List.replicate 64 0) (List.replicate 4096 0) := by
  have h := lay_mid (vals .u8 sum) [.int .i64 0] (.int .i64 0 :: .int .i64 0 :: (vals .i64 (List.replicate 64 0) ++ vals .u8 (List.replicate 4096 0))) [.int .i64 lsn] rfl
  rw [t6] at h
  exact h
 rw [e1, fill_one _ _ 2 5 1 _ _ rfl rfl (by rw [L0 _ _ _ _ _ _ h1 List.length_replicate List.length_replicate]; decide)]
 have e2 : lay (spCells sum lsn 0 0 (List.replicate 64 0) (List.replicate 4096 0)) 5 (Value.int .i64 num).cells.toList = spCells sum lsn num 0 (List.replicate 64 0) (List.replicate 4096 0) := by
  have h := lay_mid (vals .u8 sum ++ [.int .i64 lsn]) [.int .i64 0] (.int .i64 0 :: (vals .i64 (List.replicate 64 0) ++ vals .u8 (List.replicate 4096 0))) [.int .i64 num] rfl
  rw [List.length_append, t6, List.append_assoc, List.append_assoc] at h
  exact h
 rw [e2, fill_one _ _ 3 6 1 _ _ rfl rfl (by rw [L0 _ _ _ _ _ _ h1 List.length_replicate List.length_replicate]; decide)]
 have e3 : lay (spCells sum lsn num 0 (List.replicate 64 0) (List.replicate 4096 0)) 6 (Value.int .i64 bot).cells.toList = spCells sum lsn num bot (List.replicate 64 0) (List.replicate 4096 0) := by
  have h := lay_mid (vals .u8 sum ++ [.int .i64 lsn, .int .i64 num]) [.int .i64 0] (vals .i64 (List.replicate 64 0) ++ vals .u8 (List.replicate 4096 0)) [.int .i64 bot] rfl
  rw [List.length_append, t6, List.append_assoc, List.append_assoc] at h
  exact h
 rw [e3, fill_one _ _ 5 71 4096 _ _ rfl (by simp [Value.cells, vals, h3]) (by rw [L0 _ _ _ _ _ _ h1 List.length_replicate List.length_replicate]; decide)]
 have e4 : lay (spCells sum lsn num bot (List.replicate 64 0) (List.replicate 4096 0)) 71 (Value.agg (vals .u8 raw).toArray).cells.toList = spCells sum lsn num bot (List.replicate 64 0) raw := by
  have h := lay_mid (vals .u8 sum ++ (.int .i64 lsn :: .int .i64 num :: .int .i64 bot :: vals .i64 (List.replicate 64 0))) (vals .u8 (List.replicate 4096 0)) [] (vals .u8 raw) (by rw [vals_length, vals_length, h3, List.length_replicate])
  have e : (vals .u8 sum ++ (.int .i64 lsn :: .int .i64 num :: .int .i64 bot :: vals .i64 (List.replicate 64 0))).length = 71 := by rw [List.length_append, t6]; rw [List.length_cons, List.length_cons, List.length_cons, vals_length, List.length_replicate]
  rw [e, List.append_nil, List.append_nil, List.append_assoc] at h
  have e5 : spCells sum lsn num bot (List.replicate 64 0) (List.replicate 4096 0) = vals .u8 sum ++ ((.int .i64 lsn :: .int .i64 num :: .int .i64 bot :: vals .i64 (List.replicate 64 0)) ++ vals .u8 (List.replicate 4096 0)) := rfl
  rw [e5]
  refine Eq.trans h ?_
  rw [List.append_assoc]
  rfl
 rw [e4]
 rfl
end Go.Proofs.YtepdakgfioffgaaGreat
