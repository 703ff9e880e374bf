import Derived.Test.YtdgmecmkkddpeaaGreatG00
import Derived.Test.YtdgmecmkkddpeaaGreatG06
import Derived.Laws.BitsLemmas
import Derived.Laws.Bits64
import Derived.Deep.MidRow
import Derived.Deep.WholeRow
import Derived.Deep.AppendLies
import Derived.Great.BuildSlice
namespace Go.Proofs.YtdgmecmkkddpeaaGreat
set_option maxRecDepth 100000
set_option maxHeartbeats 16000000
set_option linter.unusedVariables false
set_option linter.unusedSimpArgs false
open Go.RowKit
def num (bs : List Int) : Int := bs.foldl (fun v b => v * 256 + b) 0
theorem num_snoc (bs : List Int) (b : Int) : num (bs ++ [b]) = num bs * 256 + b := by simp [num, List.foldl_append]
theorem num_take (bs : List Int) (k : Nat) (h : k < bs.length) : num (bs.take (k + 1)) = num (bs.take k) * 256 + bs.getD k 0 := by
 rw [List.take_succ_eq_append_getElem h, num_snoc]
 simp [h]
theorem num_bound (bs : List Int) (hb : IsB bs) (k : Nat) (h : k ≤ bs.length) : 0 ≤ num (bs.take k) ∧ num (bs.take k) < 256 ^ k := by
 induction k with
 | zero => simp [num]
 | succ k ih =>
  have h1 := ih (by omega)
  have h2 := hb.at k (by omega)
  rw [num_take bs k (by omega), Int.pow_succ]
  omega
theorem num_cons (x : Int) (bs : List Int) : num (x :: bs) = x * 256 ^ bs.length + num bs := by
 have key : ∀ (bs : List Int) (v : Int), bs.foldl (fun v b => v * 256 + b) v = v * 256 ^ bs.length + num bs := fun bs => by
  induction bs with
  | nil => intro v; simp [num]
  | cons y bs ih =>
   intro v
   simp only [List.foldl_cons, num, List.length_cons]
   rw [ih, ih, Int.pow_succ, Int.add_mul, Int.mul_assoc, Int.mul_comm 256, Int.zero_mul, Int.zero_add]
   omega
 have := key bs x
 simpa [num] using this
theorem num_le (bs : List Int) (hb : IsB bs) (k : Nat) (h : k ≤ bs.length) {m : Int} (hm : num bs ≤ m) : num (bs.take k) ≤ m := by
 obtain ⟨d, hd⟩ : ∃ d, bs.length - k = d := ⟨_, rfl⟩
 induction d generalizing k with
 | zero =>
  obtain rfl : k = bs.length := by omega
  rw [List.take_length]
  exact hm
 | succ d ih =>
  have h1 := ih (k + 1) (by omega) (by omega)
  rw [num_take bs k (by omega)] at h1
  have h2 := hb.at k (by omega)
  have h3 := num_bound bs hb k h
  omega
theorem num_lt8 (bs : List Int) (hb : IsB bs) (k : Nat) (h : k ≤ bs.length) (h8 : k ≤ 8) : num (bs.take k) < 18446744073709551616 := by
 have h1 := (num_bound bs hb k h).2
 have h2 : (256 : Int) ^ k ≤ 256 ^ 8 := by
  have : k = 0 ∨ k = 1 ∨ k = 2 ∨ k = 3 ∨ k = 4 ∨ k = 5 ∨ k = 6 ∨ k = 7 ∨ k = 8 := by omega
  rcases this with rfl | rfl | rfl | rfl | rfl | rfl | rfl | rfl | rfl <;> decide
 omega
def getN (bs : List Int) : Int := if bs.length < 1 ∨ 8 < bs.length ∨ 9223372036854775807 < num bs then -1 else num bs
theorem getN_le (bs : List Int) : getN bs ≤ 9223372036854775807 := by
 unfold getN
 split <;> omega
theorem getN_eight (bs : List Int) (hb : IsB bs) (h : bs.length = 8) : (9223372036854775807 < num bs) ↔ 127 < bs.getD 0 0 := by
 match bs, h with
 | x :: bs, h =>
  have hl : bs.length = 7 := by simpa using h
  have h1 := hb x (by simp)
  have h2 := num_bound bs (fun y hy => hb y (by simp [hy])) 7 (by omega)
  rw [← hl, List.take_length, hl] at h2
  rw [num_cons, hl]
  simp only [List.getD_cons_zero]
  omega
theorem getN_few (bs : List Int) (hb : IsB bs) (h : bs.length ≤ 7) : num bs ≤ 9223372036854775807 := by
 have h1 := num_bound bs hb bs.length (Nat.le_refl _)
 rw [List.take_length] at h1
 generalize bs.length = n at h h1
 have h2 : (256 : Int) ^ n ≤ 256 ^ 7 := by
  have : n = 0 ∨ n = 1 ∨ n = 2 ∨ n = 3 ∨ n = 4 ∨ n = 5 ∨ n = 6 ∨ n = 7 := by omega
  rcases this with rfl | rfl | rfl | rfl | rfl | rfl | rfl | rfl <;> decide
 omega
theorem specGet_any (v : Value) (bs : List Int) (w : World) (hb : IsB bs) (hn : bs.length ≤ 1099511627776) (hv : Rd .u8 w v bs) :
  Calls Tryz.prog 61 #[v] w fun e w' => e = .returned (.int .i64 (getN bs)) ∧ Same w w' := by
 by_cases h : bs.length < 1 ∨ 8 < bs.length
 ·obtain ⟨a, c, rfl⟩ := hv.form
  have e : getN bs = -1 := by unfold getN; rw [if_pos (by omega)]
  rw [e]
  clear hv e hb
  rcases h with h | h
  ·go_enter Tryz.func61, Tryz.ntmps61
   go_wp2
   go_ret
   exact ⟨rfl, Kept.refl _ _⟩
  ·go_enter Tryz.func61, Tryz.ntmps61
   go_wp2
   go_ret
   exact ⟨rfl, Kept.refl _ _⟩
 ·rcases hv.2 with ⟨rfl, _⟩ | ⟨b, off, c, rfl, _, hc⟩
  ·simp at h
  have hc0 := hc 0 (by omega)
  rw [Nat.add_zero] at hc0
  have HC : Hid (∀ i, i < bs.length → w.cell? ⟨b, off + i, none⟩ = some (.int .u8 (bs.getD i 0))) := hc
  have HB : Hid (IsB bs) := hb
  clear hc hv hb hn
  generalize hl : bs.length = len at h ⊢
  have HL : Hid (bs.length = len) := hl
  have h1 : 1 ≤ len := by omega
  have h2 : len ≤ 8 := by omega
  clear hl h
  have hx := HB.out.at 0 (by have := HL.out; omega)
  obtain ⟨x, hx0⟩ : ∃ x, bs.getD 0 0 = x := ⟨_, rfl⟩
  have HX : Hid (bs.getD 0 0 = x) := hx0
  rw [hx0] at hc0 hx
  clear hx0
  obtain ⟨G, hG⟩ : ∃ G, getN bs = G := ⟨_, rfl⟩
  have HGN : Hid (getN bs = G) := hG
  rw [hG]
  clear hG
  by_cases h8 : len = 8
  ·by_cases h127 : 127 < x
   ·have e : getN bs = -1 := by unfold getN; rw [if_pos]; right; right; exact (getN_eight bs HB.out (by rw [HL.out]; exact h8)).2 (by rw [HX.out]; exact h127)
    rw [HGN.out] at e
    subst e
    subst h8
    go_enter Tryz.func61, Tryz.ntmps61
    go_wp2
    go_ret
    exact ⟨rfl, Kept.refl _ _⟩
   ·have HOK : Hid (len ≤ 7 ∨ len = 8 ∧ x ≤ 127) := Or.inr ⟨h8, by omega⟩
    subst h8
    go_enter Tryz.func61, Tryz.ntmps61
    go_wp2
    go_loopw [3, 4] (fun y i wr => ∃ (k : Nat), k ≤ 8 ∧ y = .int .i64 (num (bs.take k)) ∧ i = .int .i64 k ∧ wr = w) (fun _ i _ => 8 - (intOf i).toNat)
    case atStart => exact ⟨0, Nat.zero_le _, by simp [num], by simp, rfl⟩
    case round =>
     obtain ⟨k, hk, rfl, rfl, rfl⟩ := hrel
     have hg : getN bs = num bs := by
      unfold getN
      rw [if_neg]
      have hl := HL.out
      rcases HOK.out with h | h
      ·have := getN_few bs HB.out (by omega)
       omega
      ·have := getN_eight bs HB.out (by omega)
       rw [HX.out] at this
       omega
     have HG : Hid (getN bs = num bs) := hg
     clear hg
     by_cases hlt : k < 8
     ·have hlp : k < bs.length := by rw [HL.out]; exact hlt
      have q1 := HC.out k hlp
      have hb1 := num_bound bs HB.out k (by omega)
      have hb2 := HB.out.at k hlp
      have hb3 : num (bs.take k) * 256 + bs.getD k 0 ≤ 9223372036854775807 := by
       have e := num_take bs k hlp
       rw [← e]
       exact num_le bs HB.out (k + 1) (by omega) (by have := HG.out; have h9 := getN_le bs; omega)
      have HS : Hid (num (bs.take (k + 1)) = num (bs.take k) * 256 + bs.getD k 0) := num_take bs k hlp
      generalize num (bs.take k) = y at *
      generalize bs.getD k 0 = z at *
      obtain ⟨hy0, _⟩ := hb1
      clear hc0
      go_wp2
      go_roundw
      case rel => exact ⟨k + 1, by omega, by rw [HS.out], by go_num, by first | rfl | trivial⟩
      case measure => simp [intOf]; omega
     ·have hke : k = 8 := by omega
      have he : num (bs.take k) = G := by rw [← HGN.out, HG.out, hke, ← HL.out, List.take_length]
      rw [he]
      clear hc0
      go_wp2
      go_ret
      exact ⟨rfl, Kept.refl _ _⟩
  ·have HOK : Hid (len ≤ 7 ∨ len = 8 ∧ x ≤ 127) := Or.inl (by omega)
   go_enter Tryz.func61, Tryz.ntmps61
   go_wp2
   go_loopw [3, 4] (fun y i wr => ∃ (k : Nat), k ≤ len ∧ y = .int .i64 (num (bs.take k)) ∧ i = .int .i64 k ∧ wr = w) (fun _ i _ => len - (intOf i).toNat)
   case atStart => exact ⟨0, Nat.zero_le _, by simp [num], by simp, rfl⟩
   case round =>
    obtain ⟨k, hk, rfl, rfl, rfl⟩ := hrel
    have hg : getN bs = num bs := by
     unfold getN
     rw [if_neg]
     have hl := HL.out
     rcases HOK.out with h | h
     ·have := getN_few bs HB.out (by omega)
      omega
     ·have := getN_eight bs HB.out (by omega)
      rw [HX.out] at this
      omega
    have HG : Hid (getN bs = num bs) := hg
    clear hg
    by_cases hlt : k < len
    ·have hlp : k < bs.length := by rw [HL.out]; exact hlt
     have q1 := HC.out k hlp
     have hb1 := num_bound bs HB.out k (by omega)
     have hb2 := HB.out.at k hlp
     have hb3 : num (bs.take k) * 256 + bs.getD k 0 ≤ 9223372036854775807 := by
      have e := num_take bs k hlp
      rw [← e]
      exact num_le bs HB.out (k + 1) (by omega) (by have := HG.out; have h9 := getN_le bs; omega)
     have HS : Hid (num (bs.take (k + 1)) = num (bs.take k) * 256 + bs.getD k 0) := num_take bs k hlp
     generalize num (bs.take k) = y at *
     generalize bs.getD k 0 = z at *
     obtain ⟨hy0, _⟩ := hb1
     clear hc0
     go_wp2
     go_roundw
     case rel => exact ⟨k + 1, by omega, by rw [HS.out], by go_num, by first | rfl | trivial⟩
     case measure => simp [intOf]; omega
    ·have hke : k = len := by omega
     have he : num (bs.take k) = G := by rw [← HGN.out, HG.out, hke, ← HL.out, List.take_length]
     rw [he]
     clear hc0
     go_wp2
     go_ret
     exact ⟨rfl, Kept.refl _ _⟩
theorem implGet_any (v : Value) (bs : List Int) (w : World) (hb : IsB bs) (hn : bs.length ≤ 1099511627776) (hv : Rd .u8 w v bs) :
  Calls Tryz.prog 144 #[v] w fun e w' => e = .returned (.int .i64 (getN bs)) ∧ Same w w' := by
 by_cases h : bs.length < 1 ∨ 8 < bs.length
 ·obtain ⟨a, c, rfl⟩ := hv.form
  have e : getN bs = -1 := by unfold getN; rw [if_pos (by omega)]
  rw [e]
  clear hv e hb
  rcases h with h | h
  ·go_enter Tryz.func144, Tryz.ntmps144
   go_wp2
   go_ret
   exact ⟨rfl, Kept.refl _ _⟩
  ·go_enter Tryz.func144, Tryz.ntmps144
   go_wp2
   go_ret
   exact ⟨rfl, Kept.refl _ _⟩
 ·rcases hv.2 with ⟨rfl, _⟩ | ⟨b, off, c, rfl, _, hc⟩
  ·simp at h
  have HC : Hid (∀ i, i < bs.length → w.cell? ⟨b, off + i, none⟩ = some (.int .u8 (bs.getD i 0))) := hc
  have HB : Hid (IsB bs) := hb
  clear hc hv hb hn
  generalize hl : bs.length = len at h ⊢
  have HL : Hid (bs.length = len) := hl
  have h1 : 1 ≤ len := by omega
  have h2 : len ≤ 8 := by omega
  clear hl h
  obtain ⟨G, hG⟩ : ∃ G, getN bs = G := ⟨_, rfl⟩
  have HGN : Hid (getN bs = G) := hG
  rw [hG]
  clear hG
  go_enter Tryz.func144, Tryz.ntmps144
  go_wp2
  go_loopw [3, 5, 16] (fun y _ i wr => ∃ (k : Nat), k ≤ len ∧ y = .int .u64 (num (bs.take k)) ∧ i = .int .i64 k ∧ wr = w) (fun _ _ i _ => len - (intOf i).toNat)
  case atStart => exact ⟨0, Nat.zero_le _, by simp [num], by simp, rfl⟩
  case round =>
   obtain ⟨k, hk, rfl, rfl, rfl⟩ := hrel
   by_cases hlt : k < len
   ·have hlp : k < bs.length := by rw [HL.out]; exact hlt
    have q1 := HC.out k hlp
    have hb1 := num_bound bs HB.out k (by omega)
    have hb2 := HB.out.at k hlp
    have hb3 : num (bs.take k) * 256 + bs.getD k 0 < 18446744073709551616 := by
     have e := num_take bs k hlp
     rw [← e]
     exact num_lt8 bs HB.out (k + 1) (by omega) (by omega)
    have HS : Hid (num (bs.take (k + 1)) = num (bs.take k) * 256 + bs.getD k 0) := num_take bs k hlp
    generalize num (bs.take k) = y at *
    generalize bs.getD k 0 = z at *
    obtain ⟨hy0, _⟩ := hb1
    have hor : bits .or .u64 (y * 256) z = y * 256 + z := bits_join .u64 64 (by decide) (fun n h0 h1 => by rw [IntKind.wrap_u64]; omega) 8 _ _ (by omega) (by omega) (by omega) (by omega) (by omega) (by omega)
    go_wp2
    go_roundw
    case rel => exact ⟨k + 1, by omega, by rw [HS.out], by go_num, by first | rfl | trivial⟩
    case measure => simp [intOf]; omega
   ·have hke : k = len := by omega
    have he : num (bs.take k) = num bs := by rw [hke, ← HL.out, List.take_length]
    rw [he]
    have hb1 := num_lt8 bs HB.out len (by have := HL.out; omega) (by omega)
    have hb0 := num_bound bs HB.out len (by have := HL.out; omega)
    rw [← hke, he] at hb1 hb0
    have HG : Hid (getN bs = if 9223372036854775807 < num bs then -1 else num bs) := by
     have hl := HL.out
     have h0 : ¬ bs.length < 1 := by omega
     have h8 : ¬ 8 < bs.length := by omega
     simp [getN, h0, h8, Hid]
    clear he
    generalize num bs = y at *
    by_cases hm : 9223372036854775807 < y
    ·have e := HG.out
     rw [if_pos hm, HGN.out] at e
     go_wp2
     go_ret
     rw [e]
     exact ⟨rfl, Kept.refl _ _⟩
    ·have e := HG.out
     rw [if_neg hm, HGN.out] at e
     obtain ⟨hy0, _⟩ := hb0
     go_wp2
     go_ret
     exact ⟨rfl, Kept.refl _ _⟩
theorem lows_isB (v : Int) (k : Nat) : IsB (lows v k) := by
 induction k with
 | zero => intro y hy; simp [lows] at hy
 | succ k ih =>
  intro y hy
  simp only [lows, List.mem_cons] at hy
  rcases hy with rfl | hy
  ·omega
  ·exact ih y hy
theorem numB_isB (v n : Int) : IsB (numB v n) := by
 unfold numB
 split
 ·intro y hy; simp at hy
 ·exact lows_isB _ _
theorem Rd.mid {k : IntKind} {w : World} {b off c : Nat} {bs : List Int} (h : Rd k w (.slice (some ⟨b, off, none⟩) bs.length c) bs) (o n c' : Nat) (hm : o + n ≤ bs.length) (hc' : n ≤ c') : Rd k w (.slice (some ⟨b, off + o, none⟩) n c') ((bs.drop o).take n) := by
 have hl : ((bs.drop o).take n).length = n := by simp; omega
 refine ⟨by rw [hl]; have := h.1; omega, ?_⟩
 by_cases h0 : n = 0
 ·subst h0
  exact .inl ⟨by simp, _, _, rfl, fun e => by cases e⟩
 ·rcases h.2 with ⟨hn, a, c', e, _⟩ | ⟨b', off', c'', e, hl', hc⟩
  ·rw [hn] at hm
   simp at hm
   omega
  ·cases e
   refine .inr ⟨b, off + o, c', by rw [hl], by omega, fun i hi => ?_⟩
   have := hc (o + i) (by omega)
   rw [Nat.add_assoc, this]
   simp [List.getD, List.getElem?_take, List.getElem?_drop, show i < n by omega]
theorem l3Number_any (b off len c : Nat) (bs : List Int) (at_ n : Nat) (w : World) (hB : IsB bs) (hl : bs.length = len) (hm : len ≤ 1099511627776) (h1 : 1 ≤ n) (h2 : at_ + n ≤ len) (hv : Rd .u8 w (.slice (some ⟨b, off, none⟩) len c) bs) :
  Calls Tryz.prog 52 #[.slice (some ⟨b, off, none⟩) len c, .int .i64 at_, .int .i64 n] w fun e w' => e = .returned (.int .i64 (getN ((bs.drop at_).take n))) ∧ Same w w' := by
 have hc : len ≤ c := by
  rcases hv.2 with ⟨h0, _⟩ | ⟨b', o', c', e, hl', hc⟩
  ·rw [h0] at hl
   simp at hl
   omega
  ·cases e
   omega
 have HR := (show Hid (Rd .u8 w (.slice (some ⟨b, off + at_, none⟩) n (c - at_)) ((bs.drop at_).take n)) from (by subst hl; exact hv.mid at_ n (c - at_) h2 (by omega)))
 have HG := (show Hid (Calls Tryz.prog 61 #[.slice (some ⟨b, off + at_, none⟩) n (c - at_)] w fun e w' => e = .returned (.int .i64 (getN ((bs.drop at_).take n))) ∧ Same w w') from specGet_any _ _ w (isB_take (isB_drop hB at_) n) (by simp; omega) HR.out)
 clear hv hB HR
 have q1 : (at_ : Int) ≤ (at_ : Int) + (n : Int) := by omega
 have q2 : (at_ : Int) + (n : Int) ≤ (c : Int) := by omega
 have q3 : (0 : Int) ≤ (at_ : Int) := by omega
 have q4 : at_ < c := by omega
 have q5 : ¬ c = at_ := by omega
 have q6 : ((at_ : Int) + (n : Int)).toNat = at_ + n := by omega
 have q7 : at_ + n - at_ = n := by omega
 go_enter Tryz.func52, Tryz.ntmps52
 go_wp2_with fail
 with_reducible refine HG.out.mono ?_
 rintro e w1 ⟨rfl, hk1⟩
 go_wp2
 go_ret
 exact ⟨rfl, hk1⟩
theorem addr_add (B o j : Nat) : (⟨B, o, none⟩ : Addr).add j = ⟨B, o + j, none⟩ := by unfold Addr.add; split <;> simp_all
theorem Blk.loads {P : Program} {w : World} {B : Nat} {e : TypeId} {xs : List Value} (h : Blk w B e xs) (o n : Nat) (hn : o + n ≤ xs.length) : (loadCellsFrom ⟨B, o, none⟩ 0 n #[]).run P w = .ok ((xs.drop o).take n).toArray w := by
 have hl : ((xs.drop o).take n).length = n := by simp; omega
 have := run_loadCells_list (P := P) w ⟨B, o, none⟩ ((xs.drop o).take n) (fun j v hv => by
  rw [addr_add, h.cell]
  have hj : j < n := by have := (List.getElem?_eq_some_iff.1 hv).1; omega
  rw [List.getElem?_take_of_lt hj, List.getElem?_drop] at hv
  exact hv)
 simpa [loadCells, hl] using this
theorem Blk.setCells {B : Nat} {e : TypeId} : ∀ (vs : List Value) (o : Nat) {w : World} {xs : List Value}, Blk w B e xs → o + vs.length ≤ xs.length → Blk (w.setCells B o vs) B e (lay xs o vs)
 | [], o, w, xs, h, _ => by rw [lay_nil]; exact h
 | v :: vs, o, w, xs, h, hl => by
  simp only [List.length_cons] at hl
  have := Blk.setCells vs (o + 1) (h.stored o v) (by rw [List.length_set]; omega)
  rw [lay_cons _ _ _ _ hl] at this
  exact this
theorem Kept.setCells {R : Nat → Prop} {a : World} {B : Nat} (hB : a.heap.size ≤ B ∨ R B) : ∀ (vs : List Value) (o : Nat) {b : World}, Kept R a b → Kept R a (b.setCells B o vs)
 | [], _, _, h => h
 | v :: vs, o, b, h => Kept.setCells hB vs (o + 1) (h.setCell (p := ⟨B, o, none⟩) hB v)
theorem Blk.range {w : World} {B : Nat} {e : TypeId} {xs : List Value} (h : Blk w B e xs) (o : Nat) (cs : List Value) (hc : ∀ j v, cs[j]? = some v → xs[o + j]? = some v) : w.rangeAt B o cs := fun j v hv => by
 rw [h.cell]
 exact hc j v hv
theorem Blk.rangeAll {w : World} {B : Nat} {e : TypeId} {xs : List Value} (h : Blk w B e xs) : w.rangeAt B 0 xs := h.range 0 xs (fun j v hv => by rw [Nat.zero_add]; exact hv)
theorem Blk.there {w : World} {B : Nat} {e : TypeId} {xs : List Value} (h : Blk w B e xs) (o n : Nat) (hn : o + n ≤ xs.length) : w.there B o n := fun j hj => ⟨by rw [h.cell, List.getElem?_eq_getElem (by omega)]; rfl, h.frozen _⟩
theorem Kept.ranges {w w' : World} {b o : Nat} {cs : List Value} (hk : Same w w') (h : w.rangeAt b o cs) : w'.rangeAt b o cs := fun j v hv => hk.cellOf (h j v hv) id
theorem Blk.rd {w : World} {B : Nat} {e : TypeId} {bs : List Int} (h : Blk w B e (vals .u8 bs)) (o n c : Nat) (hn : o + n ≤ bs.length) (hc : n ≤ c) (hm : bs.length ≤ maxLen) : Rd .u8 w (.slice (some ⟨B, o, none⟩) n c) ((bs.drop o).take n) := by
 have hl : ((bs.drop o).take n).length = n := by simp; omega
 refine ⟨by omega, .inr ⟨B, o, c, by rw [hl], by omega, fun i hi => ?_⟩⟩
 rw [h.cell, vals_at _ _ _ (by omega)]
 simp [List.getD, List.getElem?_take, show i < n by omega]
theorem run_arrayP (w : World) (ad : Option Addr) (c : Nat) : (Instr.arrayAt 168 (.slice ad 4096 c)).run Tryz.prog w = .ok (.pointer ad) w := by
 simp [Instr.arrayAt, run_underlying Tryz.underlying168]
theorem page_info : (Tryz.prog.info? 168).map (·.size) = some 4096 := by kernel_rfl
theorem rd_range {w : World} {b off c : Nat} {bs : List Int} (h : Rd .u8 w (.slice (some ⟨b, off, none⟩) bs.length c) bs) (hn : 0 < bs.length) : w.rangeAt b off (vals .u8 bs) := fun j v hv => by
 have hj : j < bs.length := by have := (List.getElem?_eq_some_iff.1 hv).1; rwa [vals_length] at this
 rcases h.2 with ⟨h0, _⟩ | ⟨b', o', c', e, _, hc⟩
 ·rw [h0] at hn
  simp at hn
 ·cases e
  rw [hc j hj, ← hv, vals_at _ _ _ hj]
theorem rd_some {w : World} {a : Option Addr} {n c : Nat} {bs : List Int} (h : Rd .u8 w (.slice a n c) bs) (hn : 0 < bs.length) : ∃ b off, a = some ⟨b, off, none⟩ ∧ bs.length ≤ c := by
 rcases h.2 with ⟨h0, _⟩ | ⟨b', o', c', e, hl, hc⟩
 ·rw [h0] at hn
  simp at hn
 ·cases e
  exact ⟨_, _, rfl, hl⟩
def spCells (sum : List Int) (lsn num bot : Int) (sl raw : List Int) : List Value :=
 vals .u8 sum ++ (.int .i64 lsn :: .int .i64 num :: .int .i64 bot :: (vals .i64 sl ++ vals .u8 raw))
structure SP (w : World) (B : Nat) (sum : List Int) (lsn num bot : Int) (sl raw : List Int) : Prop where
 blk : Blk w B 175 (spCells sum lsn num bot sl raw)
 l1 : sum.length = 4
 l2 : sl.length = 64
 l3 : raw.length = 4096
section
variable {w w' : World} {B : Nat} {sum : List Int} {lsn num bot : Int} {sl raw : List Int}
theorem SP.kept {R : Nat → Prop} (h : SP w B sum lsn num bot sl raw) (hk : Kept R w w') (hr : ¬ R B) : SP w' B sum lsn num bot sl raw := ⟨h.blk.kept hk hr, h.l1, h.l2, h.l3⟩
theorem SP.same (h : SP w B sum lsn num bot sl raw) (hk : Same w w') : SP w' B sum lsn num bot sl raw := ⟨h.blk.same hk, h.l1, h.l2, h.l3⟩
theorem spCells_length (h1 : sum.length = 4) (h2 : sl.length = 64) (h3 : raw.length = 4096) : (spCells sum lsn num bot sl raw).length = 4167 := by simp [spCells, vals, h1, h2, h3]
theorem SP.sumAt (h : SP w B sum lsn num bot sl raw) (j : Nat) (hj : j < 4) : w.cell? ⟨B, j, none⟩ = some (.int .u8 (sum.getD j 0)) := by
 rw [h.blk.cell, spCells, List.getElem?_append_left (by rw [vals_length, h.l1]; exact hj), vals_at _ _ _ (by rw [h.l1]; exact hj)]
theorem SP.num3 (h : SP w B sum lsn num bot sl raw) : w.cell? ⟨B, 4, none⟩ = some (.int .i64 lsn) ∧ w.cell? ⟨B, 5, none⟩ = some (.int .i64 num) ∧ w.cell? ⟨B, 6, none⟩ = some (.int .i64 bot) := by
 have e : (vals .u8 sum).length = 4 := by rw [vals_length, h.l1]
 refine ⟨?_, ?_, ?_⟩ <;> rw [h.blk.cell, spCells, List.getElem?_append_right (by rw [e]; decide), e] <;> rfl
theorem SP.slAt (h : SP w B sum lsn num bot sl raw) (j : Nat) (hj : j < 64) : w.cell? ⟨B, 7 + j, none⟩ = some (.int .i64 (sl.getD j 0)) := by
 have e : (vals .u8 sum).length = 4 := by rw [vals_length, h.l1]
 rw [h.blk.cell, spCells, List.getElem?_append_right (by omega), e, show 7 + j - 4 = j + 1 + 1 + 1 from by omega, List.getElem?_cons_succ, List.getElem?_cons_succ, List.getElem?_cons_succ,
  List.getElem?_append_left (by rw [vals_length, h.l2]; exact hj), vals_at _ _ _ (by rw [h.l2]; exact hj)]
theorem SP.rawAt (h : SP w B sum lsn num bot sl raw) (j : Nat) (hj : j < 4096) : w.cell? ⟨B, 71 + j, none⟩ = some (.int .u8 (raw.getD j 0)) := by
 have e : (vals .u8 sum).length = 4 := by rw [vals_length, h.l1]
 have e2 : (vals .i64 sl).length = 64 := by rw [vals_length, h.l2]
 rw [h.blk.cell, spCells, List.getElem?_append_right (by omega), e, show 71 + j - 4 = 64 + j + 1 + 1 + 1 from by omega, List.getElem?_cons_succ, List.getElem?_cons_succ, List.getElem?_cons_succ,
  List.getElem?_append_right (by omega), e2, Nat.add_sub_cancel_left, vals_at _ _ _ (by rw [h.l3]; exact hj)]
theorem SP.rawRange (h : SP w B sum lsn num bot sl raw) : w.rangeAt B 71 (vals .u8 raw) := fun j v hv => by
 have hj : j < 4096 := by have := (List.getElem?_eq_some_iff.1 hv).1; rwa [vals_length, h.l3] at this
 rw [h.rawAt j hj, ← hv, vals_at _ _ _ (by rw [h.l3]; exact hj)]
theorem SP.slRange (h : SP w B sum lsn num bot sl raw) : w.rangeAt B 7 (vals .i64 sl) := fun j v hv => by
 have hj : j < 64 := by have := (List.getElem?_eq_some_iff.1 hv).1; rwa [vals_length, h.l2] at this
 rw [h.slAt j hj, ← hv, vals_at _ _ _ (by rw [h.l2]; exact hj)]
end
/-! ### What is written from the front on -/
def cont (A raw : List Int) : List Int := A ++ raw.drop A.length
theorem cont_nil (raw : List Int) : cont [] raw = raw := by simp [cont]
theorem cont_length (A raw : List Int) (h : A.length ≤ raw.length) : (cont A raw).length = raw.length := by simp [cont]; omega
theorem lay_cont (A raw xs : List Int) (h : A.length + xs.length ≤ raw.length) : lay (vals .u8 (cont A raw)) A.length (vals .u8 xs) = vals .u8 (cont (A ++ xs) raw) := by
 unfold lay cont
 simp [vals, Nat.add_comm]
 rw [List.drop_append, List.drop_of_length_le (by simp), List.drop_drop, List.nil_append, List.length_map]
 congr 1
 omega
theorem Blk.more {w : World} {B : Nat} {e : TypeId} {A raw : List Int} (n : Nat) (xs : List Int) (h : Blk w B e (lay (vals .u8 (cont A raw)) n (vals .u8 xs))) (hn : n = A.length) (hl : A.length + xs.length ≤ raw.length) : Blk w B e (vals .u8 (cont (A ++ xs) raw)) := by
 subst hn
 rwa [lay_cont _ _ _ hl] at h
def headB (sum : List Int) (lsn num bot : Int) : List Int := sum ++ lows lsn 8 ++ lows num 4 ++ lows bot 2 ++ lows 0 2
theorem headB_length (sum : List Int) (lsn num bot : Int) (h : sum.length = 4) : (headB sum lsn num bot).length = 20 := by simp [headB, lows_length, h]
def slotB (sl : List Int) : List Int := sl.flatMap fun x => lows x 2
theorem slotB_length (sl : List Int) : (slotB sl).length = 2 * sl.length := by
 induction sl with
 | nil => rfl
 | cons x sl ih => simp only [slotB, List.flatMap_cons, List.length_append, lows_length, List.length_cons] at ih ⊢; omega
theorem slotB_take (sl : List Int) (k : Nat) (h : k < sl.length) : slotB (sl.take (k + 1)) = slotB (sl.take k) ++ lows (sl.getD k 0) 2 := by
 unfold slotB
 rw [List.take_succ_eq_append_getElem h, List.flatMap_append]
 simp [h]
def encB (sum : List Int) (lsn num bot : Int) (sl raw : List Int) : List Int := cont (headB sum lsn num bot ++ slotB sl) raw
theorem encB_length {sum : List Int} {lsn num bot : Int} {sl raw : List Int} (h1 : sum.length = 4) (h2 : sl.length = 64) (h3 : raw.length = 4096) : (encB sum lsn num bot sl raw).length = 4096 := by
 unfold encB
 rw [cont_length, h3]
 rw [List.length_append, headB_length _ _ _ _ h1, slotB_length, h2, h3]
 decide
section
variable {P : Program} {ops : Array Oper} {o : Oper} {a : Act} {w : World} {K : Act → World → Prop} {Q : Exit → Act → World → Prop} {E : Prop}
theorem step_copy_blk {B off dl dc sl sc : Nat} {e tb : TypeId} {ad : Addr} {xs : List Value} (hgd : o.guard = none) (d s : Operand) (T : TypeId) (ho : o.op = .call { callee := .builtin .copy, args := #[d, s], argTypes := #[T, T] })
  (hu : P.underlying T = some (.slice tb)) (hsz : (P.info? tb).map (·.size) = some 1) (cs : List Value) (hb : Blk w B e xs) (hd : a.eval d = .slice (some ⟨B, off, none⟩) dl dc) (hs : a.eval s = .slice (some ad) sl sc)
  (hn : cs.length = Nat.min sl dl) (hsrc : ∀ j v, cs[j]? = some v → w.cell? (ad.add j) = some v) (hfit : off + cs.length ≤ xs.length) (h1 : ∀ v ∈ cs, v.oneCell' = true)
  (h : K (a.put o.dst (goInt cs.length)) (w.setCells B off cs)) :
  if Region.wanted o (yielded ops a.tmps) = true then Oper.wp P o a w K Q else E := by
 have hw : Region.wanted o (yielded ops a.tmps) = true := by simp [Region.wanted, hgd]
 rw [if_pos hw]
 have hrun := run_copy_cells (P := P) w T T o.type tb B off dl dc ad sl sc cs hu hsz hn hsrc (fun j hj => by rw [hb.cell, List.getElem?_eq_getElem (by omega)]; rfl) (fun j _ => hb.frozen _) h1
 unfold Oper.wp
 simp [execOp, ho, resolve, invoke, builtin, hd, hs, hrun, Result.andThen]
 exact h
end
theorem byte_size : (Tryz.prog.info? 5).map (·.size) = some 1 := by
 obtain ⟨i0, hi, hz0, hz1, hz2⟩ := info_parts Tryz.infoByte'
 simp [hi, hz1]
set_option maxRecDepth 100000 in
theorem slot_at (sl : List Int) (hl : sl.length = 64) (k : Nat) (hk : k < 32) (w : World) : (Instr.index 173 (.agg (vals .i64 sl).toArray) (.int .i64 k)).run Tryz.prog w = .ok (.agg #[.int .i64 (sl.getD (2 * k) 0), .int .i64 (sl.getD (2 * k + 1) 0)]) w := by
 have hz : ∀ w, (sizeOf 172).run Tryz.prog w = .ok 2 w := by
  have h : (Tryz.prog.info? 172).map (·.size) = some 2 := by kernel_rfl
  intro w
  cases hq : Tryz.prog.info? 172 with
  | none => simp [hq] at h
  | some i =>
   have hi : i.size = 2 := by simpa [hq] using h
   simp [sizeOf, typeInfo, hq, hi]
 have h1 : (k : Int) < 32 := by omega
 simp [Instr.index, run_underlying Tryz.underlying173, asIntOf, hz, h1, go_sem]
 rw [if_pos hk]
 have hv : (vals .i64 sl).length = 64 := by rw [vals_length, hl]
 rw [Nat.mul_comm k 2, List.drop_eq_getElem_cons (by omega : 2 * k < (vals .i64 sl).length), List.drop_eq_getElem_cons (by omega : 2 * k + 1 < (vals .i64 sl).length)]
 simp [vals, List.getElem?_eq_getElem (show 2 * k < sl.length by omega), List.getElem?_eq_getElem (show 2 * k + 1 < sl.length by omega)]
theorem write_more {w : World} {B : Nat} {e : TypeId} {A raw : List Int} (o n c : Nat) (x : Int) (hb : Blk w B e (vals .u8 (cont A raw))) (ho : o = A.length) (hl : o + n ≤ raw.length) (hm : raw.length = 4096) (h0 : 0 ≤ x) (h1 : x ≤ 9223372036854775807) :
  Calls Tryz.prog 29 #[.slice (some ⟨B, o, none⟩) n c, .int .i64 x] w fun e' w' => e' = .returned (.tuple #[]) ∧ Blk w' B e (vals .u8 (cont (A ++ lows x n) raw)) ∧ Kept (fun b => b = B) w w' := by
 refine (writeNumber_any B o n c e _ x w hb (by rw [vals_length, cont_length _ _ (by omega)]; exact hl) h0 h1 (by omega)).mono ?_
 rintro e' w' ⟨rfl, hb', hk⟩
 exact ⟨rfl, Blk.more o (lows x n) hb' ho (by rw [lows_length]; omega), hk⟩
structure Num3 (lsn num bot : Int) (sl : List Int) : Prop where
 a : 0 ≤ lsn ∧ lsn ≤ 9223372036854775807
 b : 0 ≤ num ∧ num ≤ 9223372036854775807
 c : 0 ≤ bot ∧ bot ≤ 9223372036854775807
 d : ∀ x ∈ sl, 0 ≤ x ∧ x ≤ 9223372036854775807
theorem Num3.at {lsn num bot : Int} {sl : List Int} (h : Num3 lsn num bot sl) (k : Nat) : 0 ≤ sl.getD k 0 ∧ sl.getD k 0 ≤ 9223372036854775807 := by
 by_cases hk : k < sl.length
 ·have : sl.getD k 0 = sl[k] := by simp [hk]
  rw [this]
  exact h.d _ (List.getElem_mem hk)
 ·simp [List.getD, List.getElem?_eq_none (show sl.length ≤ k by omega)]
structure EncS (w wx : World) (B : Nat) (sum : List Int) (lsn num bot : Int) (sl raw A : List Int) : Prop where
 sp : SP wx B sum lsn num bot sl raw
 arr : Blk wx (w.heap.size + 1) 168 (vals .u8 (cont A raw))
 res : Blk wx w.heap.size 168 Tryz.zeroCells168.toList
 same : Same w wx
 sz : w.heap.size + 2 ≤ wx.heap.size
 lt : B < w.heap.size
theorem EncS.next {w wx wy : World} {B : Nat} {sum : List Int} {lsn num bot : Int} {sl raw A A' : List Int} (h : EncS w wx B sum lsn num bot sl raw A) (hk : Kept (fun b => b = w.heap.size + 1) wx wy) (hb : Blk wy (w.heap.size + 1) 168 (vals .u8 (cont A' raw))) : EncS w wy B sum lsn num bot sl raw A' :=
 have hlt := h.lt
 ⟨h.sp.kept hk (by omega), hb, h.res.kept hk (by omega), h.same.next hk (fun i hi e => by omega), Nat.le_trans h.sz hk.size, h.lt⟩
theorem EncS.on {w wx wy : World} {B : Nat} {sum : List Int} {lsn num bot : Int} {sl raw A : List Int} (h : EncS w wx B sum lsn num bot sl raw A) (hk : Same wx wy) : EncS w wy B sum lsn num bot sl raw A :=
 ⟨h.sp.same hk, h.arr.same hk, h.res.same hk, h.same.trans hk, Nat.le_trans h.sz hk.size, h.lt⟩
theorem encode_any (B : Nat) (sum : List Int) (lsn num bot : Int) (sl raw : List Int) (w : World) (hp : SP w B sum lsn num bot sl raw) (hn : Num3 lsn num bot sl) :
  Calls Tryz.prog 145 #[.pointer (some ⟨B, 0, none⟩)] w fun e w' => e = .returned (.agg (vals .u8 (encB sum lsn num bot sl raw)).toArray) ∧ Same w w' := by
 have hBw := hp.blk.lt
 have hl3 := hp.l3
 have HP := (show Hid (SP w B sum lsn num bot sl raw) from hp)
 have HN := (show Hid (Num3 lsn num bot sl) from hn)
 have hz80 : Tryz.zeroCells168.toList.length = 4096 := by rw [Array.length_toList]; exact Tryz.zeroCells168_size
 have hrl : (vals .u8 raw).length = 4096 := by rw [vals_length, hl3]
 have HRG := (show Hid ((w.alloc (.cells Tryz.zeroCells168 168)).rangeAt B 71 (vals .u8 raw)) from (hp.same ((Kept.refl _ _).alloc _)).rawRange)
 have HI := (show Hid ((Tryz.prog.info? 168).map (·.size) = some (vals .u8 raw).length) from (by rw [hrl]; exact page_info : (Tryz.prog.info? 168).map (·.size) = some (vals .u8 raw).length))
 have HI2 := (show Hid ((Tryz.prog.info? 168).map (·.size) = some (vals .u8 raw).toArray.size) from (by rw [List.size_toArray]; exact HI.out : (Tryz.prog.info? 168).map (·.size) = some (vals .u8 raw).toArray.size))
 have HONE := (show Hid ((vals .u8 raw).toArray.all (·.oneCell') = true) from all_oneCell_toArray vals_one)
 obtain ⟨cs, hcs⟩ : ∃ cs : List Value, vals .u8 raw = cs := ⟨_, rfl⟩
 have HCS := (show Hid (vals .u8 raw = cs) from hcs)
 have HT := (show Hid (((w.alloc (.cells Tryz.zeroCells168 168)).alloc (.cells Tryz.zeroCells168 168)).there (w.heap.size + 1) 0 (vals .u8 raw).toArray.size) from by
  have h := Blk.new (w.alloc (.cells Tryz.zeroCells168 168)) Tryz.zeroCells168 168
  rw [World.size_alloc] at h
  exact h.there 0 _ (by rw [List.size_toArray, hrl, hz80]; decide))
 rw [hcs] at HRG HI HI2 HONE HT
 clear hcs hp hn hrl
 go_enter Tryz.func145, Tryz.ntmps145
 go_wp2_with (first | (refine wpList_load_mid rfl 168 _ rfl B 71 rfl cs _ HRG.out Tryz.underlying168 rfl HI.out ?_) | (refine wpList_store_mid rfl 168 _ _ rfl (w.heap.size + 1) 0 cs.toArray rfl rfl HT.out HI2.out HONE.out ?_))
 obtain ⟨w1, hw1⟩ : ∃ w1, ((w.alloc (.cells Tryz.zeroCells168 168)).alloc (.cells Tryz.zeroCells168 168)).setCells (w.heap.size + 1) 0 cs = w1 := ⟨_, rfl⟩
 have HE1 := (show Hid (EncS w w1 B sum lsn num bot sl raw ([])) from by
  rw [← hw1, ← HCS.out]
  have ha := Blk.new (w.alloc (.cells Tryz.zeroCells168 168)) Tryz.zeroCells168 168
  rw [World.size_alloc] at ha
  have hb := ha.setCells (vals .u8 raw) 0 (by rw [hz80, vals_length, hl3]; decide)
  rw [lay_all _ _ (by rw [hz80, vals_length, hl3])] at hb
  have hk0 : Same w ((w.alloc (.cells Tryz.zeroCells168 168)).alloc (.cells Tryz.zeroCells168 168)) := ((Kept.refl _ _).alloc _).alloc _
  have hk1 := Kept.setCells (R := fun b => b = w.heap.size + 1) (a := (w.alloc (.cells Tryz.zeroCells168 168)).alloc (.cells Tryz.zeroCells168 168)) (B := w.heap.size + 1) (.inr rfl) (vals .u8 raw) 0 (Kept.refl _ _)
  refine ⟨(HP.out.same hk0).kept hk1 (by omega), by rw [cont_nil]; exact hb, (((Blk.new w _ _).alloc _).kept hk1 (by omega)), hk0.next hk1 (fun i hi e => by omega), ?_, hBw⟩
  have := hk1.size
  simp at this
  omega)
 rw [hw1]
 clear hw1 HRG HT HONE HI HI2 HCS hz80
 have hS : (fun _ : World => True) w1.drew := by trivial
 refine wp_region_V (fun _ : World => True) 99 6 rfl (by kernel_rfl) ?_
 refine tk 0 11 hS ?_
 refine tk 1 12 hS ?_
 refine tk 2 13 hS ?_
 refine tk 3 14 hS ?_
 refine tk 4 15 hS ?_
 refine wpAnyV_one (i := 5) (by kernel_rfl) rfl (fun K hK => ?_)
 have hE := HE1.out.on (Kept.refl _ _).drew
 have hsl4 : (vals .u8 sum).length = 4 := by rw [vals_length, hE.sp.l1]
 refine step_copy_blk (by rfl) _ _ 22 (by rfl) Tryz.underlying22 byte_size (vals .u8 sum) hE.arr (by rfl) (by rfl) (by rw [hsl4]; decide) (fun j u hu => ?_) (by rw [hsl4, vals_length, cont_length _ _ (by simp), hl3]; decide) vals_one ?_
 ·have hj : j < 4 := by have := (List.getElem?_eq_some_iff.1 hu).1; rwa [hsl4] at this
  rw [addr_add, Nat.zero_add, hE.sp.sumAt j hj, ← hu, vals_at _ _ _ (by rw [hE.sp.l1]; exact hj)]
 have hb2 := hE.arr.setCells (vals .u8 sum) 0 (by rw [hsl4, vals_length, cont_length _ _ (by simp), hl3]; decide)
 have hb3 := Blk.more 0 sum hb2 rfl (by rw [hE.sp.l1, hl3]; decide)
 have hk2 := Kept.setCells (R := fun b => b = w.heap.size + 1) (a := w1.drew) (B := w.heap.size + 1) (.inr rfl) (vals .u8 sum) 0 (Kept.refl _ _)
 obtain ⟨w2, hw2⟩ : ∃ w2, w1.drew.setCells (w.heap.size + 1) 0 (vals .u8 sum) = w2 := ⟨_, rfl⟩
 rw [hw2] at hb3 hk2 ⊢
 have HE2 := (show Hid (EncS w w2 B sum lsn num bot sl raw ([] ++ sum)) from hE.next hk2 hb3)
 clear hw2
 clear hb2 hb3 hk2 hE hS HE1
 rw [hsl4]
 show K (Act.put _ (some 16) (.int .i64 4)) _
 refine hK.out _ _ (fun _ => trivial) ?_
 clear hK K
 refine wpAnyV_done (by kernel_rfl) ?_
 try simp only [Act.put, sA, s0, sS]
 go_wp2_with fail
 have hE := HE2.out.on (Kept.refl _ _).drew
 have hS : (fun wx : World => wx.cell? ⟨B, 4, none⟩ = some (.int .i64 lsn)) w2.drew := by exact hE.sp.num3.1
 refine wp_region_V (fun wx : World => wx.cell? ⟨B, 4, none⟩ = some (.int .i64 lsn)) 99 6 rfl (by kernel_rfl) ?_
 refine tk 0 17 hS ?_
 refine tk 1 18 hS ?_
 refine tk 2 19 hS ?_
 refine tk 3 20 hS ?_
 refine tk 4 21 hS ?_
 refine wpAnyV_one (i := 5) (by kernel_rfl) rfl (fun K hK => ?_)
 go_simp
 have hc := write_more 4 8 4092 lsn hE.arr (by simp [hE.sp.l1, lows_length]) (by rw [hl3]; decide) hl3 HN.out.a.1 HN.out.a.2
 with_reducible refine hc.mono ?_
 rintro e w3 ⟨rfl, hb, hk⟩
 have HE3 := (show Hid (EncS w w3 B sum lsn num bot sl raw ([] ++ sum ++ lows lsn 8)) from hE.next hk hb)
 have hS2 : (fun wx : World => wx.cell? ⟨B, 4, none⟩ = some (.int .i64 lsn)) w3 := HE3.out.sp.num3.1
 clear hb hk hE hc hS
 refine hK.out _ _ (fun _ => hS2) ?_
 clear hK K hS2 HE2
 refine wpAnyV_done (by kernel_rfl) ?_
 try simp only [Act.put, sA, s0, sS]
 go_wp2_with fail
 have hE := HE3.out.on (Kept.refl _ _).drew
 have hS : (fun wx : World => wx.cell? ⟨B, 5, none⟩ = some (.int .i64 num)) w3.drew := by exact hE.sp.num3.2.1
 refine wp_region_V (fun wx : World => wx.cell? ⟨B, 5, none⟩ = some (.int .i64 num)) 99 6 rfl (by kernel_rfl) ?_
 refine tk 0 23 hS ?_
 refine tk 1 24 hS ?_
 refine tk 2 25 hS ?_
 refine tk 3 26 hS ?_
 refine tk 4 27 hS ?_
 refine wpAnyV_one (i := 5) (by kernel_rfl) rfl (fun K hK => ?_)
 go_simp
 have hc := write_more 12 4 4084 num hE.arr (by simp [hE.sp.l1, lows_length]) (by rw [hl3]; decide) hl3 HN.out.b.1 HN.out.b.2
 with_reducible refine hc.mono ?_
 rintro e w4 ⟨rfl, hb, hk⟩
 have HE4 := (show Hid (EncS w w4 B sum lsn num bot sl raw ([] ++ sum ++ lows lsn 8 ++ lows num 4)) from hE.next hk hb)
 have hS2 : (fun wx : World => wx.cell? ⟨B, 5, none⟩ = some (.int .i64 num)) w4 := HE4.out.sp.num3.2.1
 clear hb hk hE hc hS
 refine hK.out _ _ (fun _ => hS2) ?_
 clear hK K hS2 HE3
 refine wpAnyV_done (by kernel_rfl) ?_
 try simp only [Act.put, sA, s0, sS]
 go_wp2_with fail
 have hE := HE4.out.on (Kept.refl _ _).drew
 have hS : (fun wx : World => wx.cell? ⟨B, 6, none⟩ = some (.int .i64 bot)) w4.drew := by exact hE.sp.num3.2.2
 refine wp_region_V (fun wx : World => wx.cell? ⟨B, 6, none⟩ = some (.int .i64 bot)) 99 6 rfl (by kernel_rfl) ?_
 refine tk 0 29 hS ?_
 refine tk 1 30 hS ?_
 refine tk 2 31 hS ?_
 refine tk 3 32 hS ?_
 refine tk 4 33 hS ?_
 refine wpAnyV_one (i := 5) (by kernel_rfl) rfl (fun K hK => ?_)
 go_simp
 have hc := write_more 16 2 4080 bot hE.arr (by simp [hE.sp.l1, lows_length]) (by rw [hl3]; decide) hl3 HN.out.c.1 HN.out.c.2
 with_reducible refine hc.mono ?_
 rintro e w5 ⟨rfl, hb, hk⟩
 have HE5 := (show Hid (EncS w w5 B sum lsn num bot sl raw ([] ++ sum ++ lows lsn 8 ++ lows num 4 ++ lows bot 2)) from hE.next hk hb)
 have hS2 : (fun wx : World => wx.cell? ⟨B, 6, none⟩ = some (.int .i64 bot)) w5 := HE5.out.sp.num3.2.2
 clear hb hk hE hc hS
 refine hK.out _ _ (fun _ => hS2) ?_
 clear hK K hS2 HE4
 refine wpAnyV_done (by kernel_rfl) ?_
 try simp only [Act.put, sA, s0, sS]
 have hc := write_more 18 2 4078 0 HE5.out.arr (by simp [HE5.out.sp.l1, lows_length]) (by rw [hl3]; decide) hl3 (by decide) (by decide)
 have HIs := (show Hid ((Tryz.prog.info? 173).map (·.size) = some (vals .i64 sl).length) from (by rw [vals_length, HP.out.l2]; exact (by kernel_rfl : (Tryz.prog.info? 173).map (·.size) = some 64) : (Tryz.prog.info? 173).map (·.size) = some (vals .i64 sl).length))
 obtain ⟨ss, hss⟩ : ∃ ss : List Value, vals .i64 sl = ss := ⟨_, rfl⟩
 have HSS := (show Hid (vals .i64 sl = ss) from hss)
 rw [hss] at HIs
 clear hss
 go_wp2_with (first
  | (go_at_call 29; refine hc.mono ?_; rintro e w6 ⟨rfl, hb6, hk6⟩; have HE6 := (show Hid (EncS w w6 B sum lsn num bot sl raw ([] ++ sum ++ lows lsn 8 ++ lows num 4 ++ lows bot 2 ++ lows 0 2)) from HE5.out.next hk6 hb6); have HRs := (show Hid (w6.rangeAt B 7 ss) from (by rw [← HSS.out]; exact HE6.out.sp.slRange : w6.rangeAt B 7 ss)); clear hb6 hk6 hc)
  | (refine wpList_load_mid rfl 173 _ rfl B 7 rfl ss _ HRs.out Tryz.underlying173 rfl HIs.out ?_))
 go_loopw [4, 5, 6, 41] (fun _ _ _ i wr => ∃ k : Nat, k ≤ 32 ∧ i = .int .i64 k ∧ Hid (EncS w wr B sum lsn num bot sl raw (headB sum lsn num bot ++ slotB (sl.take (2 * k))))) (fun _ _ _ i _ => 32 - (intOf i).toNat)
 case atStart => exact ⟨0, by omega, rfl, by simpa [slotB, headB] using HE6⟩
 case round =>
  obtain ⟨k, hk, rfl, HEr⟩ := hrel
  by_cases hlt : k < 32
  ·have hk2 : (k : Int) < 32 := by omega
   have hix := fun w => slot_at sl HP.out.l2 k hlt w
   rw [HSS.out] at hix
   have HXB := (show Hid (_) from HN.out.at (2 * k))
   have HYB := (show Hid (_) from HN.out.at (2 * k + 1))
   have HTk := (show Hid (slotB (sl.take (2 * (k + 1))) = slotB (sl.take (2 * k)) ++ lows (sl.getD (2 * k) 0) 2 ++ lows (sl.getD (2 * k + 1) 0) 2) from (by rw [show 2 * (k + 1) = 2 * k + 1 + 1 from by omega, slotB_take _ _ (by rw [HP.out.l2]; omega), slotB_take _ _ (by rw [HP.out.l2]; omega)] : slotB (sl.take (2 * (k + 1))) = _))
   have HTl := (show Hid ((slotB (sl.take (2 * k))).length = 4 * k) from (by rw [slotB_length, List.length_take, HP.out.l2]; omega : (slotB (sl.take (2 * k))).length = 4 * k))
   generalize sl.getD (2 * k) 0 = x at *
   generalize sl.getD (2 * k + 1) 0 = y at *
   have hlh := headB_length sum lsn num bot HP.out.l1
   go_wp2_with fail
   obtain ⟨oo, hoo⟩ : ∃ oo : Nat, 20 + 4 * k = oo := ⟨_, rfl⟩
   have e1 : (20 + (k : Int) * 4) = (oo : Int) := by omega
   rw [e1]
   have HE7 := (show Hid (EncS w (wr.alloc (.cells #[.int .i64 x, .int .i64 y] 172)) B sum lsn num bot sl raw (headB sum lsn num bot ++ slotB (sl.take (2 * k)))) from HEr.out.on ((Kept.refl _ _).alloc _))
   have hb7 := Blk.new wr #[.int .i64 x, .int .i64 y] 172
   have hwr := HEr.out.sz
   obtain ⟨w7, hw7⟩ : ∃ w7, wr.alloc (.cells #[.int .i64 x, .int .i64 y] 172) = w7 := ⟨_, rfl⟩
   rw [hw7] at HE7 hb7 ⊢
   have HB7 := (show Hid (Blk w7 wr.heap.size 172 [.int .i64 x, .int .i64 y]) from hb7)
   clear hw7 hb7
   have o1 : (oo : Int) + 2 ≤ 4096 := by omega
   have o2 : (0 : Int) ≤ (oo : Int) := by omega
   have o3 : IntKind.i64.wrap ((oo : Int) + 2) = (oo : Int) + 2 := by rw [IntKind.wrap_i64]; omega
   have o4 : (oo : Int) ≤ (oo : Int) + 2 := by omega
   have o5 : ((oo : Int) + 2).toNat = oo + 2 := by omega
   have o6 : oo + 2 - oo = 2 := by omega
   have o7 : oo < 4096 := by omega
   have o8 : ¬ 4096 = oo := by omega
   have p3 : IntKind.i64.wrap ((oo : Int) + 4) = (oo : Int) + 4 := by rw [IntKind.wrap_i64]; omega
   have p1 : (oo : Int) + 4 ≤ 4096 := by omega
   have p4 : (oo : Int) + 2 ≤ (oo : Int) + 4 := by omega
   have p2 : (0 : Int) ≤ (oo : Int) + 2 := by omega
   have p5 : ((oo : Int) + 4).toNat = oo + 4 := by omega
   have p6 : oo + 4 - (oo + 2) = 2 := by omega
   have p7 : oo + 2 < 4096 := by omega
   have p8 : ¬ 4096 = oo + 2 := by omega
   have hS : (fun wx : World => wx.cell? ⟨wr.heap.size, 0, none⟩ = some (.int .i64 x)) w7.drew := by (have h := HB7.out.drew.cell 0; simpa using h)
   refine wp_region_V (fun wx : World => wx.cell? ⟨wr.heap.size, 0, none⟩ = some (.int .i64 x)) 99 7 rfl (by kernel_rfl) ?_
   refine tk 0 48 hS ?_
   refine tk 1 49 hS ?_
   refine tk 2 50 hS ?_
   refine tk 3 51 hS ?_
   refine tk 4 52 hS ?_
   refine tk 5 53 hS ?_
   refine wpAnyV_one (i := 6) (by kernel_rfl) rfl (fun K hK => ?_)
   go_simp
   have hE := HE7.out.on (Kept.refl _ _).drew
   have hc := write_more oo 2 (4096 - oo) x hE.arr (by rw [List.length_append, hlh, HTl.out]; omega) (by rw [hl3]; omega) hl3 HXB.out.1 HXB.out.2
   with_reducible refine hc.mono ?_
   rintro e w8 ⟨rfl, hb, hk8⟩
   have HE8 := (show Hid (EncS w w8 B sum lsn num bot sl raw (headB sum lsn num bot ++ slotB (sl.take (2 * k)) ++ lows x 2)) from hE.next hk8 hb)
   have HB8 := (show Hid (Blk w8 wr.heap.size 172 [.int .i64 x, .int .i64 y]) from (HB7.out.drew.kept hk8 (by omega)))
   have hS2 : (fun wx : World => wx.cell? ⟨wr.heap.size, 0, none⟩ = some (.int .i64 x)) w8 := by have h := HB8.out.cell 0; simpa using h
   clear hb hk8 hE hc hS
   refine hK.out _ _ (fun _ => hS2) ?_
   clear hK K hS2 HE7 HB7
   refine wpAnyV_done (by kernel_rfl) ?_
   try simp only [Act.put, sA, s0, sS]
   go_wp2_with fail
   have hS : (fun wx : World => wx.cell? ⟨wr.heap.size, 1, none⟩ = some (.int .i64 y)) w8.drew := by (have h := HB8.out.drew.cell 1; simpa using h)
   refine wp_region_V (fun wx : World => wx.cell? ⟨wr.heap.size, 1, none⟩ = some (.int .i64 y)) 99 8 rfl (by kernel_rfl) ?_
   refine tk 0 55 hS ?_
   refine tk 1 56 hS ?_
   refine tk 2 57 hS ?_
   refine tk 3 58 hS ?_
   refine tk 4 59 hS ?_
   refine tk 5 60 hS ?_
   refine tk 6 61 hS ?_
   refine wpAnyV_one (i := 7) (by kernel_rfl) rfl (fun K hK => ?_)
   go_simp
   have hE := HE8.out.on (Kept.refl _ _).drew
   have hc := write_more (oo + 2) 2 (4094 - oo) y hE.arr (by rw [List.length_append, List.length_append, hlh, HTl.out, lows_length]; omega) (by rw [hl3]; omega) hl3 HYB.out.1 HYB.out.2
   with_reducible refine hc.mono ?_
   rintro e w9 ⟨rfl, hb, hk9⟩
   have HE9 := (show Hid (EncS w w9 B sum lsn num bot sl raw (headB sum lsn num bot ++ slotB (sl.take (2 * (k + 1))))) from (by rw [HTk.out, ← List.append_assoc, ← List.append_assoc]; exact hE.next hk9 hb))
   have hS2 : (fun wx : World => wx.cell? ⟨wr.heap.size, 1, none⟩ = some (.int .i64 y)) w9 := by have h := (HB8.out.drew.kept hk9 (by omega)).cell 1; simpa using h
   clear hb hk9 hE hc hS
   refine hK.out _ _ (fun _ => hS2) ?_
   clear hK K hS2 HE8 HB8
   refine wpAnyV_done (by kernel_rfl) ?_
   try simp only [Act.put, sA, s0, sS]
   go_wp2
   go_roundw
   case rel => exact ⟨k + 1, by omega, by go_num, HE9⟩
   case measure => simp [intOf]; omega
  ·obtain rfl : k = 32 := by omega
   have hA : headB sum lsn num bot ++ slotB (sl.take (2 * 32)) = headB sum lsn num bot ++ slotB sl := by rw [List.take_of_length_le (by rw [HP.out.l2]; decide)]
   have hE := HEr.out
   rw [hA] at hE
   have hel : (encB sum lsn num bot sl raw).length = 4096 := encB_length HP.out.l1 HP.out.l2 hl3
   have harr : Blk wr (w.heap.size + 1) 168 (vals .u8 (encB sum lsn num bot sl raw)) := hE.arr
   obtain ⟨ds, hds⟩ : ∃ ds : List Value, vals .u8 (encB sum lsn num bot sl raw) = ds := ⟨_, rfl⟩
   have hdl : ds.length = 4096 := by rw [← hds, vals_length, hel]
   have HDS := (show Hid (vals .u8 (encB sum lsn num bot sl raw) = ds) from hds)
   have HONE := (show Hid (ds.toArray.all (·.oneCell') = true) from (by rw [← hds]; exact all_oneCell_toArray vals_one : ds.toArray.all (·.oneCell') = true))
   rw [hds] at harr
   have hz80 : Tryz.zeroCells168.toList.length = 4096 := by rw [Array.length_toList]; exact Tryz.zeroCells168_size
   have HRG := (show Hid (wr.rangeAt (w.heap.size + 1) 0 ds) from harr.rangeAll)
   have HTH := (show Hid (wr.there w.heap.size 0 ds.toArray.size) from hE.res.there 0 _ (by rw [List.size_toArray, hdl, hz80]; decide))
   have hb5 := hE.res.setCells ds 0 (by rw [hdl, hz80]; decide)
   rw [lay_all _ _ (by rw [hdl, hz80])] at hb5
   have HRG2 := (show Hid ((wr.setCells w.heap.size 0 ds).rangeAt w.heap.size 0 ds) from hb5.rangeAll)
   have HI := (show Hid ((Tryz.prog.info? 168).map (·.size) = some ds.length) from (by rw [hdl]; exact page_info : (Tryz.prog.info? 168).map (·.size) = some ds.length))
   have HI2 := (show Hid ((Tryz.prog.info? 168).map (·.size) = some ds.toArray.size) from (by rw [List.size_toArray]; exact HI.out : (Tryz.prog.info? 168).map (·.size) = some ds.toArray.size))
   have HKe := (show Hid (Same w (wr.setCells w.heap.size 0 ds)) from Kept.setCells (.inl (Nat.le_refl _)) ds 0 hE.same)
   clear hds hdl hel harr hb5 hE hz80 HEr hA
   go_wp2_with (first | (refine wpList_load_mid rfl 168 _ rfl (w.heap.size + 1) 0 rfl ds _ HRG.out Tryz.underlying168 rfl HI.out ?_) | (refine wpList_store_mid rfl 168 _ _ rfl w.heap.size 0 ds.toArray rfl rfl HTH.out HI2.out HONE.out ?_))
   have hlv := run_loadVar_mid (P := Tryz.prog) _ w.heap.size 0 168 ds _ HRG2.out Tryz.underlying168 rfl HI.out
   refine bodyPost_ret (v := .agg ds.toArray) ?_ rfl ?_
   ·try simp only [Act.put, List.setIfInBounds_toArray, List.set_cons_zero, List.set_cons_succ]
    simp [results, Tryz.results145, asAddr, hlv]
   ·rw [HDS.out]
    exact ⟨rfl, HKe.out⟩
theorem lay_mid (A B C B' : List Value) (h : B'.length = B.length) : lay (A ++ (B ++ C)) A.length B' = A ++ (B' ++ C) := by
 unfold lay
 rw [List.take_left, h, List.drop_append, List.drop_of_length_le (by omega), Nat.add_sub_cancel_left, List.drop_left, List.nil_append]
def lay82 : Array (Nat × Nat) := #[(0, 4), (4, 1), (5, 1), (6, 1), (7, 64), (71, 4096)]
set_option maxRecDepth 100000 in
theorem built82 (parts : List (Nat × Value)) : Tryz.prog.built 175 parts = Instr.fill (fun i => lay82[i]?) Tryz.zeroCells175 parts := by kernel_rfl
theorem fill_one (L : Nat → Option (Nat × Nat)) (Z : List Value) (i off n : Nat) (v : Value) (ps : List (Nat × Value)) (hL : L i = some (off, n)) (hv : v.cells.size = n) (hz : off + n ≤ Z.length) :
  Instr.fill L Z.toArray ((i, v) :: ps) = Instr.fill L (lay Z off v.cells.toList).toArray ps := by
 obtain ⟨s1, g1⟩ := Great.foldl_set off v.cells.toList 0 Z.toArray
 have hvl : v.cells.toList.length = n := by rw [Array.length_toList, hv]
 have e : v.cells.zipIdx.foldl (fun cs (c, j) => cs.setIfInBounds (off + j) c) Z.toArray = (lay Z off v.cells.toList).toArray := by
  have e0 : v.cells.zipIdx.foldl (fun cs (c, j) => cs.setIfInBounds (off + j) c) Z.toArray = (v.cells.toList.zipIdx 0).foldl (fun cs (x : Value × Nat) => cs.setIfInBounds (off + x.2) x.1) Z.toArray := by
   rw [← Array.foldl_toList, Array.toList_zipIdx]
  rw [e0]
  refine Array.ext_getElem? fun k => ?_
  rw [g1 k]
  simp only [Nat.add_zero, List.getElem?_toArray, List.size_toArray, hvl]
  unfold lay
  by_cases h1 : k < off
  ·rw [if_neg (by omega), List.getElem?_append_left (by simp; omega), List.getElem?_take_of_lt h1]
  ·rw [List.getElem?_append_right (by simp; omega), List.length_take, Nat.min_eq_left (by omega)]
   by_cases h2 : k < off + n
   ·rw [if_pos (by omega), List.getElem?_append_left (by omega)]
   ·rw [if_neg (by omega), List.getElem?_append_right (by omega), hvl, List.getElem?_drop]
    congr 1
    omega
 rw [Instr.fill, hL]
 simp only [hv, List.size_toArray, ne_eq, not_true_eq_false, decide_false, Bool.false_or, gt_iff_lt, decide_eq_true_eq]
 rw [if_neg (by omega), e]
set_option maxRecDepth 100000 in
theorem build82 (sum : List Int) (lsn num bot : Int) (raw : List Int) (h1 : sum.length = 4) (h3 : raw.length = 4096) :
  Tryz.prog.built 175 [(0, .agg (vals .u8 sum).toArray), (1, .int .i64 lsn), (2, .int .i64 num), (3, .int .i64 bot), (5, .agg (vals .u8 raw).toArray)] = some (spCells sum lsn num bot (List.replicate 64 0) raw).toArray := by
 have hzc : Tryz.zeroCells175.toList = spCells (List.replicate 4 0) 0 0 0 (List.replicate 64 0) (List.replicate 4096 0) := by kernel_rfl
 have hz : Tryz.zeroCells175 = (spCells (List.replicate 4 0) 0 0 0 (List.replicate 64 0) (List.replicate 4096 0)).toArray := by rw [← hzc]
 have L0 : ∀ (sum : List Int) (a b c : Int) (sl raw : List Int), sum.length = 4 → sl.length = 64 → raw.length = 4096 → (spCells sum a b c sl raw).length = 4167 := fun _ _ _ _ _ _ h1 h2 h3 => spCells_length h1 h2 h3
 rw [built82, hz]
 rw [fill_one _ _ 0 0 4 _ _ rfl (by simp [Value.cells, vals, h1]) (by rw [L0 _ _ _ _ _ _ List.length_replicate List.length_replicate List.length_replicate]; decide)]
 have e0 : lay (spCells (List.replicate 4 0) 0 0 0 (List.replicate 64 0) (List.replicate 4096 0)) 0 (Value.agg (vals .u8 sum).toArray).cells.toList = spCells sum 0 0 0 (List.replicate 64 0) (List.replicate 4096 0) := lay_mid [] (vals .u8 (List.replicate 4 0)) _ (vals .u8 sum) (by rw [vals_length, vals_length, h1, List.length_replicate])
 rw [e0, fill_one _ _ 1 4 1 _ _ rfl rfl (by rw [L0 _ _ _ _ _ _ h1 List.length_replicate List.length_replicate]; decide)]
 have hs4 : (vals .u8 sum).length = 4 := by rw [vals_length, h1]
 have e1 : lay (spCells sum 0 0 0 (List.replicate 64 0) (List.replicate 4096 0)) 4 (Value.int .i64 lsn).cells.toList = spCells sum lsn 0 0 (List.replicate 64 0) (List.replicate 4096 0) := by
  have h := lay_mid (vals .u8 sum) [.int .i64 0] (.int .i64 0 :: .int .i64 0 :: (vals .i64 (List.replicate 64 0) ++ vals .u8 (List.replicate 4096 0))) [.int .i64 lsn] rfl
  rw [hs4] at h
  exact h
 rw [e1, fill_one _ _ 2 5 1 _ _ rfl rfl (by rw [L0 _ _ _ _ _ _ h1 List.length_replicate List.length_replicate]; decide)]
 have e2 : lay (spCells sum lsn 0 0 (List.replicate 64 0) (List.replicate 4096 0)) 5 (Value.int .i64 num).cells.toList = spCells sum lsn num 0 (List.replicate 64 0) (List.replicate 4096 0) := by
  have h := lay_mid (vals .u8 sum ++ [.int .i64 lsn]) [.int .i64 0] (.int .i64 0 :: (vals .i64 (List.replicate 64 0) ++ vals .u8 (List.replicate 4096 0))) [.int .i64 num] rfl
  rw [List.length_append, hs4, List.append_assoc, List.append_assoc] at h
  exact h
 rw [e2, fill_one _ _ 3 6 1 _ _ rfl rfl (by rw [L0 _ _ _ _ _ _ h1 List.length_replicate List.length_replicate]; decide)]
 have e3 : lay (spCells sum lsn num 0 (List.replicate 64 0) (List.replicate 4096 0)) 6 (Value.int .i64 bot).cells.toList = spCells sum lsn num bot (List.replicate 64 0) (List.replicate 4096 0) := by
  have h := lay_mid (vals .u8 sum ++ [.int .i64 lsn, .int .i64 num]) [.int .i64 0] (vals .i64 (List.replicate 64 0) ++ vals .u8 (List.replicate 4096 0)) [.int .i64 bot] rfl
  rw [List.length_append, hs4, List.append_assoc, List.append_assoc] at h
  exact h
 rw [e3, fill_one _ _ 5 71 4096 _ _ rfl (by simp [Value.cells, vals, h3]) (by rw [L0 _ _ _ _ _ _ h1 List.length_replicate List.length_replicate]; decide)]
 have e4 : lay (spCells sum lsn num bot (List.replicate 64 0) (List.replicate 4096 0)) 71 (Value.agg (vals .u8 raw).toArray).cells.toList = spCells sum lsn num bot (List.replicate 64 0) raw := by
  have h := lay_mid (vals .u8 sum ++ (.int .i64 lsn :: .int .i64 num :: .int .i64 bot :: vals .i64 (List.replicate 64 0))) (vals .u8 (List.replicate 4096 0)) [] (vals .u8 raw) (by rw [vals_length, vals_length, h3, List.length_replicate])
  have e : (vals .u8 sum ++ (.int .i64 lsn :: .int .i64 num :: .int .i64 bot :: vals .i64 (List.replicate 64 0))).length = 71 := by rw [List.length_append, hs4]; rw [List.length_cons, List.length_cons, List.length_cons, vals_length, List.length_replicate]
  rw [e, List.append_nil, List.append_nil, List.append_assoc] at h
  have e5 : spCells sum lsn num bot (List.replicate 64 0) (List.replicate 4096 0) = vals .u8 sum ++ ((.int .i64 lsn :: .int .i64 num :: .int .i64 bot :: vals .i64 (List.replicate 64 0)) ++ vals .u8 (List.replicate 4096 0)) := rfl
  rw [e5]
  refine Eq.trans h ?_
  rw [List.append_assoc]
  rfl
 rw [e4]
 rfl
end Go.Proofs.YtdgmecmkkddpeaaGreat
