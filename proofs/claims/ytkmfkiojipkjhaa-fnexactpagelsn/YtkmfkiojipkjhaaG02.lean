import Derived.Test.YtkmfkiojipkjhaaG01
import Derived.Test.YtkmfkiojipkjhaaG00
import Derived.Laws.BitsLemmas
import Derived.Laws.Bits64
import Derived.Deep.MidRow
import Derived.Deep.WholeRow
import Derived.Deep.AppendLies
namespace Go.Proofs.Ytkmfkiojipkjhaa
set_option maxRecDepth 100000
set_option maxHeartbeats 4000000
set_option linter.unusedVariables false
set_option linter.unusedSimpArgs false
open Go.RowKit
def num (bs : List Int) : Int := bs.foldl (fun v b => v * 256 + b) 0
theorem num_snoc (bs : List Int) (b : Int) : num (bs ++ [b]) = num bs * 256 + b := by simp [num, List.foldl_append]
theorem num_take (bs : List Int) (k : Nat) (h : k < bs.length) : num (bs.take (k + 1)) = num (bs.take k) * 256 + bs.getD k 0 := by
 rw [List.take_succ_eq_append_getElem h, num_snoc]
 simp [h]
theorem num_bound (bs : List Int) (hb : IsB bs) (k : Nat) (h : k ≤ bs.length) : 0 ≤ num (bs.take k) ∧ num (bs.take k) < 256 ^ k := by
 induction k with
 | zero => simp [num]
 | succ k ih =>
  have h1 := ih (by omega)
  have h2 := hb.at k (by omega)
  rw [num_take bs k (by omega), Int.pow_succ]
  omega
theorem num_cons (x : Int) (bs : List Int) : num (x :: bs) = x * 256 ^ bs.length + num bs := by
 have key : ∀ (bs : List Int) (v : Int), bs.foldl (fun v b => v * 256 + b) v = v * 256 ^ bs.length + num bs := fun bs => by
  induction bs with
  | nil => intro v; simp [num]
  | cons y bs ih =>
   intro v
   simp only [List.foldl_cons, num, List.length_cons]
   rw [ih, ih, Int.pow_succ, Int.add_mul, Int.mul_assoc, Int.mul_comm 256, Int.zero_mul, Int.zero_add]
   omega
 have := key bs x
 simpa [num] using this
theorem num_le (bs : List Int) (hb : IsB bs) (k : Nat) (h : k ≤ bs.length) {m : Int} (hm : num bs ≤ m) : num (bs.take k) ≤ m := by
 obtain ⟨d, hd⟩ : ∃ d, bs.length - k = d := ⟨_, rfl⟩
 induction d generalizing k with
 | zero =>
  obtain rfl : k = bs.length := by omega
  rw [List.take_length]
  exact hm
 | succ d ih =>
  have h1 := ih (k + 1) (by omega) (by omega)
  rw [num_take bs k (by omega)] at h1
  have h2 := hb.at k (by omega)
  have h3 := num_bound bs hb k h
  omega
theorem num_lt8 (bs : List Int) (hb : IsB bs) (k : Nat) (h : k ≤ bs.length) (h8 : k ≤ 8) : num (bs.take k) < 18446744073709551616 := by
 have h1 := (num_bound bs hb k h).2
 have h2 : (256 : Int) ^ k ≤ 256 ^ 8 := by
  have : k = 0 ∨ k = 1 ∨ k = 2 ∨ k = 3 ∨ k = 4 ∨ k = 5 ∨ k = 6 ∨ k = 7 ∨ k = 8 := by omega
  rcases this with rfl | rfl | rfl | rfl | rfl | rfl | rfl | rfl | rfl <;> decide
 omega
def getN (bs : List Int) : Int := if bs.length < 1 ∨ 8 < bs.length ∨ 9223372036854775807 < num bs then -1 else num bs
theorem getN_le (bs : List Int) : getN bs ≤ 9223372036854775807 := by
 unfold getN
 split <;> omega
theorem getN_eight (bs : List Int) (hb : IsB bs) (h : bs.length = 8) : (9223372036854775807 < num bs) ↔ 127 < bs.getD 0 0 := by
 match bs, h with
 | x :: bs, h =>
  have hl : bs.length = 7 := by simpa using h
  have h1 := hb x (by simp)
  have h2 := num_bound bs (fun y hy => hb y (by simp [hy])) 7 (by omega)
  rw [← hl, List.take_length, hl] at h2
  rw [num_cons, hl]
  simp only [List.getD_cons_zero]
  omega
theorem getN_few (bs : List Int) (hb : IsB bs) (h : bs.length ≤ 7) : num bs ≤ 9223372036854775807 := by
 have h1 := num_bound bs hb bs.length (Nat.le_refl _)
 rw [List.take_length] at h1
 generalize bs.length = n at h h1
 have h2 : (256 : Int) ^ n ≤ 256 ^ 7 := by
  have : n = 0 ∨ n = 1 ∨ n = 2 ∨ n = 3 ∨ n = 4 ∨ n = 5 ∨ n = 6 ∨ n = 7 := by omega
  rcases this with rfl | rfl | rfl | rfl | rfl | rfl | rfl | rfl <;> decide
 omega
theorem specGet_any (v : Value) (bs : List Int) (w : World) (hb : IsB bs) (hn : bs.length ≤ 1099511627776) (hv : Rd .u8 w v bs) :
  Calls Try.prog 73 #[v] w fun e w' => e = .returned (.int .i64 (getN bs)) ∧ Same w w' := by
 by_cases h : bs.length < 1 ∨ 8 < bs.length
 ·obtain ⟨a, c, rfl⟩ := hv.form
  have e : getN bs = -1 := by unfold getN; rw [if_pos (by omega)]
  rw [e]
  clear hv e hb
  rcases h with h | h
  ·go_enter Try.func73, Try.ntmps73
   go_wp2
   go_ret
   exact ⟨rfl, Kept.refl _ _⟩
  ·go_enter Try.func73, Try.ntmps73
   go_wp2
   go_ret
   exact ⟨rfl, Kept.refl _ _⟩
 ·rcases hv.2 with ⟨rfl, _⟩ | ⟨b, off, c, rfl, _, hc⟩
  ·simp at h
  have hc0 := hc 0 (by omega)
  rw [Nat.add_zero] at hc0
  have HC : Hid (∀ i, i < bs.length → w.cell? ⟨b, off + i, none⟩ = some (.int .u8 (bs.getD i 0))) := hc
  have HB : Hid (IsB bs) := hb
  clear hc hv hb hn
  generalize hl : bs.length = len at h ⊢
  have HL : Hid (bs.length = len) := hl
  have h1 : 1 ≤ len := by omega
  have h2 : len ≤ 8 := by omega
  clear hl h
  have hx := HB.out.at 0 (by have := HL.out; omega)
  obtain ⟨x, hx0⟩ : ∃ x, bs.getD 0 0 = x := ⟨_, rfl⟩
  have HX : Hid (bs.getD 0 0 = x) := hx0
  rw [hx0] at hc0 hx
  clear hx0
  obtain ⟨G, hG⟩ : ∃ G, getN bs = G := ⟨_, rfl⟩
  have HGN : Hid (getN bs = G) := hG
  rw [hG]
  clear hG
  by_cases h8 : len = 8
  ·by_cases h127 : 127 < x
   ·have e : getN bs = -1 := by unfold getN; rw [if_pos]; right; right; exact (getN_eight bs HB.out (by rw [HL.out]; exact h8)).2 (by rw [HX.out]; exact h127)
    rw [HGN.out] at e
    subst e
    subst h8
    go_enter Try.func73, Try.ntmps73
    go_wp2
    go_ret
    exact ⟨rfl, Kept.refl _ _⟩
   ·have HOK : Hid (len ≤ 7 ∨ len = 8 ∧ x ≤ 127) := Or.inr ⟨h8, by omega⟩
    subst h8
    go_enter Try.func73, Try.ntmps73
    go_wp2
    go_loopw [3, 4] (fun y i wr => ∃ (k : Nat), k ≤ 8 ∧ y = .int .i64 (num (bs.take k)) ∧ i = .int .i64 k ∧ wr = w) (fun _ i _ => 8 - (intOf i).toNat)
    case atStart => exact ⟨0, Nat.zero_le _, by simp [num], by simp, rfl⟩
    case round =>
     obtain ⟨k, hk, rfl, rfl, rfl⟩ := hrel
     have hg : getN bs = num bs := by
      unfold getN
      rw [if_neg]
      have hl := HL.out
      rcases HOK.out with h | h
      ·have := getN_few bs HB.out (by omega)
       omega
      ·have := getN_eight bs HB.out (by omega)
       rw [HX.out] at this
       omega
     have HG : Hid (getN bs = num bs) := hg
     clear hg
     by_cases hlt : k < 8
     ·have hlp : k < bs.length := by rw [HL.out]; exact hlt
      have q1 := HC.out k hlp
      have hb1 := num_bound bs HB.out k (by omega)
      have hb2 := HB.out.at k hlp
      have hb3 : num (bs.take k) * 256 + bs.getD k 0 ≤ 9223372036854775807 := by
       have e := num_take bs k hlp
       rw [← e]
       exact num_le bs HB.out (k + 1) (by omega) (by have := HG.out; have h9 := getN_le bs; omega)
      have HS : Hid (num (bs.take (k + 1)) = num (bs.take k) * 256 + bs.getD k 0) := num_take bs k hlp
      generalize num (bs.take k) = y at *
      generalize bs.getD k 0 = z at *
      obtain ⟨hy0, _⟩ := hb1
      clear hc0
      go_wp2
      go_roundw
      case rel => exact ⟨k + 1, by omega, by rw [HS.out], by go_num, by first | rfl | trivial⟩
      case measure => simp [intOf]; omega
     ·have hke : k = 8 := by omega
      have he : num (bs.take k) = G := by rw [← HGN.out, HG.out, hke, ← HL.out, List.take_length]
      rw [he]
      clear hc0
      go_wp2
      go_ret
      exact ⟨rfl, Kept.refl _ _⟩
  ·have HOK : Hid (len ≤ 7 ∨ len = 8 ∧ x ≤ 127) := Or.inl (by omega)
   go_enter Try.func73, Try.ntmps73
   go_wp2
   go_loopw [3, 4] (fun y i wr => ∃ (k : Nat), k ≤ len ∧ y = .int .i64 (num (bs.take k)) ∧ i = .int .i64 k ∧ wr = w) (fun _ i _ => len - (intOf i).toNat)
   case atStart => exact ⟨0, Nat.zero_le _, by simp [num], by simp, rfl⟩
   case round =>
    obtain ⟨k, hk, rfl, rfl, rfl⟩ := hrel
    have hg : getN bs = num bs := by
     unfold getN
     rw [if_neg]
     have hl := HL.out
     rcases HOK.out with h | h
     ·have := getN_few bs HB.out (by omega)
      omega
     ·have := getN_eight bs HB.out (by omega)
      rw [HX.out] at this
      omega
    have HG : Hid (getN bs = num bs) := hg
    clear hg
    by_cases hlt : k < len
    ·have hlp : k < bs.length := by rw [HL.out]; exact hlt
     have q1 := HC.out k hlp
     have hb1 := num_bound bs HB.out k (by omega)
     have hb2 := HB.out.at k hlp
     have hb3 : num (bs.take k) * 256 + bs.getD k 0 ≤ 9223372036854775807 := by
      have e := num_take bs k hlp
      rw [← e]
      exact num_le bs HB.out (k + 1) (by omega) (by have := HG.out; have h9 := getN_le bs; omega)
     have HS : Hid (num (bs.take (k + 1)) = num (bs.take k) * 256 + bs.getD k 0) := num_take bs k hlp
     generalize num (bs.take k) = y at *
     generalize bs.getD k 0 = z at *
     obtain ⟨hy0, _⟩ := hb1
     clear hc0
     go_wp2
     go_roundw
     case rel => exact ⟨k + 1, by omega, by rw [HS.out], by go_num, by first | rfl | trivial⟩
     case measure => simp [intOf]; omega
    ·have hke : k = len := by omega
     have he : num (bs.take k) = G := by rw [← HGN.out, HG.out, hke, ← HL.out, List.take_length]
     rw [he]
     clear hc0
     go_wp2
     go_ret
     exact ⟨rfl, Kept.refl _ _⟩
theorem implGet_any (v : Value) (bs : List Int) (w : World) (hb : IsB bs) (hn : bs.length ≤ 1099511627776) (hv : Rd .u8 w v bs) :
  Calls Try.prog 82 #[v] w fun e w' => e = .returned (.int .i64 (getN bs)) ∧ Same w w' := by
 by_cases h : bs.length < 1 ∨ 8 < bs.length
 ·obtain ⟨a, c, rfl⟩ := hv.form
  have e : getN bs = -1 := by unfold getN; rw [if_pos (by omega)]
  rw [e]
  clear hv e hb
  rcases h with h | h
  ·go_enter Try.func82, Try.ntmps82
   go_wp2
   go_ret
   exact ⟨rfl, Kept.refl _ _⟩
  ·go_enter Try.func82, Try.ntmps82
   go_wp2
   go_ret
   exact ⟨rfl, Kept.refl _ _⟩
 ·rcases hv.2 with ⟨rfl, _⟩ | ⟨b, off, c, rfl, _, hc⟩
  ·simp at h
  have HC : Hid (∀ i, i < bs.length → w.cell? ⟨b, off + i, none⟩ = some (.int .u8 (bs.getD i 0))) := hc
  have HB : Hid (IsB bs) := hb
  clear hc hv hb hn
  generalize hl : bs.length = len at h ⊢
  have HL : Hid (bs.length = len) := hl
  have h1 : 1 ≤ len := by omega
  have h2 : len ≤ 8 := by omega
  clear hl h
  obtain ⟨G, hG⟩ : ∃ G, getN bs = G := ⟨_, rfl⟩
  have HGN : Hid (getN bs = G) := hG
  rw [hG]
  clear hG
  go_enter Try.func82, Try.ntmps82
  go_wp2
  go_loopw [3, 5, 16] (fun y _ i wr => ∃ (k : Nat), k ≤ len ∧ y = .int .u64 (num (bs.take k)) ∧ i = .int .i64 k ∧ wr = w) (fun _ _ i _ => len - (intOf i).toNat)
  case atStart => exact ⟨0, Nat.zero_le _, by simp [num], by simp, rfl⟩
  case round =>
   obtain ⟨k, hk, rfl, rfl, rfl⟩ := hrel
   by_cases hlt : k < len
   ·have hlp : k < bs.length := by rw [HL.out]; exact hlt
    have q1 := HC.out k hlp
    have hb1 := num_bound bs HB.out k (by omega)
    have hb2 := HB.out.at k hlp
    have hb3 : num (bs.take k) * 256 + bs.getD k 0 < 18446744073709551616 := by
     have e := num_take bs k hlp
     rw [← e]
     exact num_lt8 bs HB.out (k + 1) (by omega) (by omega)
    have HS : Hid (num (bs.take (k + 1)) = num (bs.take k) * 256 + bs.getD k 0) := num_take bs k hlp
    generalize num (bs.take k) = y at *
    generalize bs.getD k 0 = z at *
    obtain ⟨hy0, _⟩ := hb1
    have hor : bits .or .u64 (y * 256) z = y * 256 + z := bits_join .u64 64 (by decide) (fun n h0 h1 => by rw [IntKind.wrap_u64]; omega) 8 _ _ (by omega) (by omega) (by omega) (by omega) (by omega) (by omega)
    go_wp2
    go_roundw
    case rel => exact ⟨k + 1, by omega, by rw [HS.out], by go_num, by first | rfl | trivial⟩
    case measure => simp [intOf]; omega
   ·have hke : k = len := by omega
    have he : num (bs.take k) = num bs := by rw [hke, ← HL.out, List.take_length]
    rw [he]
    have hb1 := num_lt8 bs HB.out len (by have := HL.out; omega) (by omega)
    have hb0 := num_bound bs HB.out len (by have := HL.out; omega)
    rw [← hke, he] at hb1 hb0
    have HG : Hid (getN bs = if 9223372036854775807 < num bs then -1 else num bs) := by
     have hl := HL.out
     have h0 : ¬ bs.length < 1 := by omega
     have h8 : ¬ 8 < bs.length := by omega
     simp [getN, h0, h8, Hid]
    clear he
    generalize num bs = y at *
    by_cases hm : 9223372036854775807 < y
    ·have e := HG.out
     rw [if_pos hm, HGN.out] at e
     go_wp2
     go_ret
     rw [e]
     exact ⟨rfl, Kept.refl _ _⟩
    ·have e := HG.out
     rw [if_neg hm, HGN.out] at e
     obtain ⟨hy0, _⟩ := hb0
     go_wp2
     go_ret
     exact ⟨rfl, Kept.refl _ _⟩
/-! ### Numbers -/
theorem num_lows (v : Nat) (k : Nat) : num (lows (v : Int) k) = ((v % 256 ^ k : Nat) : Int) := by
 induction k with
 | zero => simp [lows, num, Nat.mod_one]
 | succ k ih =>
  have e : lows (v : Int) (k + 1) = ((v : Int) / 256 ^ k % 256) :: lows (v : Int) k := rfl
  rw [e, num_cons, lows_length, ih, Nat.pow_succ, Nat.mod_mul]
  have e2 : ((v : Int) / 256 ^ k % 256) = ((v / 256 ^ k % 256 : Nat) : Int) := by simp
  rw [e2]
  have e3 : (256 : Int) ^ k = ((256 ^ k : Nat) : Int) := by simp
  rw [e3, ← Int.natCast_mul, ← Int.natCast_add, Nat.mul_comm, Nat.add_comm]
theorem addr_add (B o j : Nat) : (⟨B, o, none⟩ : Addr).add j = ⟨B, o + j, none⟩ := by unfold Addr.add; split <;> simp_all
theorem Blk.loads {P : Program} {w : World} {B : Nat} {e : TypeId} {xs : List Value} (h : Blk w B e xs) (o n : Nat) (hn : o + n ≤ xs.length) : (loadCellsFrom ⟨B, o, none⟩ 0 n #[]).run P w = .ok ((xs.drop o).take n).toArray w := by
 have hl : ((xs.drop o).take n).length = n := by simp; omega
 have := run_loadCells_list (P := P) w ⟨B, o, none⟩ ((xs.drop o).take n) (fun j v hv => by
  rw [addr_add, h.cell]
  have hj : j < n := by have := (List.getElem?_eq_some_iff.1 hv).1; omega
  rw [List.getElem?_take_of_lt hj, List.getElem?_drop] at hv
  exact hv)
 simpa [loadCells, hl] using this
theorem Blk.setCells {B : Nat} {e : TypeId} : ∀ (vs : List Value) (o : Nat) {w : World} {xs : List Value}, Blk w B e xs → o + vs.length ≤ xs.length → Blk (w.setCells B o vs) B e (lay xs o vs)
 | [], o, w, xs, h, _ => by rw [lay_nil]; exact h
 | v :: vs, o, w, xs, h, hl => by
  simp only [List.length_cons] at hl
  have := Blk.setCells vs (o + 1) (h.stored o v) (by rw [List.length_set]; omega)
  rw [lay_cons _ _ _ _ hl] at this
  exact this
theorem Kept.setCells {R : Nat → Prop} {a : World} {B : Nat} (hB : a.heap.size ≤ B ∨ R B) : ∀ (vs : List Value) (o : Nat) {b : World}, Kept R a b → Kept R a (b.setCells B o vs)
 | [], _, _, h => h
 | v :: vs, o, b, h => Kept.setCells hB vs (o + 1) (h.setCell (p := ⟨B, o, none⟩) hB v)
theorem Blk.range {w : World} {B : Nat} {e : TypeId} {xs : List Value} (h : Blk w B e xs) (o : Nat) (cs : List Value) (hc : ∀ j v, cs[j]? = some v → xs[o + j]? = some v) : w.rangeAt B o cs := fun j v hv => by
 rw [h.cell]
 exact hc j v hv
theorem Blk.rangeAll {w : World} {B : Nat} {e : TypeId} {xs : List Value} (h : Blk w B e xs) : w.rangeAt B 0 xs := h.range 0 xs (fun j v hv => by rw [Nat.zero_add]; exact hv)
theorem Blk.there {w : World} {B : Nat} {e : TypeId} {xs : List Value} (h : Blk w B e xs) (o n : Nat) (hn : o + n ≤ xs.length) : w.there B o n := fun j hj => ⟨by rw [h.cell, List.getElem?_eq_getElem (by omega)]; rfl, h.frozen _⟩
theorem Kept.ranges {w w' : World} {b o : Nat} {cs : List Value} (hk : Same w w') (h : w.rangeAt b o cs) : w'.rangeAt b o cs := fun j v hv => hk.cellOf (h j v hv) id
def sealB (bs : List Int) : List Int := lows (crcOn 0 (bs.drop 4)) 4 ++ bs.drop 4
theorem sealB_length (bs : List Int) (h : 4 ≤ bs.length) : (sealB bs).length = bs.length := by simp [sealB, lows_length]; omega
theorem lay_seal (bs : List Int) (h : 4 ≤ bs.length) : lay (vals .u8 bs) 0 (vals .u8 (lows (crcOn 0 (bs.drop 4)) 4)) = vals .u8 (sealB bs) := by
 unfold lay sealB
 have e : (vals .u8 (lows (crcOn 0 (bs.drop 4)) 4)).length = 4 := by rw [vals_length, lows_length]
 rw [e]
 simp [vals]
theorem Blk.rd {w : World} {B : Nat} {e : TypeId} {bs : List Int} (h : Blk w B e (vals .u8 bs)) (o n c : Nat) (hn : o + n ≤ bs.length) (hc : n ≤ c) (hm : bs.length ≤ maxLen) : Rd .u8 w (.slice (some ⟨B, o, none⟩) n c) ((bs.drop o).take n) := by
 have hl : ((bs.drop o).take n).length = n := by simp; omega
 refine ⟨by omega, .inr ⟨B, o, c, by rw [hl], by omega, fun i hi => ?_⟩⟩
 rw [h.cell, vals_at _ _ _ (by omega)]
 simp [List.getD, List.getElem?_take, show i < n by omega]
theorem sealed_any (bs : List Int) (w : World) (hB : IsB bs) (hl : bs.length = 4096) :
  Calls Try.prog 50 #[.agg (vals .u8 bs).toArray] w fun e w' => e = .returned (.agg (vals .u8 (sealB bs)).toArray) ∧ Same w w' := by
 obtain ⟨cs, hcs⟩ : ∃ cs : Array Value, (vals .u8 bs).toArray = cs := ⟨_, rfl⟩
 have hsz : cs.size = 4096 := by rw [← hcs]; simp [vals, hl]
 have HCS := (show Hid ((vals .u8 bs).toArray = cs) from hcs)
 have HB := (show Hid (IsB bs) from hB)
 have HL := (show Hid (bs.length = 4096) from hl)
 have hsum := crcOn_le 0 (bs.drop 4) (by decide) (by decide) (fun y hy => hB y (List.mem_of_mem_drop hy))
 rw [hcs]
 clear hcs hB hl
 go_enter Try.func50, Try.ntmps50
 go_wp2_with fail
 obtain ⟨w1, hw1⟩ : ∃ w1, ((w.alloc (.cells cs 70)).alloc (.cells Try.zeroCells70 70)) = w1 := ⟨_, rfl⟩
 have HB1 := (show Hid (Blk w1 w.heap.size 70 (vals .u8 bs)) from by
  rw [← hw1]
  have h := Blk.new w cs 70
  rw [← HCS.out] at h ⊢
  exact h.alloc _)
 have HB2 := (show Hid (Blk w1 (w.heap.size + 1) 70 Try.zeroCells70.toList) from by
  rw [← hw1]
  have h := Blk.new (w.alloc (.cells cs 70)) Try.zeroCells70 70
  rw [World.size_alloc] at h
  exact h)
 have HK1 := (show Hid (Same w w1) from by rw [← hw1]; exact ((Kept.refl _ _).alloc _).alloc _)
 have hsz1 : w1.heap.size = w.heap.size + 2 := by rw [← hw1]; simp
 rw [hw1]
 clear hw1
 have hS : (fun _ : World => True) w1.drew := by trivial
 refine wp_region_V (fun _ : World => True) 99 4 rfl (by kernel_rfl) ?_
 refine tk 0 3 hS ?_
 refine tk 1 4 hS ?_
 refine wpAnyV_one (i := 2) (by kernel_rfl) rfl (fun K hK => ?_)
 go_simp
 have hR : ∀ wx, Same w1 wx → Rd .u8 wx (.slice (some ⟨w.heap.size, 4, none⟩) 4092 4092) (bs.drop 4) := fun wx hx => by
  have h := (HB1.out.same hx).rd 4 4092 4092 (by rw [HL.out]; decide) (Nat.le_refl _) (by rw [HL.out]; decide)
  rwa [List.take_of_length_le (by rw [List.length_drop, HL.out]; decide)] at h
 have hc := implCrc_any (.slice (some ⟨w.heap.size, 4, none⟩) 4092 4092) (bs.drop 4) w1.drew (fun y hy => HB.out y (List.mem_of_mem_drop hy)) (by rw [List.length_drop, HL.out]; decide) (hR _ (Kept.refl _ _).drew)
 with_reducible refine hc.mono ?_
 clear hc hR
 rintro e w2 ⟨rfl, hkk⟩
 have HK2 := (show Hid (Same w1 w2) from (Kept.refl _ _).drew.trans hkk)
 clear hkk
 refine hK.out _ _ (fun _ => trivial) ?_
 clear hK K
 try simp only [Act.put, sA, s0, sS]
 refine wpAnyV_one (i := 3) (by kernel_rfl) rfl (fun K hK => ?_)
 go_simp
 have hc := writeNumber_any w.heap.size 0 4 4096 70 (vals .u8 bs) (crcOn 0 (bs.drop 4)) w2 (HB1.out.same HK2.out) (by rw [vals_length, HL.out]; decide) hsum.1 (by omega) (by decide)
 with_reducible refine hc.mono ?_
 clear hc
 rintro e w3 ⟨rfl, hb3, hk3⟩
 rw [lay_seal bs (by rw [HL.out]; decide)] at hb3
 have hsl : (vals .u8 (sealB bs)).length = 4096 := by rw [vals_length, sealB_length _ (by rw [HL.out]; decide), HL.out]
 obtain ⟨ds, hds⟩ : ∃ ds : List Value, vals .u8 (sealB bs) = ds := ⟨_, rfl⟩
 have HDS := (show Hid (vals .u8 (sealB bs) = ds) from hds)
 have hone : ∀ v ∈ ds, v.oneCell' = true := by rw [← hds]; exact vals_one
 rw [hds] at hb3 hsl
 have hb4 := (HB2.out.same HK2.out).kept hk3 (by omega)
 have hzl : Try.zeroCells70.toList.length = 4096 := by rw [Array.length_toList]; exact Try.zeroCells70_size
 have HRG := (show Hid (w3.rangeAt w.heap.size 0 ds) from hb3.rangeAll)
 have HTH := (show Hid (w3.there (w.heap.size + 1) 0 ds.toArray.size) from hb4.there 0 _ (by simp; omega))
 have hb5 := hb4.setCells ds 0 (by omega)
 rw [lay_all _ _ (by omega)] at hb5
 have HRG2 := (show Hid ((w3.setCells (w.heap.size + 1) 0 ds).rangeAt (w.heap.size + 1) 0 ds) from hb5.rangeAll)
 have HI := (show Hid ((Try.prog.info? 70).map (·.size) = some ds.length) from (by rw [hsl]; exact (by kernel_rfl : (Try.prog.info? 70).map (·.size) = some 4096) : (Try.prog.info? 70).map (·.size) = some ds.length))
 have HI2 := (show Hid ((Try.prog.info? 70).map (·.size) = some ds.toArray.size) from by rw [List.size_toArray]; exact HI.out)
 have HONE := (show Hid (ds.toArray.all (·.oneCell') = true) from all_oneCell_toArray hone)
 have HK4 := (show Hid (Same w (w3.setCells (w.heap.size + 1) 0 ds)) from Kept.setCells (.inl (by omega)) ds 0 ((HK1.out.trans HK2.out).next hk3 (fun i hi e => by omega)))
 clear hds hk3 hb3 hb4 hb5 hzl hone hsl
 refine hK.out _ _ (fun _ => trivial) ?_
 clear hK K
 refine wpAnyV_done (by kernel_rfl) ?_
 try simp only [Act.put, sA, s0, sS]
 go_wp2_with (first | (refine wpList_load_mid rfl 70 _ rfl w.heap.size 0 rfl ds _ HRG.out Try.underlying70 rfl HI.out ?_) | (refine wpList_store_mid rfl 70 _ _ rfl (w.heap.size + 1) 0 ds.toArray rfl rfl HTH.out HI2.out HONE.out ?_))
 have hlv := run_loadVar_mid (P := Try.prog) _ (w.heap.size + 1) 0 70 ds _ HRG2.out Try.underlying70 rfl HI.out
 refine bodyPost_ret (v := .agg ds.toArray) ?_ rfl ?_
 ·simp [results, Try.results50, asAddr, hlv]
 ·rw [HDS.out]
  exact ⟨rfl, HK4.out⟩
theorem list_any (bs : List Int) (w : World) (hl : bs.length = 4096) :
  Calls Try.prog 44 #[.agg (vals .u8 bs).toArray] w fun e w' => e = .returned (.slice (some ⟨w.heap.size, 0, none⟩) 4096 4096) ∧ Blk w' w.heap.size 70 (vals .u8 bs) ∧ Same w w' := by
 obtain ⟨cs, hcs⟩ : ∃ cs : Array Value, (vals .u8 bs).toArray = cs := ⟨_, rfl⟩
 have hsz : cs.size = 4096 := by rw [← hcs]; simp [vals, hl]
 have HCS := (show Hid ((vals .u8 bs).toArray = cs) from hcs)
 rw [hcs]
 clear hcs hl
 go_enter Try.func44, Try.ntmps44
 go_wp2
 go_ret
 refine ⟨rfl, ?_, (Kept.refl _ _).alloc _⟩
 have h := Blk.new w cs 70
 rw [← HCS.out] at h ⊢
 exact h
def pageSeal (bs : List Int) : List Int := if bs.length = 4096 then sealB bs else []
theorem pageSeal_length (bs : List Int) : (pageSeal bs).length ≤ 4096 := by
 unfold pageSeal
 split
 ·rw [sealB_length _ (by omega)]; omega
 ·simp
theorem run_arrayP (w : World) (ad : Option Addr) (c : Nat) : (Instr.arrayAt 70 (.slice ad 4096 c)).run Try.prog w = .ok (.pointer ad) w := by
 simp [Instr.arrayAt, run_underlying Try.underlying70]
theorem page_info : (Try.prog.info? 70).map (·.size) = some 4096 := by kernel_rfl
theorem rd_range {w : World} {b off c : Nat} {bs : List Int} (h : Rd .u8 w (.slice (some ⟨b, off, none⟩) bs.length c) bs) (hn : 0 < bs.length) : w.rangeAt b off (vals .u8 bs) := fun j v hv => by
 have hj : j < bs.length := by have := (List.getElem?_eq_some_iff.1 hv).1; rwa [vals_length] at this
 rcases h.2 with ⟨h0, _⟩ | ⟨b', o', c', e, _, hc⟩
 ·rw [h0] at hn
  simp at hn
 ·cases e
  rw [hc j hj, ← hv, vals_at _ _ _ hj]
theorem rd_some {w : World} {a : Option Addr} {n c : Nat} {bs : List Int} (h : Rd .u8 w (.slice a n c) bs) (hn : 0 < bs.length) : ∃ b off, a = some ⟨b, off, none⟩ ∧ bs.length ≤ c := by
 rcases h.2 with ⟨h0, _⟩ | ⟨b', o', c', e, hl, hc⟩
 ·rw [h0] at hn
  simp at hn
 ·cases e
  exact ⟨_, _, rfl, hl⟩
theorem implSeal_any (v : Value) (bs : List Int) (w : World) (hB : IsB bs) (hn : bs.length ≤ 1099511627776) (hv : Rd .u8 w v bs) :
  Calls Try.prog 22 #[v] w fun e w' => ∃ a c, e = .returned (.slice a (pageSeal bs).length c) ∧ (∀ b, (Value.slice a (pageSeal bs).length c).ownBlock = some b → w.heap.size ≤ b) ∧
   Own 0 70 .u8 w' (.slice a (pageSeal bs).length c) (pageSeal bs) ∧ Same w w' := by
 obtain ⟨a, c, rfl⟩ := hv.form
 by_cases hl : bs.length = 4096
 ·have hR : pageSeal bs = sealB bs := by unfold pageSeal; rw [if_pos hl]
  have hsl : (sealB bs).length = 4096 := by rw [sealB_length _ (by omega), hl]
  obtain ⟨b, off, rfl, hc⟩ := rd_some hv (by omega)
  have HRG := (show Hid (w.rangeAt b off (vals .u8 bs)) from rd_range hv (by omega))
  have hcl := vals_length .u8 bs
  obtain ⟨cs, hcs⟩ : ∃ cs : List Value, vals .u8 bs = cs := ⟨_, rfl⟩
  have HCS := (show Hid (vals .u8 bs = cs) from hcs)
  have HI := (show Hid ((Try.prog.info? 70).map (·.size) = some cs.length) from (by rw [← hcs, hcl, hl]; exact page_info : (Try.prog.info? 70).map (·.size) = some cs.length))
  have hS := sealed_any bs w hB hl
  rw [hcs] at hS
  have HRG' := HRG.out
  rw [hcs] at HRG'
  have HRG2 := (show Hid (w.rangeAt b off cs) from HRG')
  clear HRG HRG' hcs hcl hv hB hn
  rw [hR, hsl, hl]
  have harr := run_arrayP
  go_enter Try.func22, Try.ntmps22
  go_wp2_with (first
   | (go_at_call 50; refine hS.mono ?_; rintro e w1 ⟨rfl, hk1⟩; have HK1 := (show Hid (Same w w1) from hk1); have hz1 := hk1.size; have hL := list_any (sealB bs) w1 hsl; clear hk1)
   | (go_at_call 44; refine hL.mono ?_; rintro e w2 ⟨rfl, hb2, hk2⟩)
   | (refine wpList_load_mid rfl 70 _ rfl b off rfl cs _ HRG2.out Try.underlying70 rfl HI.out ?_))
  go_ret
  refine ⟨some ⟨w1.heap.size, 0, none⟩, 4096, rfl, ?_, ?_, HK1.out.trans hk2⟩
  ·intro b hb
   simp [Value.ownBlock] at hb
   omega
  ·have h := Blk.own hb2 (by rw [hsl]; decide)
   rwa [hsl] at h
 ·have hR : pageSeal bs = [] := by unfold pageSeal; rw [if_neg hl]
  rw [hR]
  have hl' : ¬ (bs.length : Int) = 4096 := by omega
  clear hv hB
  go_enter Try.func22, Try.ntmps22
  go_wp2
  go_ret
  exact ⟨none, 0, rfl, fun b hb => by simp [Value.ownBlock] at hb, Own.nil _ _ _ _, Kept.refl _ _⟩
theorem numB4 (x : Int) (h0 : 0 ≤ x) (h1 : x ≤ 4294967295) : numB x 4 = lows x 4 := by
 unfold numB
 rw [if_neg]
 ·rfl
 ·have : x / 256 ^ (4 : Int).toNat = 0 := by
   rw [show (256 : Int) ^ (4 : Int).toNat = 4294967296 from rfl]
   omega
  omega
theorem specSeal_any (v : Value) (bs : List Int) (w : World) (hB : IsB bs) (hn : bs.length ≤ 1099511627776) (hv : Rd .u8 w v bs) :
  Calls Try.prog 21 #[v] w fun e w' => ∃ a c, e = .returned (.slice a (pageSeal bs).length c) ∧ (∀ b, (Value.slice a (pageSeal bs).length c).ownBlock = some b → w.heap.size ≤ b) ∧
   Own 0 5 .u8 w' (.slice a (pageSeal bs).length c) (pageSeal bs) ∧ Same w w' := by
 obtain ⟨a, c, rfl⟩ := hv.form
 by_cases hl : bs.length = 4096
 ·have hR : pageSeal bs = sealB bs := by unfold pageSeal; rw [if_pos hl]
  have hsl : (sealB bs).length = 4096 := by rw [sealB_length _ (by omega), hl]
  obtain ⟨b, off, rfl, hc⟩ := rd_some hv (by omega)
  obtain ⟨i0, hi, hz0, hz1, hz2⟩ := info_parts Try.infoByte'
  have HV := (show Hid (Rd .u8 w (.slice (some ⟨b, off, none⟩) bs.length c) bs) from hv)
  have HB := (show Hid (IsB bs) from hB)
  have HL := (show Hid (bs.length = 4096) from hl)
  have hsum := crcOn_le 0 (bs.drop 4) (by decide) (by decide) (fun y hy => hB y (List.mem_of_mem_drop hy))
  have HN4 := (show Hid (numB (crcOn 0 (bs.drop 4)) 4 = lows (crcOn 0 (bs.drop 4)) 4) from numB4 _ hsum.1 hsum.2)
  have HRd := (show Hid (∀ wx, Same w wx → Rd .u8 wx (.slice (some ⟨b, off + 4, none⟩) 4092 (c - 4)) (bs.drop 4)) from fun wx hx => by
   have h := Rd.back (hv.same hx) 4 (by omega)
   rwa [show bs.length - 4 = 4092 from by omega] at h)
  clear hv hB hn
  rw [hR, hsl, hl]
  rw [hl] at hc
  have hc4 : (4 : Int) ≤ (c : Int) := by omega
  have hc5 : 4 < c := by omega
  have hc6 : ¬ c = 4 := by omega
  clear hl
  go_enter Try.func21, Try.ntmps21
  go_wp2_with fail
  have hS : (fun _ : World => True) w.drew := by trivial
  refine wp_region_V (fun _ : World => True) 99 8 rfl (by kernel_rfl) ?_
  refine tk 0 7 hS ?_
  refine tk 1 8 hS ?_
  refine tk 4 11 hS ?_
  refine tk 5 12 hS ?_
  refine wpAnyV_one (i := 2) (by kernel_rfl) rfl (fun K hK => ?_)
  go_simp
  have hcc := specCrc_any (.slice (some ⟨b, off + 4, none⟩) 4092 (c - 4)) (bs.drop 4) w.drew (fun y hy => HB.out y (List.mem_of_mem_drop hy)) (by rw [List.length_drop, HL.out]; decide) (HRd.out _ (Kept.refl _ _).drew)
  with_reducible refine hcc.mono ?_
  clear hcc
  rintro e w2 ⟨rfl, hkk⟩
  have HK2 := (show Hid (Same w w2) from (Kept.refl _ _).drew.trans hkk)
  have hz2' := hkk.size
  clear hkk
  refine hK.out _ _ (fun _ => trivial) ?_
  clear hK K
  try simp only [Act.put, sA, s0, sS]
  refine wpAnyV_one (i := 3) (by kernel_rfl) rfl (fun K hK => ?_)
  go_simp
  have hcc := specPut_any (crcOn 0 (bs.drop 4)) 4 w2 ⟨by omega, by omega⟩ ⟨by decide, by decide⟩
  with_reducible refine hcc.mono ?_
  clear hcc
  rintro e w3 ⟨a3, c3, rfl, hf3, ho3, hk3⟩
  rw [HN4.out, lows_length] at hf3 ho3 ⊢
  have HK3 := hid (HK2.out.trans hk3)
  have HF3 := (show Hid (∀ b, (Value.slice a3 4 c3).ownBlock = some b → w2.heap.size ≤ b) from hf3)
  have HO3 := (show Hid (Own 0 5 .u8 w3 (.slice a3 4 c3) (lows (crcOn 0 (bs.drop 4)) 4)) from ho3)
  clear hf3 ho3 hk3
  refine hK.out _ _ (fun _ => trivial) ?_
  clear hK K
  try simp only [Act.put, sA, s0, sS]
  refine wpAnyV_one (i := 6) (by kernel_rfl) rfl (fun K hK => ?_)
  have hnews : ∀ j u, (vals .u8 (bs.drop 4))[j]? = some u → w3.cell? ((⟨b, off + 4, none⟩ : Addr).add j) = some u := fun j u hu => by
   have hj : j < (bs.drop 4).length := by have := (List.getElem?_eq_some_iff.1 hu).1; rwa [vals_length] at this
   rcases (HRd.out _ HK3.out).2 with ⟨h0, _⟩ | ⟨b', o', c', e, _, hcc⟩
   ·rw [h0] at hj
    simp at hj
   ·simp only [Value.slice.injEq, Option.some.injEq, Addr.mk.injEq] at e
    obtain ⟨⟨rfl, rfl, _⟩, _, rfl⟩ := e
    rw [addr_add, hcc j hj, ← hu, vals_at _ _ _ hj]
  have hdl : (vals .u8 (bs.drop 4)).length = 4092 := by rw [vals_length, List.length_drop, HL.out]
  have hown3 : w3.ownsRow 0 5 1 (.slice a3 4 c3) 4 (vals .u8 (lows (crcOn 0 (bs.drop 4)) 4)) := by have h := HO3.out; unfold Own at h; rwa [lows_length] at h
  refine step_append_lies _ (by rfl) _ _ 22 (by rfl) 0 5 i0 (.int .u8 0) 1 1 Try.underlying22 hi hz0 hz1 hz2 rfl (by omega) (.slice a3 4 c3) 4 (vals .u8 (lows (crcOn 0 (bs.drop 4)) 4)) (by rfl) hown3 ⟨b, off + 4, none⟩ 4092 (c - 4) (vals .u8 (bs.drop 4)) (by rfl) (by rw [hdl]) hnews vals_one (by omega) (by decide) (by decide) (Nat.zero_le _) w3.heap.size rfl ?_
  intro g4 cap4 w4 hown4 hgrow4 hat4 hlt4
  have HO4 := (show Hid (Own 0 5 .u8 w4 (.slice (some ⟨g4, 0, none⟩) 4096 cap4) (sealB bs)) from (by unfold Own Hid; rw [hsl]; simpa [sealB, vals] using hown4))
  have HK4 := (show Hid (Same w w4) from HK3.out.grown hgrow4 (fun k e => .inl (by have := HF3.out k e; have := HK2.out.size; omega)))
  have hg4 : w.heap.size ≤ g4 := by
   have := HK2.out.size
   have := HK3.out.size
   rcases hat4 with h | h
   ·have := HF3.out g4 h; omega
   ·omega
  clear hown4 hgrow4 hat4 hown3 hnews
  refine hK.out _ _ (fun _ => trivial) ?_
  clear hK K
  try simp only [Act.put, sA, s0, sS]
  refine tk 7 2 hS ?_
  refine wpAnyV_done (by kernel_rfl) ?_
  go_wp2
  go_ret
  refine ⟨_, _, rfl, fun b hb => ?_, HO4.out, HK4.out⟩
  simp [Value.ownBlock] at hb
  omega
 ·have hR : pageSeal bs = [] := by unfold pageSeal; rw [if_neg hl]
  rw [hR]
  have hl' : ¬ (bs.length : Int) = 4096 := by omega
  clear hv hB
  go_enter Try.func21, Try.ntmps21
  go_wp2
  go_ret
  exact ⟨some ⟨w.heap.size, 0, none⟩, 0, rfl, fun b hb => by simp [Value.ownBlock] at hb; omega, Own.empty _ _, (Kept.refl _ _).alloc _⟩
end Go.Proofs.Ytkmfkiojipkjhaa
