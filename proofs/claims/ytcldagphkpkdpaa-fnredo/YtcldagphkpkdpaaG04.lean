import Derived.Test.YtcldagphkpkdpaaG03
import Derived.Laws.BitsAllLaws
import Derived.Tactics
import Derived.Tactics2
import Derived.Defers
import Derived.Laws.Pointers
import Derived.Laws.LoneSync
import Derived.RegionTactic
import Derived.RegionCalls
import Derived.Laws.BitsLemmas
import Derived.Laws.Bits64
namespace Go.Proofs.Ytcldagphkpkdpaa
set_option maxRecDepth 100000
set_option maxHeartbeats 8000000
set_option linter.unusedVariables false
set_option linter.unusedSimpArgs false
open Go Go.RowKit
theorem row_app4 {e : TypeId} {w : World} {g n c : Nat} {bs : List Int} {x y z u : Int} (h : w.ownsRow 0 e 4 (.slice (some ⟨g, 0, none⟩) n c) n (vals .i64 bs ++ [.int .i64 x, .int .i64 y, .int .i64 z, .int .i64 u])) : OwnL w (FR.rows 4 ⟨e, some ⟨g, 0, none⟩, n, c, bs ++ [x, y, z, u]⟩) := by
 have e1 : vals .i64 bs ++ [.int .i64 x, .int .i64 y, .int .i64 z, .int .i64 u] = vals .i64 (bs ++ [x, y, z, u]) := by simp [vals]
 rw [e1] at h
 exact ⟨fun r hr => by rw [List.mem_singleton.1 hr]; exact h, List.pairwise_singleton _ _⟩
theorem row_app2 {e : TypeId} {w : World} {g n c : Nat} {bs : List Int} {x y : Int} (h : w.ownsRow 0 e 2 (.slice (some ⟨g, 0, none⟩) n c) n (vals .i64 bs ++ [.int .i64 x, .int .i64 y])) : OwnL w (FR.rows 2 ⟨e, some ⟨g, 0, none⟩, n, c, bs ++ [x, y]⟩) := by
 have e1 : vals .i64 bs ++ [.int .i64 x, .int .i64 y] = vals .i64 (bs ++ [x, y]) := by simp [vals]
 rw [e1] at h
 exact ⟨fun r hr => by rw [List.mem_singleton.1 hr]; exact h, List.pairwise_singleton _ _⟩
theorem infoTE9 : (Try.prog.info? 106).map (fun i => (i.zero, i.size, i.bytes)) = some (some (.agg #[.int .i64 0, .int .i64 0, .int .i64 0, .int .i64 0]), 4, 32) := by kernel_rfl
theorem infoDE9 : (Try.prog.info? 108).map (fun i => (i.zero, i.size, i.bytes)) = some (some (.agg #[.int .i64 0, .int .i64 0]), 2, 16) := by kernel_rfl
theorem step_appT {w : World} {ops : Array Oper} {o : Oper} {a : Act} {K : Act → World → Prop} {Q : Exit → Act → World → Prop} {E : Prop} (hgd : o.guard = none) (s x : Operand)
  (ho : o.op = .call { callee := .builtin .append, args := #[s, x], argTypes := #[45, 45] }) {ta : Option Addr} {tn tc Y : Nat} {tb : List Int} {x1 x2 x3 x4 : Int} (hs : a.eval s = .slice ta tn tc) (hx : a.eval x = .slice (some ⟨Y, 0, none⟩) 1 1)
  (hB : Blk w Y 106 [.int .i64 x1, .int .i64 x2, .int .i64 x3, .int .i64 x4]) (hO : OwnL w (FR.rows 4 ⟨106, ta, tn, tc, tb⟩)) (hq : tn ≤ 20000)
  (h : ∀ g c w', w'.ownsRow 0 106 4 (.slice (some ⟨g, 0, none⟩) (tn + 1) c) (tn + 1) (vals .i64 tb ++ [.int .i64 x1, .int .i64 x2, .int .i64 x3, .int .i64 x4]) → w.grownBy w' (Value.slice ta tn tc).ownBlock → ((Value.slice ta tn tc).ownBlock = some g ∨ g = w.heap.size) → K (a.put o.dst (.slice (some ⟨g, 0, none⟩) (tn + 1) c)) w') :
  if Region.wanted o (yielded ops a.tmps) = true then Oper.wp Try.prog o a w K Q else E := by
 obtain ⟨i0, hi, hz0, hz1, hz2⟩ := info_parts infoTE9
 refine step_append_lies (P := Try.prog) w hgd s x 45 ho 0 106 i0 _ 4 32 Try.underlying45 hi hz0 hz1 hz2 rfl (by omega) (.slice ta tn tc) tn (vals .i64 tb) hs (hO.own _ (List.mem_singleton.2 rfl)) ⟨Y, 0, none⟩ 1 1 _ hx rfl (fun j u hu => ?_) (fun u hu => ?_) (by omega) (by unfold maxLen; omega) (by omega) (Nat.zero_le _) w.heap.size rfl (fun g c w' h1 h2 h3 _ => h g c w' h1 h2 h3)
 ·have h1 := hB.cell j
  rw [hu] at h1
  simpa [Addr.add_lit] using h1
 ·simp only [List.mem_cons, List.not_mem_nil, or_false] at hu
  rcases hu with rfl | rfl | rfl | rfl <;> rfl
theorem step_appD {w : World} {ops : Array Oper} {o : Oper} {a : Act} {K : Act → World → Prop} {Q : Exit → Act → World → Prop} {E : Prop} (hgd : o.guard = none) (s x : Operand)
  (ho : o.op = .call { callee := .builtin .append, args := #[s, x], argTypes := #[46, 46] }) {ta : Option Addr} {tn tc Y : Nat} {tb : List Int} {x1 x2 : Int} (hs : a.eval s = .slice ta tn tc) (hx : a.eval x = .slice (some ⟨Y, 0, none⟩) 1 1)
  (hB : Blk w Y 108 [.int .i64 x1, .int .i64 x2]) (hO : OwnL w (FR.rows 2 ⟨108, ta, tn, tc, tb⟩)) (hq : tn ≤ 20000)
  (h : ∀ g c w', w'.ownsRow 0 108 2 (.slice (some ⟨g, 0, none⟩) (tn + 1) c) (tn + 1) (vals .i64 tb ++ [.int .i64 x1, .int .i64 x2]) → w.grownBy w' (Value.slice ta tn tc).ownBlock → ((Value.slice ta tn tc).ownBlock = some g ∨ g = w.heap.size) → K (a.put o.dst (.slice (some ⟨g, 0, none⟩) (tn + 1) c)) w') :
  if Region.wanted o (yielded ops a.tmps) = true then Oper.wp Try.prog o a w K Q else E := by
 obtain ⟨i0, hi, hz0, hz1, hz2⟩ := info_parts infoDE9
 refine step_append_lies (P := Try.prog) w hgd s x 46 ho 0 108 i0 _ 2 16 Try.underlying46 hi hz0 hz1 hz2 rfl (by omega) (.slice ta tn tc) tn (vals .i64 tb) hs (hO.own _ (List.mem_singleton.2 rfl)) ⟨Y, 0, none⟩ 1 1 _ hx rfl (fun j u hu => ?_) (fun u hu => ?_) (by omega) (by unfold maxLen; omega) (by omega) (Nat.zero_le _) w.heap.size rfl (fun g c w' h1 h2 h3 _ => h g c w' h1 h2 h3)
 ·have h1 := hB.cell j
  rw [hu] at h1
  simpa [Addr.add_lit] using h1
 ·simp only [List.mem_cons, List.not_mem_nil, or_false] at hu
  rcases hu with rfl | rfl <;> rfl
theorem wpList_appT {w : World} {ops : Array Oper} {rest : List Oper} {o : Oper} {a : Act} {Q : Exit → Act → World → Prop} (hgd : o.guard = none) (s x : Operand)
  (ho : o.op = .call { callee := .builtin .append, args := #[s, x], argTypes := #[45, 45] }) {ta : Option Addr} {tn tc Y : Nat} {tb : List Int} {x1 x2 x3 x4 : Int} (hs : a.eval s = .slice ta tn tc) (hx : a.eval x = .slice (some ⟨Y, 0, none⟩) 1 1)
  (hB : Blk w Y 106 [.int .i64 x1, .int .i64 x2, .int .i64 x3, .int .i64 x4]) (hO : OwnL w (FR.rows 4 ⟨106, ta, tn, tc, tb⟩)) (hq : tn ≤ 20000)
  (h : ∀ g c w', w'.ownsRow 0 106 4 (.slice (some ⟨g, 0, none⟩) (tn + 1) c) (tn + 1) (vals .i64 tb ++ [.int .i64 x1, .int .i64 x2, .int .i64 x3, .int .i64 x4]) → w.grownBy w' (Value.slice ta tn tc).ownBlock → ((Value.slice ta tn tc).ownBlock = some g ∨ g = w.heap.size) → wpList Try.prog ops Q rest (a.put o.dst (.slice (some ⟨g, 0, none⟩) (tn + 1) c)) w') :
  wpList Try.prog ops Q (o :: rest) a w := by
 obtain ⟨i0, hi, hz0, hz1, hz2⟩ := info_parts infoTE9
 refine wpList_append_lies (P := Try.prog) w hgd s x 45 ho 0 106 i0 _ 4 32 Try.underlying45 hi hz0 hz1 hz2 rfl (by omega) (.slice ta tn tc) tn (vals .i64 tb) hs (hO.own _ (List.mem_singleton.2 rfl)) ⟨Y, 0, none⟩ 1 1 _ hx rfl (fun j u hu => ?_) (fun u hu => ?_) (by omega) (by unfold maxLen; omega) (by omega) (Nat.zero_le _) w.heap.size rfl (fun g c w' h1 h2 h3 _ => h g c w' h1 h2 h3)
 ·have h1 := hB.cell j
  rw [hu] at h1
  simpa [Addr.add_lit] using h1
 ·simp only [List.mem_cons, List.not_mem_nil, or_false] at hu
  rcases hu with rfl | rfl | rfl | rfl <;> rfl
theorem wpList_appD {w : World} {ops : Array Oper} {rest : List Oper} {o : Oper} {a : Act} {Q : Exit → Act → World → Prop} (hgd : o.guard = none) (s x : Operand)
  (ho : o.op = .call { callee := .builtin .append, args := #[s, x], argTypes := #[46, 46] }) {ta : Option Addr} {tn tc Y : Nat} {tb : List Int} {x1 x2 : Int} (hs : a.eval s = .slice ta tn tc) (hx : a.eval x = .slice (some ⟨Y, 0, none⟩) 1 1)
  (hB : Blk w Y 108 [.int .i64 x1, .int .i64 x2]) (hO : OwnL w (FR.rows 2 ⟨108, ta, tn, tc, tb⟩)) (hq : tn ≤ 20000)
  (h : ∀ g c w', w'.ownsRow 0 108 2 (.slice (some ⟨g, 0, none⟩) (tn + 1) c) (tn + 1) (vals .i64 tb ++ [.int .i64 x1, .int .i64 x2]) → w.grownBy w' (Value.slice ta tn tc).ownBlock → ((Value.slice ta tn tc).ownBlock = some g ∨ g = w.heap.size) → wpList Try.prog ops Q rest (a.put o.dst (.slice (some ⟨g, 0, none⟩) (tn + 1) c)) w') :
  wpList Try.prog ops Q (o :: rest) a w := by
 obtain ⟨i0, hi, hz0, hz1, hz2⟩ := info_parts infoDE9
 refine wpList_append_lies (P := Try.prog) w hgd s x 46 ho 0 108 i0 _ 2 16 Try.underlying46 hi hz0 hz1 hz2 rfl (by omega) (.slice ta tn tc) tn (vals .i64 tb) hs (hO.own _ (List.mem_singleton.2 rfl)) ⟨Y, 0, none⟩ 1 1 _ hx rfl (fun j u hu => ?_) (fun u hu => ?_) (by omega) (by unfold maxLen; omega) (by omega) (Nat.zero_le _) w.heap.size rfl (fun g c w' h1 h2 h3 _ => h g c w' h1 h2 h3)
 ·have h1 := hB.cell j
  rw [hu] at h1
  simpa [Addr.add_lit] using h1
 ·simp only [List.mem_cons, List.not_mem_nil, or_false] at hu
  rcases hu with rfl | rfl <;> rfl
theorem OwnL.swap {w w9 : World} {A X C X' : List Row} (h : OwnL w (A ++ (X ++ C))) (hk : Kept (fun b => FootL X b) w w9) (hx : OwnL w9 X') (hf : ∀ b, FootL X' b → FootL X b ∨ w.heap.size ≤ b) : OwnL w9 (A ++ (X' ++ C)) ∧ ∀ b, FootL (A ++ (X' ++ C)) b → FootL (A ++ (X ++ C)) b ∨ w.heap.size ≤ b := by
 have ap : ∀ {rs ss : List Row}, OwnL w (rs ++ ss) → ∀ b, FootL rs b → FootL ss b → False := fun {rs ss} h b h1 h2 => by
  obtain ⟨r, hr, e⟩ := h1
  obtain ⟨s, hs, e'⟩ := h2
  exact (List.pairwise_append.1 h.apart).2.2 r hr s hs b e e'
 have hA := h.left.kept hk (fun b hb e => ap h b hb ((FootL_append _ _ _).2 (.inl e)))
 have hC := h.right.right.kept hk (fun b hb e => ap h.right b e hb)
 refine ⟨hA.append (hx.append hC (fun b h1 h2 => ?_)) (fun b h1 h2 => ?_), fun b hb => ?_⟩
 ·rcases hf b h1 with e | e
  ·exact ap h.right b e h2
  ·have := h.right.right.lt b h2
   omega
 ·rcases (FootL_append _ _ _).1 h2 with h2 | h2
  ·rcases hf b h2 with e | e
   ·exact ap h b h1 ((FootL_append _ _ _).2 (.inl e))
   ·have := h.left.lt b h1
    omega
  ·exact ap h b h1 ((FootL_append _ _ _).2 (.inr h2))
 ·rcases (FootL_append _ _ _).1 hb with hb | hb
  ·exact .inl ((FootL_append _ _ _).2 (.inl hb))
  rcases (FootL_append _ _ _).1 hb with hb | hb
  ·exact (hf b hb).imp_left (fun e => (FootL_append _ _ _).2 (.inr ((FootL_append _ _ _).2 (.inl e))))
  ·exact .inl ((FootL_append _ _ _).2 (.inr ((FootL_append _ _ _).2 (.inr hb))))
theorem foot_FR (m : Nat) (x : FR) (b : Nat) : FootL (x.rows m) b ↔ x.v.ownBlock = some b := FootL_one _ _
theorem foot_BS (x : BS) (b : Nat) : FootL x.rows b ↔ x.v.ownBlock = some b := footL_ints _ _ _ _ _
theorem sw_txns {w w9 : World} {r : StLogRecord} {d : FR} (h : OwnL w r.rows) (hk : Kept (fun b => r.txns.v.ownBlock = some b) w w9) (hx : OwnL w9 (d.rows 4)) (hf : ∀ b, d.v.ownBlock = some b → r.txns.v.ownBlock = some b ∨ w.heap.size ≤ b) : OwnL w9 (StLogRecord.rows { r with txns := d }) ∧ ∀ b, FootL (StLogRecord.rows { r with txns := d }) b → FootL r.rows b ∨ w.heap.size ≤ b := by
 have e1 : r.rows = (r.before.rows ++ r.after.rows) ++ (r.txns.rows 4 ++ (r.dirty.rows 2 ++ r.image.rows)) := by simp [StLogRecord.rows]
 have e2 : StLogRecord.rows { r with txns := d } = (r.before.rows ++ r.after.rows) ++ (d.rows 4 ++ (r.dirty.rows 2 ++ r.image.rows)) := by simp [StLogRecord.rows]
 rw [e1] at h ⊢
 rw [e2]
 exact OwnL.swap h (hk.mono (fun b _ e => (foot_FR _ _ b).2 e)) hx (fun b hb => (hf b ((foot_FR _ _ b).1 hb)).imp_left (fun e => (foot_FR _ _ b).2 e))
theorem sw_dirty {w w9 : World} {r : StLogRecord} {d : FR} (h : OwnL w r.rows) (hk : Kept (fun b => r.dirty.v.ownBlock = some b) w w9) (hx : OwnL w9 (d.rows 2)) (hf : ∀ b, d.v.ownBlock = some b → r.dirty.v.ownBlock = some b ∨ w.heap.size ≤ b) : OwnL w9 (StLogRecord.rows { r with dirty := d }) ∧ ∀ b, FootL (StLogRecord.rows { r with dirty := d }) b → FootL r.rows b ∨ w.heap.size ≤ b := by
 have e1 : r.rows = (r.before.rows ++ (r.after.rows ++ r.txns.rows 4)) ++ (r.dirty.rows 2 ++ r.image.rows) := by simp [StLogRecord.rows]
 have e2 : StLogRecord.rows { r with dirty := d } = (r.before.rows ++ (r.after.rows ++ r.txns.rows 4)) ++ (d.rows 2 ++ r.image.rows) := by simp [StLogRecord.rows]
 rw [e1] at h ⊢
 rw [e2]
 exact OwnL.swap h (hk.mono (fun b _ e => (foot_FR _ _ b).2 e)) hx (fun b hb => (hf b ((foot_FR _ _ b).1 hb)).imp_left (fun e => (foot_FR _ _ b).2 e))
def sh (r : Nat) : Nat := if r % 2 = 1 then r / 2 ^^^ 3988292384 else r / 2
def shN : Nat → Nat → Nat
 | 0, r => r
 | k + 1, r => shN k (sh r)
theorem sh_lt (r : Nat) (h : r < 4294967296) : sh r < 4294967296 := by
 unfold sh
 split
 ·exact Nat.xor_lt_two_pow (n := 32) (by omega) (by omega)
 ·omega
theorem shN_lt (k r : Nat) (h : r < 4294967296) : shN k r < 4294967296 := by
 induction k generalizing r with
 | zero => exact h
 | succ k ih => exact ih _ (sh_lt r h)
theorem shN_succ (k r : Nat) : shN (k + 1) r = sh (shN k r) := by
 induction k generalizing r with
 | zero => rfl
 | succ k ih => exact ih (sh r)
def reg (r : Nat) (bs : List Int) : Nat := bs.foldl (fun r b => shN 8 (r ^^^ b.toNat)) r
theorem reg_take (r : Nat) (bs : List Int) (k : Nat) (h : k < bs.length) : reg r (bs.take (k + 1)) = shN 8 (reg r (bs.take k) ^^^ (bs.getD k 0).toNat) := by
 rw [List.take_succ_eq_append_getElem h]
 unfold reg
 rw [List.foldl_append]
 simp [h]
theorem reg_lt (r : Nat) (bs : List Int) (h : r < 4294967296) (hb : IsB bs) : reg r bs < 4294967296 := by
 induction bs generalizing r with
 | nil => exact h
 | cons b bs ih =>
  have h1 := hb b (by simp)
  exact ih _ (shN_lt 8 _ (Nat.xor_lt_two_pow (n := 32) (by omega) (by omega))) (fun y hy => hb y (by simp [hy]))
def crcOn (sum : Int) (bs : List Int) : Int := if sum < 0 ∨ 4294967295 < sum then -1 else 4294967295 - reg (4294967295 - sum).toNat bs
theorem crcOn_le (sum : Int) (bs : List Int) (h0 : 0 ≤ sum) (h1 : sum ≤ 4294967295) (hB : IsB bs) : 0 ≤ crcOn sum bs ∧ crcOn sum bs ≤ 4294967295 := by
 unfold crcOn
 rw [if_neg (by omega)]
 have := reg_lt (4294967295 - sum).toNat bs (by omega) hB
 omega
theorem xor_i64 (a b : Nat) (ha : a < 4294967296) (hb : b < 4294967296) : bits .xor .i64 (a : Int) (b : Int) = ((a ^^^ b : Nat) : Int) := by
 have h1 : a % 18446744073709551616 = a := Nat.mod_eq_of_lt (by omega)
 have h2 : b % 18446744073709551616 = b := Nat.mod_eq_of_lt (by omega)
 have h3 : a ^^^ b < 2 ^ 32 := Nat.xor_lt_two_pow (n := 32) (by omega) (by omega)
 have h4 : (BitVec.ofNat 64 a ^^^ BitVec.ofNat 64 b).toNat = a ^^^ b := by
  rw [BitVec.toNat_xor, BitVec.toNat_ofNat, BitVec.toNat_ofNat]
  simp only [Nat.reducePow, h1, h2]
 have h5 : bits .xor .i64 (a : Int) (b : Int) = IntKind.i64.wrap (((BitVec.ofNat 64 a ^^^ BitVec.ofNat 64 b).toNat : Nat) : Int) := rfl
 rw [h5, h4, IntKind.wrap_i64]
 generalize a ^^^ b = z at *
 omega
theorem step_any (r x : Nat) (hr : r < 4294967296) (hx : x < 256) (w : World) :
  Calls Try.prog 81 #[.int .i64 r, .int .u8 x] w fun e w' => e = .returned (.int .i64 ((shN 8 (r ^^^ x) : Nat) : Int)) ∧ w' = w := by
 have hx0 := xor_i64 r x hr (by omega)
 have hl0 : r ^^^ x < 4294967296 := Nat.xor_lt_two_pow (n := 32) (by omega) (by omega)
 generalize r ^^^ x = y at *
 go_enter Try.func81, Try.ntmps81
 go_wp2
 go_loopw [0, 5, 6] (fun z i _ wr => ∃ k : Nat, k ≤ 8 ∧ z = .int .i64 ((shN k y : Nat) : Int) ∧ i = .int .i64 k ∧ wr = w) (fun _ i _ _ => 8 - (intOf i).toNat)
 case atStart => exact ⟨0, Nat.zero_le _, rfl, rfl, rfl⟩
 case round =>
  obtain ⟨k, hk, rfl, rfl, rfl⟩ := hrel
  by_cases hlt : k < 8
  ·have hzl := shN_lt k y hl0
   have HS := (show Hid (shN (k + 1) y = sh (shN k y)) from shN_succ k y)
   generalize shN k y = z at *
   by_cases ho : z % 2 = 1
   ·have h2 := xor_i64 (z / 2) 3988292384 (by omega) (by decide)
    have h2' : bits .xor .i64 ((z : Int) / 2) 3988292384 = ((z / 2 ^^^ 3988292384 : Nat) : Int) := by rw [← h2]; simp
    have h3 : sh z = z / 2 ^^^ 3988292384 := by unfold sh; rw [if_pos ho]
    have h4 : (z : Int) % 2 = 1 := by omega
    clear h2
    go_wp2
    go_roundw
    case rel => exact ⟨k + 1, by omega, by rw [HS.out, h3], by go_num, by first | rfl | trivial⟩
    case measure => simp [intOf]; omega
   ·have h3 : sh z = z / 2 := by unfold sh; rw [if_neg ho]
    have h4 : (z : Int) % 2 = 0 := by omega
    go_wp2
    go_roundw
    case rel => exact ⟨k + 1, by omega, by rw [HS.out, h3]; simp, by go_num, by first | rfl | trivial⟩
    case measure => simp [intOf]; omega
  ·obtain rfl : k = 8 := by omega
   go_wp2
   go_ret
   exact ⟨rfl, rfl⟩
theorem specCrcOn_yes (w : World) (sum : Int) (v : Value) (bs : List Int) (h0 : 0 ≤ sum) (h1 : sum ≤ 4294967295) (hB : IsB bs) (hn : bs.length ≤ 1099511627776) (hv : Rd .u8 w v bs) :
  Calls Try.prog 72 #[.int .i64 sum, v] w fun e w' => e = .returned (.int .i64 (crcOn sum bs)) ∧ Same w w' := by
 obtain ⟨a, c, rfl⟩ := hv.form
 have HV := (show Hid (Rd .u8 w (.slice a bs.length c) bs) from hv)
 have HB := (show Hid (IsB bs) from hB)
 have hcr : crcOn sum bs = 4294967295 - reg (4294967295 - sum).toNat bs := by unfold crcOn; rw [if_neg (by omega)]
 have HCR := (show Hid (crcOn sum bs = 4294967295 - reg (4294967295 - sum).toNat bs) from hcr)
 obtain ⟨G, hG⟩ : ∃ G, crcOn sum bs = G := ⟨_, rfl⟩
 have HG := (show Hid (crcOn sum bs = G) from hG)
 rw [hG]
 clear hv hB hcr hG
 generalize hl : bs.length = len at *
 have HL := (show Hid (bs.length = len) from hl)
 clear hl
 go_enter Try.func72, Try.ntmps72
 go_wp2
 go_loopw [5, 6] (fun r i wr => ∃ k : Nat, k ≤ len ∧ r = .int .i64 ((reg (4294967295 - sum).toNat (bs.take k) : Nat) : Int) ∧ i = .int .i64 k ∧ wr = w) (fun _ i _ => len - (intOf i).toNat)
 case atStart => exact ⟨0, Nat.zero_le _, by simp [reg]; omega, rfl, rfl⟩
 case round =>
  obtain ⟨k, hk, rfl, rfl, rfl⟩ := hrel
  by_cases hlt : k < len
  ·have hlp : k < bs.length := by rw [HL.out]; exact hlt
   have hrd := HV.out
   rcases hrd.2 with ⟨hnil, _⟩ | ⟨b, off, c', h, _, hc⟩
   ·rw [hnil] at hlp
    simp at hlp
   ·have h2 := hc k hlp
    cases h
    have hrl := reg_lt (4294967295 - sum).toNat (bs.take k) (by omega) (fun y hy => HB.out y (List.mem_of_mem_take hy))
    have hbk := HB.out.at k hlp
    have HS := (show Hid (_ = _) from reg_take (4294967295 - sum).toNat bs k hlp)
    clear hrd hc
    obtain ⟨x, hx⟩ : ∃ x : Nat, bs.getD k 0 = (x : Int) := ⟨(bs.getD k 0).toNat, by omega⟩
    rw [hx] at h2 hbk
    have HX := (show Hid (bs.getD k 0 = (x : Int)) from hx)
    clear hx
    generalize hR : reg (4294967295 - sum).toNat (bs.take k) = R at *
    clear hR
    have hxb : x < 256 := by omega
    go_wp2_with (go_at_call 81; refine (step_any R x hrl hxb _).mono ?_; rintro e w' ⟨rfl, rfl⟩)
    go_roundw
    case rel =>
     refine ⟨k + 1, by omega, ?_, by go_num, by first | rfl | trivial⟩
     rw [HS.out, HX.out, Int.toNat_natCast]
    case measure => simp [intOf]; omega
  ·have hke : k = len := by omega
   have he : reg (4294967295 - sum).toNat (bs.take k) = reg (4294967295 - sum).toNat bs := by rw [hke, ← HL.out, List.take_length]
   rw [he]
   have hrl := reg_lt (4294967295 - sum).toNat bs (by omega) HB.out
   have hG2 := HCR.out
   rw [HG.out] at hG2
   clear he
   generalize reg (4294967295 - sum).toNat bs = R at *
   go_wp2
   go_ret
   exact ⟨by rw [hG2]; rfl, Kept.refl _ _⟩
theorem crcOn_no (sum : Int) (bs : List Int) (h : sum < 0 ∨ 4294967295 < sum) : crcOn sum bs = -1 := by unfold crcOn; rw [if_pos h]
theorem specCrcOn_no (w : World) (sum : Int) (v : Value) (h : sum < 0 ∨ 4294967295 < sum) :
  Calls Try.prog 72 #[.int .i64 sum, v] w fun e w' => e = .returned (.int .i64 (-1)) ∧ Same w w' := by
 rcases h with h | h <;>
 (go_enter Try.func72, Try.ntmps72
  go_wp2
  go_ret
  exact ⟨rfl, Kept.refl _ _⟩)
theorem specCrcOn_any (sum : Int) (v : Value) (bs : List Int) (w : World) (hB : IsB bs) (hn : bs.length ≤ 1099511627776) (hv : Rd .u8 w v bs) :
  Calls Try.prog 72 #[.int .i64 sum, v] w fun e w' => e = .returned (.int .i64 (crcOn sum bs)) ∧ Same w w' := by
 by_cases h : sum < 0 ∨ 4294967295 < sum
 ·rw [crcOn_no sum bs h]
  exact specCrcOn_no w sum v h
 ·exact specCrcOn_yes w sum v bs (by omega) (by omega) hB hn hv
theorem specCrc_any (v : Value) (bs : List Int) (w : World) (hB : IsB bs) (hn : bs.length ≤ 1099511627776) (hv : Rd .u8 w v bs) :
  Calls Try.prog 57 #[v] w fun e w' => e = .returned (.int .i64 (crcOn 0 bs)) ∧ Same w w' := by
 go_enter Try.func57, Try.ntmps57
 go_wp2_with (go_at_call 72; refine (specCrcOn_any 0 v bs _ hB hn hv).mono ?_; rintro e w' ⟨rfl, hk⟩)
 go_ret
 exact ⟨rfl, hk⟩
def lows (v : Int) : Nat → List Int
 | 0 => []
 | k + 1 => (v / 256 ^ k % 256) :: lows v k
theorem lows_length (v : Int) (k : Nat) : (lows v k).length = k := by
 induction k with
 | zero => rfl
 | succ k ih => simp [lows, ih]
def numB (v n : Int) : List Int := if n < 1 ∨ 8 < n ∨ v < 0 ∨ v / 256 ^ n.toNat ≠ 0 then [] else lows v n.toNat
theorem numB_length (v n : Int) : (numB v n).length ≤ 8 := by
 unfold numB
 split
 ·simp
 ·rw [lows_length]; omega
theorem pow_step (v : Int) (k : Nat) : v / 256 ^ k / 256 = v / 256 ^ (k + 1) := by
 rw [Int.ediv_ediv_of_nonneg (Int.le_of_lt (Int.pow_pos (by decide))), Int.pow_succ]
theorem lows_step (v : Int) (n k : Nat) (h : k < n) : (List.replicate (n - k) 0 ++ lows v k).set (n - k - 1) (v / 256 ^ k % 256) = List.replicate (n - (k + 1)) 0 ++ lows v (k + 1) := by
 have e : n - k = (n - (k + 1)) + 1 := by omega
 rw [e, List.replicate_succ', List.append_assoc, Nat.add_sub_cancel, List.set_append_right (h := by simp)]
 simp [lows]
theorem made_length (v : Int) (n k : Nat) (h : k ≤ n) : (List.replicate (n - k) 0 ++ lows v k).length = n := by simp [lows_length]; omega
theorem Own.empty (w : World) (e : TypeId) : Own 0 e .u8 (w.alloc (Obj.cells #[] e)) (.slice (some ⟨w.heap.size, 0, none⟩) 0 0) [] :=
 ⟨by simp [vals], .inr ⟨w.heap.size, 0, #[], rfl, Nat.zero_le _, by unfold World.alloc; exact Array.getElem?_push_size, Nat.le_refl _, Nat.zero_le _, by simp [vals]⟩⟩
theorem specPut_yes (v n : Int) (w : World) (hi0 : IsI v) (h1 : 1 ≤ n) (h2 : n ≤ 8) (h3 : 0 ≤ v) :
  Calls Try.prog 33 #[.int .i64 v, .int .i64 n] w fun e w' => ∃ a c, e = .returned (.slice a (numB v n).length c) ∧ (∀ b, (Value.slice a (numB v n).length c).ownBlock = some b → w.heap.size ≤ b) ∧
   Own 0 5 .u8 w' (.slice a (numB v n).length c) (numB v n) ∧ Same w w' := by
 obtain ⟨n, rfl⟩ : ∃ m : Nat, n = m := ⟨n.toNat, by omega⟩
 obtain ⟨i0, hi, hz0, hz1, hz2⟩ := info_parts Try.infoByte'
 obtain ⟨hv1, hv2⟩ := hi0
 have h1' : ¬ (n : Int) < 1 := by omega
 have h2' : ¬ (8 : Int) < n := by omega
 have h3' : ¬ v < 0 := by omega
 go_enter Try.func33, Try.ntmps33
 go_wp2_with (at_make; refine wpList_make_full _ rfl (.tmp 18) (.tmp 18) 22 rfl 0 5 i0 (.int .u8 0) 1 Try.underlying22 hi hz0 hz1 .i64 .i64 _ _ n rfl rfl (by simp) (by simp) (by rw [hz2]; omega) (by unfold maxLen; omega) (Nat.zero_le _) ?_; intro w1 hown1 hgrow1; have HO : Hid (Own 0 5 .u8 w1 (.slice (some ⟨w.heap.size, 0, none⟩) n n) (List.replicate n 0)) := own_made (by simpa using hown1); have HK : Hid (Same w w1) := Kept.of_grown hgrow1 (fun k e => by cases e); clear hown1 hgrow1)
 go_loopw [0, 6] (fun x i wr => ∃ (k : Nat), k ≤ n ∧ x = .int .i64 (v / 256 ^ k) ∧ i = .int .i64 ((n : Int) - k - 1) ∧ Hid (Own 0 5 .u8 wr (.slice (some ⟨w.heap.size, 0, none⟩) n n) (List.replicate (n - k) 0 ++ lows v k)) ∧ Hid (Same w wr)) (fun _ i _ => (intOf i + 1).toNat)
 case atStart => exact ⟨0, Nat.zero_le _, by simp, by simp, by simpa [lows] using HO, HK⟩
 case round =>
  obtain ⟨k, hk, rfl, rfl, HOr, HKr⟩ := hrel
  by_cases hlt : k < n
  ·obtain ⟨j, rfl⟩ : ∃ j : Nat, n = k + 1 + j := ⟨n - k - 1, by omega⟩
   have ej : ((k + 1 + j : Nat) : Int) - k - 1 = j := by omega
   have hlen := made_length v (k + 1 + j) k hk
   have q2 := HOr.out.frozen hlen.symm j
   have q3 := HOr.out.cell hlen.symm j (by omega)
   have hx0 : 0 ≤ v / 256 ^ k := Int.ediv_nonneg h3 (Int.le_of_lt (Int.pow_pos (by decide)))
   have hx1 : v / 256 ^ k ≤ v := Int.ediv_le_self _ h3
   have hst := pow_step v k
   have HST : Hid (v / 256 ^ k / 256 = v / 256 ^ (k + 1)) := hst
   have hls := lows_step v (k + 1 + j) k hlt
   have HLS := (show Hid (_ = _) from hls)
   clear hls hst
   rw [ej]
   generalize hx : v / 256 ^ k = x at *
   clear hx
   go_wp2
   go_roundw
   case rel =>
    have h := HOr.out.stored hlen.symm j (x % 256)
    have e2 := HLS.out
    rw [show k + 1 + j - k - 1 = j from by omega] at e2
    rw [e2] at h
    exact ⟨k + 1, by omega, by rw [HST.out], by go_num, h, HKr.out.setCell (.inl (Nat.le_refl _)) _⟩
   case measure => simp [intOf]
  ·obtain rfl : k = n := by omega
   have ej : ((k : Nat) : Int) - k - 1 = -1 := by omega
   have hx0 : 0 ≤ v / 256 ^ k := Int.ediv_nonneg h3 (Int.le_of_lt (Int.pow_pos (by decide)))
   have hx1 : v / 256 ^ k ≤ v := Int.ediv_le_self _ h3
   rw [ej]
   by_cases hz : v / 256 ^ k = 0
   ·have hnum : numB v k = lows v k := by unfold numB; rw [if_neg (by simp only [Int.toNat_natCast]; omega)]; simp
    have HN : Hid (numB v k = lows v k) := hnum
    rw [hz]
    clear hz hnum hx0 hx1
    go_wp2
    go_ret
    rw [HN.out, lows_length]
    refine ⟨_, _, rfl, fun b hb => ?_, ?_, HKr.out⟩
    ·simp [Value.ownBlock] at hb; omega
    ·have h := HOr.out; rw [Nat.sub_self, List.replicate_zero, List.nil_append] at h; exact h
   ·have hnum : numB v k = [] := by unfold numB; rw [if_pos (by simp only [Int.toNat_natCast]; omega)]
    have HN : Hid (numB v k = []) := hnum
    clear hnum
    generalize hx : v / 256 ^ k = x at *
    clear hx
    go_wp2
    go_ret
    rw [HN.out]
    refine ⟨some ⟨wr.heap.size, 0, none⟩, 0, rfl, fun b hb => ?_, Own.empty _ _, HKr.out.alloc _⟩
    have := HKr.out.size
    simp [Value.ownBlock] at hb; omega
theorem specPut_no (v n : Int) (w : World) (h : n < 1 ∨ 8 < n ∨ v < 0) :
  Calls Try.prog 33 #[.int .i64 v, .int .i64 n] w fun e w' => e = .returned (.slice (some ⟨w.heap.size, 0, none⟩) 0 0) ∧ w' = w.alloc (Obj.cells #[] 5) := by
 rcases h with h | h
 ·go_enter Try.func33, Try.ntmps33
  go_wp2
  go_ret
  exact ⟨rfl, rfl⟩
 ·by_cases h1 : n < 1
  ·go_enter Try.func33, Try.ntmps33
   go_wp2
   go_ret
   exact ⟨rfl, rfl⟩
  ·rcases h with h | h
   ·go_enter Try.func33, Try.ntmps33
    go_wp2
    go_ret
    exact ⟨rfl, rfl⟩
   ·by_cases h2 : 8 < n
    ·go_enter Try.func33, Try.ntmps33
     go_wp2
     go_ret
     exact ⟨rfl, rfl⟩
    ·go_enter Try.func33, Try.ntmps33
     go_wp2
     go_ret
     exact ⟨rfl, rfl⟩
theorem specPut_any (v n : Int) (w : World) (hi0 : IsI v) (hi1 : IsI n) :
  Calls Try.prog 33 #[.int .i64 v, .int .i64 n] w fun e w' => ∃ a c, e = .returned (.slice a (numB v n).length c) ∧ (∀ b, (Value.slice a (numB v n).length c).ownBlock = some b → w.heap.size ≤ b) ∧
   Own 0 5 .u8 w' (.slice a (numB v n).length c) (numB v n) ∧ Same w w' := by
 by_cases h : n < 1 ∨ 8 < n ∨ v < 0
 ·refine (specPut_no v n w h).mono ?_
  rintro e w' ⟨rfl, rfl⟩
  have e : numB v n = [] := by unfold numB; rw [if_pos (by omega)]
  rw [e]
  exact ⟨some ⟨w.heap.size, 0, none⟩, 0, rfl, fun b hb => by simp [Value.ownBlock] at hb; omega, Own.empty _ _, (Kept.refl _ _).alloc _⟩
 ·exact specPut_yes v n w hi0 (by omega) (by omega) (by omega)
theorem writeNumber_any (g o n c : Nat) (t : TypeId) (xs : List Value) (v : Int) (w : World) (hb : Blk w g t xs) (ho : o + n ≤ xs.length) (h0 : 0 ≤ v) (hi : v ≤ 9223372036854775807) (hn : n ≤ 1099511627776) :
  Calls Try.prog 45 #[.slice (some ⟨g, o, none⟩) n c, .int .i64 v] w fun e w' => e = .returned (.tuple #[]) ∧ Blk w' g t (lay xs o (vals .u8 (lows v n))) ∧ Kept (fun b => b = g) w w' := by
 have HB := (show Hid (Blk w g t xs) from hb)
 clear hb
 go_enter Try.func45, Try.ntmps45
 go_wp2
 go_loopw [1, 4] (fun x i wr => ∃ k : Nat, k ≤ n ∧ x = .int .i64 (v / 256 ^ k) ∧ i = .int .i64 ((n : Int) - k - 1) ∧ Hid (Blk wr g t (lay xs (o + (n - k)) (vals .u8 (lows v k)))) ∧ Hid (Kept (fun b => b = g) w wr)) (fun _ i _ => (intOf i + 1).toNat)
 case atStart => exact ⟨0, Nat.zero_le _, by simp, by simp, by simpa [lows, vals, lay_nil] using HB, Kept.refl _ _⟩
 case round =>
  obtain ⟨k, hk, rfl, rfl, HBr, HKr⟩ := hrel
  by_cases hlt : k < n
  ·obtain ⟨j, rfl⟩ : ∃ j : Nat, n = k + 1 + j := ⟨n - k - 1, by omega⟩
   have ej : ((k + 1 + j : Nat) : Int) - k - 1 = j := by omega
   have el : (lay xs (o + (k + 1 + j - k)) (vals .u8 (lows v k))).length = xs.length := lay_length _ _ _ (by rw [vals_length, lows_length]; omega)
   have q2 := HBr.out.frozen (o + j)
   have q3 := HBr.out.cell (o + j)
   rw [List.getElem?_eq_getElem (by rw [el]; omega)] at q3
   have hx0 : 0 ≤ v / 256 ^ k := Int.ediv_nonneg h0 (Int.le_of_lt (Int.pow_pos (by decide)))
   have hx1 : v / 256 ^ k ≤ v := Int.ediv_le_self _ h0
   have HST : Hid (v / 256 ^ k / 256 = v / 256 ^ (k + 1)) := pow_step v k
   have HLS : Hid ((lay xs (o + j + 1) (vals .u8 (lows v k))).set (o + j) (.int .u8 (v / 256 ^ k % 256)) = lay xs (o + j) (vals .u8 (lows v (k + 1)))) := lay_set xs (o + j) _ (vals .u8 (lows v k)) (by rw [vals_length, lows_length]; omega)
   rw [ej]
   obtain ⟨z, hz⟩ : ∃ z, (lay xs (o + (k + 1 + j - k)) (vals .u8 (lows v k)))[o + j]'(by rw [el]; omega) = z := ⟨_, rfl⟩
   rw [hz] at q3
   clear hz el
   generalize hx : v / 256 ^ k = x at *
   clear hx
   go_wp2
   go_roundw
   case rel =>
    have h := HBr.out.stored (o + j) (.int .u8 (x % 256))
    rw [show o + (k + 1 + j - k) = o + j + 1 from by omega, HLS.out] at h
    refine ⟨k + 1, by omega, by rw [← HST.out], by go_num, ?_, Kept.setCell (R := fun b => b = g) HKr.out (.inr rfl) _⟩
    rw [show o + (k + 1 + j - (k + 1)) = o + j from by omega]
    exact h
   case measure => simp [intOf]
  ·obtain rfl : k = n := by omega
   have ej : ((k : Nat) : Int) - k - 1 = -1 := by omega
   rw [ej]
   generalize hx : v / 256 ^ k = x at *
   go_wp2
   go_end0
   have h := HBr.out
   rw [Nat.sub_self] at h
   exact ⟨rfl, h, HKr.out⟩
def num (bs : List Int) : Int := bs.foldl (fun v b => v * 256 + b) 0
theorem num_snoc (bs : List Int) (b : Int) : num (bs ++ [b]) = num bs * 256 + b := by simp [num, List.foldl_append]
theorem num_take (bs : List Int) (k : Nat) (h : k < bs.length) : num (bs.take (k + 1)) = num (bs.take k) * 256 + bs.getD k 0 := by
 rw [List.take_succ_eq_append_getElem h, num_snoc]
 simp [h]
theorem num_bound (bs : List Int) (hb : IsB bs) (k : Nat) (h : k ≤ bs.length) : 0 ≤ num (bs.take k) ∧ num (bs.take k) < 256 ^ k := by
 induction k with
 | zero => simp [num]
 | succ k ih =>
  have h1 := ih (by omega)
  have h2 := hb.at k (by omega)
  rw [num_take bs k (by omega), Int.pow_succ]
  omega
theorem num_cons (x : Int) (bs : List Int) : num (x :: bs) = x * 256 ^ bs.length + num bs := by
 have key : ∀ (bs : List Int) (v : Int), bs.foldl (fun v b => v * 256 + b) v = v * 256 ^ bs.length + num bs := fun bs => by
  induction bs with
  | nil => intro v; simp [num]
  | cons y bs ih =>
   intro v
   simp only [List.foldl_cons, num, List.length_cons]
   rw [ih, ih, Int.pow_succ, Int.add_mul, Int.mul_assoc, Int.mul_comm 256, Int.zero_mul, Int.zero_add]
   omega
 have := key bs x
 simpa [num] using this
theorem num_le (bs : List Int) (hb : IsB bs) (k : Nat) (h : k ≤ bs.length) {m : Int} (hm : num bs ≤ m) : num (bs.take k) ≤ m := by
 obtain ⟨d, hd⟩ : ∃ d, bs.length - k = d := ⟨_, rfl⟩
 induction d generalizing k with
 | zero =>
  obtain rfl : k = bs.length := by omega
  rw [List.take_length]
  exact hm
 | succ d ih =>
  have h1 := ih (k + 1) (by omega) (by omega)
  rw [num_take bs k (by omega)] at h1
  have h2 := hb.at k (by omega)
  have h3 := num_bound bs hb k h
  omega
theorem num_lt8 (bs : List Int) (hb : IsB bs) (k : Nat) (h : k ≤ bs.length) (h8 : k ≤ 8) : num (bs.take k) < 18446744073709551616 := by
 have h1 := (num_bound bs hb k h).2
 have h2 : (256 : Int) ^ k ≤ 256 ^ 8 := by
  have : k = 0 ∨ k = 1 ∨ k = 2 ∨ k = 3 ∨ k = 4 ∨ k = 5 ∨ k = 6 ∨ k = 7 ∨ k = 8 := by omega
  rcases this with rfl | rfl | rfl | rfl | rfl | rfl | rfl | rfl | rfl <;> decide
 omega
def getN (bs : List Int) : Int := if bs.length < 1 ∨ 8 < bs.length ∨ 9223372036854775807 < num bs then -1 else num bs
theorem getN_le (bs : List Int) : getN bs ≤ 9223372036854775807 := by
 unfold getN
 split <;> omega
theorem getN_eight (bs : List Int) (hb : IsB bs) (h : bs.length = 8) : (9223372036854775807 < num bs) ↔ 127 < bs.getD 0 0 := by
 match bs, h with
 | x :: bs, h =>
  have hl : bs.length = 7 := by simpa using h
  have h1 := hb x (by simp)
  have h2 := num_bound bs (fun y hy => hb y (by simp [hy])) 7 (by omega)
  rw [← hl, List.take_length, hl] at h2
  rw [num_cons, hl]
  simp only [List.getD_cons_zero]
  omega
theorem getN_few (bs : List Int) (hb : IsB bs) (h : bs.length ≤ 7) : num bs ≤ 9223372036854775807 := by
 have h1 := num_bound bs hb bs.length (Nat.le_refl _)
 rw [List.take_length] at h1
 generalize bs.length = n at h h1
 have h2 : (256 : Int) ^ n ≤ 256 ^ 7 := by
  have : n = 0 ∨ n = 1 ∨ n = 2 ∨ n = 3 ∨ n = 4 ∨ n = 5 ∨ n = 6 ∨ n = 7 := by omega
  rcases this with rfl | rfl | rfl | rfl | rfl | rfl | rfl | rfl <;> decide
 omega
theorem specGet_any (v : Value) (bs : List Int) (w : World) (hb : IsB bs) (hn : bs.length ≤ 1099511627776) (hv : Rd .u8 w v bs) :
  Calls Try.prog 61 #[v] w fun e w' => e = .returned (.int .i64 (getN bs)) ∧ Same w w' := by
 by_cases h : bs.length < 1 ∨ 8 < bs.length
 ·obtain ⟨a, c, rfl⟩ := hv.form
  have e : getN bs = -1 := by unfold getN; rw [if_pos (by omega)]
  rw [e]
  clear hv e hb
  rcases h with h | h
  ·go_enter Try.func61, Try.ntmps61
   go_wp2
   go_ret
   exact ⟨rfl, Kept.refl _ _⟩
  ·go_enter Try.func61, Try.ntmps61
   go_wp2
   go_ret
   exact ⟨rfl, Kept.refl _ _⟩
 ·rcases hv.2 with ⟨rfl, _⟩ | ⟨b, off, c, rfl, _, hc⟩
  ·simp at h
  have hc0 := hc 0 (by omega)
  rw [Nat.add_zero] at hc0
  have HC : Hid (∀ i, i < bs.length → w.cell? ⟨b, off + i, none⟩ = some (.int .u8 (bs.getD i 0))) := hc
  have HB : Hid (IsB bs) := hb
  clear hc hv hb hn
  generalize hl : bs.length = len at h ⊢
  have HL : Hid (bs.length = len) := hl
  have h1 : 1 ≤ len := by omega
  have h2 : len ≤ 8 := by omega
  clear hl h
  have hx := HB.out.at 0 (by have := HL.out; omega)
  obtain ⟨x, hx0⟩ : ∃ x, bs.getD 0 0 = x := ⟨_, rfl⟩
  have HX : Hid (bs.getD 0 0 = x) := hx0
  rw [hx0] at hc0 hx
  clear hx0
  obtain ⟨G, hG⟩ : ∃ G, getN bs = G := ⟨_, rfl⟩
  have HGN : Hid (getN bs = G) := hG
  rw [hG]
  clear hG
  by_cases h8 : len = 8
  ·by_cases h127 : 127 < x
   ·have e : getN bs = -1 := by unfold getN; rw [if_pos]; right; right; exact (getN_eight bs HB.out (by rw [HL.out]; exact h8)).2 (by rw [HX.out]; exact h127)
    rw [HGN.out] at e
    subst e
    subst h8
    go_enter Try.func61, Try.ntmps61
    go_wp2
    go_ret
    exact ⟨rfl, Kept.refl _ _⟩
   ·have HOK : Hid (len ≤ 7 ∨ len = 8 ∧ x ≤ 127) := Or.inr ⟨h8, by omega⟩
    subst h8
    go_enter Try.func61, Try.ntmps61
    go_wp2
    go_loopw [3, 4] (fun y i wr => ∃ (k : Nat), k ≤ 8 ∧ y = .int .i64 (num (bs.take k)) ∧ i = .int .i64 k ∧ wr = w) (fun _ i _ => 8 - (intOf i).toNat)
    case atStart => exact ⟨0, Nat.zero_le _, by simp [num], by simp, rfl⟩
    case round =>
     obtain ⟨k, hk, rfl, rfl, rfl⟩ := hrel
     have hg : getN bs = num bs := by
      unfold getN
      rw [if_neg]
      have hl := HL.out
      rcases HOK.out with h | h
      ·have := getN_few bs HB.out (by omega)
       omega
      ·have := getN_eight bs HB.out (by omega)
       rw [HX.out] at this
       omega
     have HG : Hid (getN bs = num bs) := hg
     clear hg
     by_cases hlt : k < 8
     ·have hlp : k < bs.length := by rw [HL.out]; exact hlt
      have q1 := HC.out k hlp
      have hb1 := num_bound bs HB.out k (by omega)
      have hb2 := HB.out.at k hlp
      have hb3 : num (bs.take k) * 256 + bs.getD k 0 ≤ 9223372036854775807 := by
       have e := num_take bs k hlp
       rw [← e]
       exact num_le bs HB.out (k + 1) (by omega) (by have := HG.out; have h9 := getN_le bs; omega)
      have HS : Hid (num (bs.take (k + 1)) = num (bs.take k) * 256 + bs.getD k 0) := num_take bs k hlp
      generalize num (bs.take k) = y at *
      generalize bs.getD k 0 = z at *
      obtain ⟨hy0, _⟩ := hb1
      clear hc0
      go_wp2
      go_roundw
      case rel => exact ⟨k + 1, by omega, by rw [HS.out], by go_num, by first | rfl | trivial⟩
      case measure => simp [intOf]; omega
     ·have hke : k = 8 := by omega
      have he : num (bs.take k) = G := by rw [← HGN.out, HG.out, hke, ← HL.out, List.take_length]
      rw [he]
      clear hc0
      go_wp2
      go_ret
      exact ⟨rfl, Kept.refl _ _⟩
  ·have HOK : Hid (len ≤ 7 ∨ len = 8 ∧ x ≤ 127) := Or.inl (by omega)
   go_enter Try.func61, Try.ntmps61
   go_wp2
   go_loopw [3, 4] (fun y i wr => ∃ (k : Nat), k ≤ len ∧ y = .int .i64 (num (bs.take k)) ∧ i = .int .i64 k ∧ wr = w) (fun _ i _ => len - (intOf i).toNat)
   case atStart => exact ⟨0, Nat.zero_le _, by simp [num], by simp, rfl⟩
   case round =>
    obtain ⟨k, hk, rfl, rfl, rfl⟩ := hrel
    have hg : getN bs = num bs := by
     unfold getN
     rw [if_neg]
     have hl := HL.out
     rcases HOK.out with h | h
     ·have := getN_few bs HB.out (by omega)
      omega
     ·have := getN_eight bs HB.out (by omega)
      rw [HX.out] at this
      omega
    have HG : Hid (getN bs = num bs) := hg
    clear hg
    by_cases hlt : k < len
    ·have hlp : k < bs.length := by rw [HL.out]; exact hlt
     have q1 := HC.out k hlp
     have hb1 := num_bound bs HB.out k (by omega)
     have hb2 := HB.out.at k hlp
     have hb3 : num (bs.take k) * 256 + bs.getD k 0 ≤ 9223372036854775807 := by
      have e := num_take bs k hlp
      rw [← e]
      exact num_le bs HB.out (k + 1) (by omega) (by have := HG.out; have h9 := getN_le bs; omega)
     have HS : Hid (num (bs.take (k + 1)) = num (bs.take k) * 256 + bs.getD k 0) := num_take bs k hlp
     generalize num (bs.take k) = y at *
     generalize bs.getD k 0 = z at *
     obtain ⟨hy0, _⟩ := hb1
     clear hc0
     go_wp2
     go_roundw
     case rel => exact ⟨k + 1, by omega, by rw [HS.out], by go_num, by first | rfl | trivial⟩
     case measure => simp [intOf]; omega
    ·have hke : k = len := by omega
     have he : num (bs.take k) = G := by rw [← HGN.out, HG.out, hke, ← HL.out, List.take_length]
     rw [he]
     clear hc0
     go_wp2
     go_ret
     exact ⟨rfl, Kept.refl _ _⟩
theorem implGet_any (v : Value) (bs : List Int) (w : World) (hb : IsB bs) (hn : bs.length ≤ 1099511627776) (hv : Rd .u8 w v bs) :
  Calls Try.prog 50 #[v] w fun e w' => e = .returned (.int .i64 (getN bs)) ∧ Same w w' := by
 by_cases h : bs.length < 1 ∨ 8 < bs.length
 ·obtain ⟨a, c, rfl⟩ := hv.form
  have e : getN bs = -1 := by unfold getN; rw [if_pos (by omega)]
  rw [e]
  clear hv e hb
  rcases h with h | h
  ·go_enter Try.func50, Try.ntmps50
   go_wp2
   go_ret
   exact ⟨rfl, Kept.refl _ _⟩
  ·go_enter Try.func50, Try.ntmps50
   go_wp2
   go_ret
   exact ⟨rfl, Kept.refl _ _⟩
 ·rcases hv.2 with ⟨rfl, _⟩ | ⟨b, off, c, rfl, _, hc⟩
  ·simp at h
  have HC : Hid (∀ i, i < bs.length → w.cell? ⟨b, off + i, none⟩ = some (.int .u8 (bs.getD i 0))) := hc
  have HB : Hid (IsB bs) := hb
  clear hc hv hb hn
  generalize hl : bs.length = len at h ⊢
  have HL : Hid (bs.length = len) := hl
  have h1 : 1 ≤ len := by omega
  have h2 : len ≤ 8 := by omega
  clear hl h
  obtain ⟨G, hG⟩ : ∃ G, getN bs = G := ⟨_, rfl⟩
  have HGN : Hid (getN bs = G) := hG
  rw [hG]
  clear hG
  go_enter Try.func50, Try.ntmps50
  go_wp2
  go_loopw [3, 5, 16] (fun y _ i wr => ∃ (k : Nat), k ≤ len ∧ y = .int .u64 (num (bs.take k)) ∧ i = .int .i64 k ∧ wr = w) (fun _ _ i _ => len - (intOf i).toNat)
  case atStart => exact ⟨0, Nat.zero_le _, by simp [num], by simp, rfl⟩
  case round =>
   obtain ⟨k, hk, rfl, rfl, rfl⟩ := hrel
   by_cases hlt : k < len
   ·have hlp : k < bs.length := by rw [HL.out]; exact hlt
    have q1 := HC.out k hlp
    have hb1 := num_bound bs HB.out k (by omega)
    have hb2 := HB.out.at k hlp
    have hb3 : num (bs.take k) * 256 + bs.getD k 0 < 18446744073709551616 := by
     have e := num_take bs k hlp
     rw [← e]
     exact num_lt8 bs HB.out (k + 1) (by omega) (by omega)
    have HS : Hid (num (bs.take (k + 1)) = num (bs.take k) * 256 + bs.getD k 0) := num_take bs k hlp
    generalize num (bs.take k) = y at *
    generalize bs.getD k 0 = z at *
    obtain ⟨hy0, _⟩ := hb1
    have hor : bits .or .u64 (y * 256) z = y * 256 + z := bits_join .u64 64 (by decide) (fun n h0 h1 => by rw [IntKind.wrap_u64]; omega) 8 _ _ (by omega) (by omega) (by omega) (by omega) (by omega) (by omega)
    go_wp2
    go_roundw
    case rel => exact ⟨k + 1, by omega, by rw [HS.out], by go_num, by first | rfl | trivial⟩
    case measure => simp [intOf]; omega
   ·have hke : k = len := by omega
    have he : num (bs.take k) = num bs := by rw [hke, ← HL.out, List.take_length]
    rw [he]
    have hb1 := num_lt8 bs HB.out len (by have := HL.out; omega) (by omega)
    have hb0 := num_bound bs HB.out len (by have := HL.out; omega)
    rw [← hke, he] at hb1 hb0
    have HG : Hid (getN bs = if 9223372036854775807 < num bs then -1 else num bs) := by
     have hl := HL.out
     have h0 : ¬ bs.length < 1 := by omega
     have h8 : ¬ 8 < bs.length := by omega
     simp [getN, h0, h8, Hid]
    clear he
    generalize num bs = y at *
    by_cases hm : 9223372036854775807 < y
    ·have e := HG.out
     rw [if_pos hm, HGN.out] at e
     go_wp2
     go_ret
     rw [e]
     exact ⟨rfl, Kept.refl _ _⟩
    ·have e := HG.out
     rw [if_neg hm, HGN.out] at e
     obtain ⟨hy0, _⟩ := hb0
     go_wp2
     go_ret
     exact ⟨rfl, Kept.refl _ _⟩
/-! ### Numbers -/
theorem num_lows (v : Nat) (k : Nat) : num (lows (v : Int) k) = ((v % 256 ^ k : Nat) : Int) := by
 induction k with
 | zero => simp [lows, num, Nat.mod_one]
 | succ k ih =>
  have e : lows (v : Int) (k + 1) = ((v : Int) / 256 ^ k % 256) :: lows (v : Int) k := rfl
  rw [e, num_cons, lows_length, ih, Nat.pow_succ, Nat.mod_mul]
  have e2 : ((v : Int) / 256 ^ k % 256) = ((v / 256 ^ k % 256 : Nat) : Int) := by simp
  rw [e2]
  have e3 : (256 : Int) ^ k = ((256 ^ k : Nat) : Int) := by simp
  rw [e3, ← Int.natCast_mul, ← Int.natCast_add, Nat.mul_comm, Nat.add_comm]
def le : List Int → Nat
 | [] => 0
 | b :: bs => b.toNat ^^^ 256 * le bs
theorem lows_isB (v : Int) (k : Nat) : IsB (lows v k) := by
 induction k with
 | zero => intro y hy; simp [lows] at hy
 | succ k ih =>
  intro y hy
  simp only [lows, List.mem_cons] at hy
  rcases hy with rfl | hy
  ·omega
  ·exact ih y hy
theorem numB_isB (v n : Int) : IsB (numB v n) := by
 unfold numB
 split
 ·intro y hy; simp at hy
 ·exact lows_isB _ _
theorem Rd.mid {k : IntKind} {w : World} {b off c : Nat} {bs : List Int} (h : Rd k w (.slice (some ⟨b, off, none⟩) bs.length c) bs) (o n c' : Nat) (hm : o + n ≤ bs.length) (hc' : n ≤ c') : Rd k w (.slice (some ⟨b, off + o, none⟩) n c') ((bs.drop o).take n) := by
 have hl : ((bs.drop o).take n).length = n := by simp; omega
 refine ⟨by rw [hl]; have := h.1; omega, ?_⟩
 by_cases h0 : n = 0
 ·subst h0
  exact .inl ⟨by simp, _, _, rfl, fun e => by cases e⟩
 ·rcases h.2 with ⟨hn, a, c', e, _⟩ | ⟨b', off', c'', e, hl', hc⟩
  ·rw [hn] at hm
   simp at hm
   omega
  ·cases e
   refine .inr ⟨b, off + o, c', by rw [hl], by omega, fun i hi => ?_⟩
   have := hc (o + i) (by omega)
   rw [Nat.add_assoc, this]
   simp [List.getD, List.getElem?_take, List.getElem?_drop, show i < n by omega]
theorem l3Number_any (b off len c : Nat) (bs : List Int) (at_ n : Nat) (w : World) (hB : IsB bs) (hl : bs.length = len) (hm : len ≤ 1099511627776) (h1 : 1 ≤ n) (h2 : at_ + n ≤ len) (hv : Rd .u8 w (.slice (some ⟨b, off, none⟩) len c) bs) :
  Calls Try.prog 46 #[.slice (some ⟨b, off, none⟩) len c, .int .i64 at_, .int .i64 n] w fun e w' => e = .returned (.int .i64 (getN ((bs.drop at_).take n))) ∧ Same w w' := by
 have hc : len ≤ c := by
  rcases hv.2 with ⟨h0, _⟩ | ⟨b', o', c', e, hl', hc⟩
  ·rw [h0] at hl
   simp at hl
   omega
  ·cases e
   omega
 have HR := (show Hid (Rd .u8 w (.slice (some ⟨b, off + at_, none⟩) n (c - at_)) ((bs.drop at_).take n)) from (by subst hl; exact hv.mid at_ n (c - at_) h2 (by omega)))
 have HG := (show Hid (Calls Try.prog 61 #[.slice (some ⟨b, off + at_, none⟩) n (c - at_)] w fun e w' => e = .returned (.int .i64 (getN ((bs.drop at_).take n))) ∧ Same w w') from specGet_any _ _ w (isB_take (isB_drop hB at_) n) (by simp; omega) HR.out)
 clear hv hB HR
 have q1 : (at_ : Int) ≤ (at_ : Int) + (n : Int) := by omega
 have q2 : (at_ : Int) + (n : Int) ≤ (c : Int) := by omega
 have q3 : (0 : Int) ≤ (at_ : Int) := by omega
 have q4 : at_ < c := by omega
 have q5 : ¬ c = at_ := by omega
 have q6 : ((at_ : Int) + (n : Int)).toNat = at_ + n := by omega
 have q7 : at_ + n - at_ = n := by omega
 go_enter Try.func46, Try.ntmps46
 go_wp2_with fail
 with_reducible refine HG.out.mono ?_
 rintro e w1 ⟨rfl, hk1⟩
 go_wp2
 go_ret
 exact ⟨rfl, hk1⟩
def sealB (bs : List Int) : List Int := lows (crcOn 0 (bs.drop 4)) 4 ++ bs.drop 4
theorem sealB_length (bs : List Int) (h : 4 ≤ bs.length) : (sealB bs).length = bs.length := by simp [sealB, lows_length]; omega
theorem Blk.rd {w : World} {B : Nat} {e : TypeId} {bs : List Int} (h : Blk w B e (vals .u8 bs)) (o n c : Nat) (hn : o + n ≤ bs.length) (hc : n ≤ c) (hm : bs.length ≤ maxLen) : Rd .u8 w (.slice (some ⟨B, o, none⟩) n c) ((bs.drop o).take n) := by
 have hl : ((bs.drop o).take n).length = n := by simp; omega
 refine ⟨by omega, .inr ⟨B, o, c, by rw [hl], by omega, fun i hi => ?_⟩⟩
 rw [h.cell, vals_at _ _ _ (by omega)]
 simp [List.getD, List.getElem?_take, show i < n by omega]
theorem list_any (bs : List Int) (w : World) (hl : bs.length = 4096) :
  Calls Try.prog 23 #[.agg (vals .u8 bs).toArray] w fun e w' => e = .returned (.slice (some ⟨w.heap.size, 0, none⟩) 4096 4096) ∧ Blk w' w.heap.size 60 (vals .u8 bs) ∧ Same w w' := by
 obtain ⟨cs, hcs⟩ : ∃ cs : Array Value, (vals .u8 bs).toArray = cs := ⟨_, rfl⟩
 have hsz : cs.size = 4096 := by rw [← hcs]; simp [vals, hl]
 have HCS := (show Hid ((vals .u8 bs).toArray = cs) from hcs)
 rw [hcs]
 clear hcs hl
 go_enter Try.func23, Try.ntmps23
 go_wp2
 go_ret
 refine ⟨rfl, ?_, (Kept.refl _ _).alloc _⟩
 have h := Blk.new w cs 60
 rw [← HCS.out] at h ⊢
 exact h
def pageSeal (bs : List Int) : List Int := if bs.length = 4096 then sealB bs else []
theorem run_arrayP (w : World) (ad : Option Addr) (c : Nat) : (Instr.arrayAt 60 (.slice ad 4096 c)).run Try.prog w = .ok (.pointer ad) w := by
 simp [Instr.arrayAt, run_underlying Try.underlying60]
theorem page_info : (Try.prog.info? 60).map (·.size) = some 4096 := by kernel_rfl
theorem rd_range {w : World} {b off c : Nat} {bs : List Int} (h : Rd .u8 w (.slice (some ⟨b, off, none⟩) bs.length c) bs) (hn : 0 < bs.length) : w.rangeAt b off (vals .u8 bs) := fun j v hv => by
 have hj : j < bs.length := by have := (List.getElem?_eq_some_iff.1 hv).1; rwa [vals_length] at this
 rcases h.2 with ⟨h0, _⟩ | ⟨b', o', c', e, _, hc⟩
 ·rw [h0] at hn
  simp at hn
 ·cases e
  rw [hc j hj, ← hv, vals_at _ _ _ hj]
theorem rd_some {w : World} {a : Option Addr} {n c : Nat} {bs : List Int} (h : Rd .u8 w (.slice a n c) bs) (hn : 0 < bs.length) : ∃ b off, a = some ⟨b, off, none⟩ ∧ bs.length ≤ c := by
 rcases h.2 with ⟨h0, _⟩ | ⟨b', o', c', e, hl, hc⟩
 ·rw [h0] at hn
  simp at hn
 ·cases e
  exact ⟨_, _, rfl, hl⟩
theorem numB4 (x : Int) (h0 : 0 ≤ x) (h1 : x ≤ 4294967295) : numB x 4 = lows x 4 := by
 unfold numB
 rw [if_neg]
 ·rfl
 ·have : x / 256 ^ (4 : Int).toNat = 0 := by
   rw [show (256 : Int) ^ (4 : Int).toNat = 4294967296 from rfl]
   omega
  omega
theorem specSeal_any (v : Value) (bs : List Int) (w : World) (hB : IsB bs) (hn : bs.length ≤ 1099511627776) (hv : Rd .u8 w v bs) :
  Calls Try.prog 34 #[v] w fun e w' => ∃ a c, e = .returned (.slice a (pageSeal bs).length c) ∧ (∀ b, (Value.slice a (pageSeal bs).length c).ownBlock = some b → w.heap.size ≤ b) ∧
   Own 0 5 .u8 w' (.slice a (pageSeal bs).length c) (pageSeal bs) ∧ Same w w' := by
 obtain ⟨a, c, rfl⟩ := hv.form
 by_cases hl : bs.length = 4096
 ·have hR : pageSeal bs = sealB bs := by unfold pageSeal; rw [if_pos hl]
  have hsl : (sealB bs).length = 4096 := by rw [sealB_length _ (by omega), hl]
  obtain ⟨b, off, rfl, hc⟩ := rd_some hv (by omega)
  obtain ⟨i0, hi, hz0, hz1, hz2⟩ := info_parts Try.infoByte'
  have HV := (show Hid (Rd .u8 w (.slice (some ⟨b, off, none⟩) bs.length c) bs) from hv)
  have HB := (show Hid (IsB bs) from hB)
  have HL := (show Hid (bs.length = 4096) from hl)
  have hsum := crcOn_le 0 (bs.drop 4) (by decide) (by decide) (fun y hy => hB y (List.mem_of_mem_drop hy))
  have HN4 := (show Hid (numB (crcOn 0 (bs.drop 4)) 4 = lows (crcOn 0 (bs.drop 4)) 4) from numB4 _ hsum.1 hsum.2)
  have HRd := (show Hid (∀ wx, Same w wx → Rd .u8 wx (.slice (some ⟨b, off + 4, none⟩) 4092 (c - 4)) (bs.drop 4)) from fun wx hx => by
   have h := Rd.back (hv.same hx) 4 (by omega)
   rwa [show bs.length - 4 = 4092 from by omega] at h)
  clear hv hB hn
  rw [hR, hsl, hl]
  rw [hl] at hc
  have hc4 : (4 : Int) ≤ (c : Int) := by omega
  have hc5 : 4 < c := by omega
  have hc6 : ¬ c = 4 := by omega
  clear hl
  go_enter Try.func34, Try.ntmps34
  go_wp2_with fail
  have hS : (fun _ : World => True) w.drew := by trivial
  refine wp_region_V (fun _ : World => True) 99 8 rfl (by kernel_rfl) ?_
  refine tk 0 7 hS ?_
  refine tk 1 8 hS ?_
  refine tk 4 11 hS ?_
  refine tk 5 12 hS ?_
  refine wpAnyV_one (i := 2) (by kernel_rfl) rfl (fun K hK => ?_)
  go_simp
  have hcc := specCrc_any (.slice (some ⟨b, off + 4, none⟩) 4092 (c - 4)) (bs.drop 4) w.drew (fun y hy => HB.out y (List.mem_of_mem_drop hy)) (by rw [List.length_drop, HL.out]; decide) (HRd.out _ (Kept.refl _ _).drew)
  with_reducible refine hcc.mono ?_
  clear hcc
  rintro e w2 ⟨rfl, hkk⟩
  have HK2 := (show Hid (Same w w2) from (Kept.refl _ _).drew.trans hkk)
  have hz2' := hkk.size
  clear hkk
  refine hK.out _ _ (fun _ => trivial) ?_
  clear hK K
  try simp only [Act.put, sA, s0, sS]
  refine wpAnyV_one (i := 3) (by kernel_rfl) rfl (fun K hK => ?_)
  go_simp
  have hcc := specPut_any (crcOn 0 (bs.drop 4)) 4 w2 ⟨by omega, by omega⟩ ⟨by decide, by decide⟩
  with_reducible refine hcc.mono ?_
  clear hcc
  rintro e w3 ⟨a3, c3, rfl, hf3, ho3, hk3⟩
  rw [HN4.out, lows_length] at hf3 ho3 ⊢
  have HK3 := hid (HK2.out.trans hk3)
  have HF3 := (show Hid (∀ b, (Value.slice a3 4 c3).ownBlock = some b → w2.heap.size ≤ b) from hf3)
  have HO3 := (show Hid (Own 0 5 .u8 w3 (.slice a3 4 c3) (lows (crcOn 0 (bs.drop 4)) 4)) from ho3)
  clear hf3 ho3 hk3
  refine hK.out _ _ (fun _ => trivial) ?_
  clear hK K
  try simp only [Act.put, sA, s0, sS]
  refine wpAnyV_one (i := 6) (by kernel_rfl) rfl (fun K hK => ?_)
  have hnews : ∀ j u, (vals .u8 (bs.drop 4))[j]? = some u → w3.cell? ((⟨b, off + 4, none⟩ : Addr).add j) = some u := fun j u hu => by
   have hj : j < (bs.drop 4).length := by have := (List.getElem?_eq_some_iff.1 hu).1; rwa [vals_length] at this
   rcases (HRd.out _ HK3.out).2 with ⟨h0, _⟩ | ⟨b', o', c', e, _, hcc⟩
   ·rw [h0] at hj
    simp at hj
   ·simp only [Value.slice.injEq, Option.some.injEq, Addr.mk.injEq] at e
    obtain ⟨⟨rfl, rfl, _⟩, _, rfl⟩ := e
    rw [addr_add, hcc j hj, ← hu, vals_at _ _ _ hj]
  have hdl : (vals .u8 (bs.drop 4)).length = 4092 := by rw [vals_length, List.length_drop, HL.out]
  have hown3 : w3.ownsRow 0 5 1 (.slice a3 4 c3) 4 (vals .u8 (lows (crcOn 0 (bs.drop 4)) 4)) := by have h := HO3.out; unfold Own at h; rwa [lows_length] at h
  refine step_append_lies _ (by rfl) _ _ 22 (by rfl) 0 5 i0 (.int .u8 0) 1 1 Try.underlying22 hi hz0 hz1 hz2 rfl (by omega) (.slice a3 4 c3) 4 (vals .u8 (lows (crcOn 0 (bs.drop 4)) 4)) (by rfl) hown3 ⟨b, off + 4, none⟩ 4092 (c - 4) (vals .u8 (bs.drop 4)) (by rfl) (by rw [hdl]) hnews vals_one (by omega) (by decide) (by decide) (Nat.zero_le _) w3.heap.size rfl ?_
  intro g4 cap4 w4 hown4 hgrow4 hat4 hlt4
  have HO4 := (show Hid (Own 0 5 .u8 w4 (.slice (some ⟨g4, 0, none⟩) 4096 cap4) (sealB bs)) from (by unfold Own Hid; rw [hsl]; simpa [sealB, vals] using hown4))
  have HK4 := (show Hid (Same w w4) from HK3.out.grown hgrow4 (fun k e => .inl (by have := HF3.out k e; have := HK2.out.size; omega)))
  have hg4 : w.heap.size ≤ g4 := by
   have := HK2.out.size
   have := HK3.out.size
   rcases hat4 with h | h
   ·have := HF3.out g4 h; omega
   ·omega
  clear hown4 hgrow4 hat4 hown3 hnews
  refine hK.out _ _ (fun _ => trivial) ?_
  clear hK K
  try simp only [Act.put, sA, s0, sS]
  refine tk 7 2 hS ?_
  refine wpAnyV_done (by kernel_rfl) ?_
  go_wp2
  go_ret
  refine ⟨_, _, rfl, fun b hb => ?_, HO4.out, HK4.out⟩
  simp [Value.ownBlock] at hb
  omega
 ·have hR : pageSeal bs = [] := by unfold pageSeal; rw [if_neg hl]
  rw [hR]
  have hl' : ¬ (bs.length : Int) = 4096 := by omega
  clear hv hB
  go_enter Try.func34, Try.ntmps34
  go_wp2
  go_ret
  exact ⟨some ⟨w.heap.size, 0, none⟩, 0, rfl, fun b hb => by simp [Value.ownBlock] at hb; omega, Own.empty _ _, (Kept.refl _ _).alloc _⟩
end Go.Proofs.Ytcldagphkpkdpaa
