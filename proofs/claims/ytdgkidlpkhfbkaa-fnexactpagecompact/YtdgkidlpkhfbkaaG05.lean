import Derived.Test.YtdgkidlpkhfbkaaG00
import Derived.Test.YtdgkidlpkhfbkaaG01
import Derived.Test.YtdgkidlpkhfbkaaG04
import Derived.Laws.IdiomCopy
namespace Go.Proofs.Ytdgkidlpkhfbkaa
set_option linter.unusedVariables false
set_option linter.unusedSimpArgs false
set_option maxRecDepth 100000
set_option maxHeartbeats 8000000
open Go Go.RowKit
structure RowK (E : Type) where
 m : Nat
 cells : E → List Value
 len : ∀ p, (cells p).length = m
 v : E → Value
 bs : E → List Int
variable {E : Type}
def RowK.all (K : RowK E) : List E → List Value
 | [] => []
 | p :: ps => K.cells p ++ K.all ps
theorem RowK.all_length (K : RowK E) (ps : List E) : (K.all ps).length = ps.length * K.m := by
 induction ps with
 | nil => simp [RowK.all]
 | cons p ps ih => rw [RowK.all, List.length_append, K.len, ih, List.length_cons, Nat.add_mul, Nat.one_mul, Nat.add_comm]
theorem RowK.all_append (K : RowK E) (ps qs : List E) : K.all (ps ++ qs) = K.all ps ++ K.all qs := by
 induction ps with
 | nil => rfl
 | cons p ps ih => simp only [List.cons_append, RowK.all, ih, List.append_assoc]
theorem RowK.all_at (K : RowK E) (ps : List E) (j i : Nat) (h : j < ps.length) (hi : i < K.m) : (K.all ps)[j * K.m + i]? = (K.cells ps[j])[i]? := by
 induction ps generalizing j with
 | nil => simp at h
 | cons p ps ih =>
  cases j with
  | zero => rw [Nat.zero_mul, Nat.zero_add, RowK.all, List.getElem?_append_left (by rw [K.len]; exact hi)]; rfl
  | succ j =>
   rw [RowK.all, List.getElem?_append_right (by rw [K.len, Nat.add_mul]; omega), K.len, show (j + 1) * K.m + i - K.m = j * K.m + i from by rw [Nat.add_mul]; omega]
   exact ih j (by simpa using h)
structure OwnR (K : RowK E) (base : Nat) (tw tb : TypeId) (w : World) (v : Value) (ps : List E) : Prop where
 row : w.ownsRow base tw K.m v ps.length (K.all ps)
 data : ∀ p ∈ ps, Own base tb .u8 w (K.v p) (K.bs p)
 out : ∀ u ∈ ps.map K.v, Apart v u
 each : (ps.map K.v).Pairwise Apart
def footR (K : RowK E) (v : Value) (ps : List E) (b : Nat) : Prop := v.ownBlock = some b ∨ ∃ p ∈ ps, (K.v p).ownBlock = some b
section
variable {K : RowK E} {base : Nat} {tw tb : TypeId} {w w' : World} {v : Value} {ps qs : List E}
theorem OwnR.form (h : OwnR K base tw tb w v ps) :
  (v = .slice none 0 0 ∧ ps = []) ∨ ∃ g cap, v = .slice (some ⟨g, 0, none⟩) ps.length cap ∧ base ≤ g ∧ g < w.heap.size ∧ ps.length ≤ cap ∧ cap ≤ maxLen := by
 rcases h.row.2 with ⟨rfl, hn⟩ | ⟨g, cap, cur, rfl, hb, hgg, hc, hm, _⟩
 ·exact .inl ⟨rfl, List.length_eq_zero_iff.1 hn⟩
 ·exact .inr ⟨g, cap, rfl, hb, (Array.getElem?_eq_some_iff.1 hgg).1, hc, hm⟩
theorem OwnR.lt (h : OwnR K base tw tb w v ps) (b : Nat) (hb : footR K v ps b) : base ≤ b ∧ b < w.heap.size := by
 rcases hb with hb | ⟨p, hp, hb⟩
 ·exact World.ownsRow.lt h.row b hb
 ·exact (h.data p hp).lt b hb
theorem OwnR.cell {g n cap : Nat} (h : OwnR K base tw tb w (.slice (some ⟨g, 0, none⟩) n cap) ps) (hn : n = ps.length) (j i : Nat) (hj : j < ps.length) (hi : i < K.m) :
  w.cell? ⟨g, j * K.m + i, none⟩ = (K.cells ps[j])[i]? := by
 subst hn
 rw [World.ownsRow.cellAt h.row (j * K.m + i) (by have := Nat.mul_le_mul_right K.m (Nat.succ_le_of_lt hj); rw [Nat.succ_mul] at this; omega), K.all_at ps j i hj hi]
theorem OwnR.frozen {g n cap : Nat} (h : OwnR K base tw tb w (.slice (some ⟨g, 0, none⟩) n cap) ps) (hn : n = ps.length) (j : Nat) : w.frozen? ⟨g, j, none⟩ = false := by
 subst hn
 exact World.ownsRow.frozenAt h.row j
theorem OwnR.kept {R : Nat → Prop} (h : OwnR K base tw tb w v ps) (hk : Kept R w w') (hr : ∀ b, footR K v ps b → ¬ R b) : OwnR K base tw tb w' v ps :=
 ⟨hk.owns h.row (fun b hb => hr b (.inl hb)), fun p hp => (h.data p hp).kept hk (fun b hb => hr b (.inr ⟨p, hp, hb⟩)), h.out, h.each⟩
theorem OwnR.same (h : OwnR K base tw tb w v ps) (hk : Same w w') : OwnR K base tw tb w' v ps := h.kept hk (fun _ _ => id)
theorem OwnR.nil (K : RowK E) (base : Nat) (tw tb : TypeId) (w : World) : OwnR K base tw tb w (.slice none 0 0) [] :=
 ⟨World.ownsRow_nil _ _ _ _, fun _ h => by simp at h, fun _ h => by simp at h, List.Pairwise.nil⟩
theorem OwnR.set {g n cap : Nat} {pre post : List E} {p p' : E} (h : OwnR K base tw tb w (.slice (some ⟨g, 0, none⟩) n cap) (pre ++ p :: post)) (hn : n = (pre ++ p :: post).length) (i : Nat) (u : Value) (hi : i < K.m)
  (hc : K.cells p' = (K.cells p).set i u) (hv : K.v p' = K.v p) (hb : K.bs p' = K.bs p) (j : Nat) (hj : j = pre.length * K.m + i) :
  OwnR K base tw tb (w.setCell ⟨g, j, none⟩ u) (.slice (some ⟨g, 0, none⟩) n cap) (pre ++ p' :: post) := by
 subst hn hj
 have hk : Kept (fun b => b = g) w (w.setCell ⟨g, pre.length * K.m + i, none⟩ u) := Kept.setCell (Kept.refl (fun b => b = g) w) (p := ⟨g, pre.length * K.m + i, none⟩) (.inr rfl) _
 have hmap : (pre ++ p' :: post).map K.v = (pre ++ p :: post).map K.v := by simp [hv]
 refine ⟨?_, fun q hq => ?_, by rw [hmap]; exact h.out, by rw [hmap]; exact h.each⟩
 ·have hs := (World.ownsRow.stored h.row (pre.length * K.m + i) u).1
  have e : K.all (pre ++ p' :: post) = (K.all (pre ++ p :: post)).set (pre.length * K.m + i) u := by
   rw [K.all_append, K.all_append, List.set_append_right (h := by rw [K.all_length]; omega), K.all_length, Nat.add_sub_cancel_left, RowK.all, RowK.all, List.set_append_left (h := by rw [K.len]; exact hi), hc]
  rw [e]
  simpa using hs
 ·have hq' : ∃ q' ∈ pre ++ p :: post, K.v q' = K.v q ∧ K.bs q' = K.bs q := by
   rcases List.mem_append.1 hq with hq | hq
   ·exact ⟨q, by simp [hq], rfl, rfl⟩
   ·rcases List.mem_cons.1 hq with rfl | hq
    ·exact ⟨p, by simp, hv.symm, hb.symm⟩
    ·exact ⟨q, by simp [hq], rfl, rfl⟩
  obtain ⟨q', hm, e1, e2⟩ := hq'
  have hd := h.data q' hm
  rw [e1, e2] at hd
  refine hd.kept hk (fun b hb e => ?_)
  subst e
  exact h.out (K.v q) (by rw [← e1]; exact List.mem_map_of_mem hm) b rfl hb
end
structure MarkK (K : RowK E) where
 on : Int → E → E
 sz : E → Nat
 v : ∀ k p, K.v (on k p) = K.v p
section
variable {K : RowK E} (M : MarkK K)
end
structure RdR (K : RowK E) (w : World) (v : Value) (ps : List E) : Prop where
 max : ps.length ≤ maxLen
 row : (ps = [] ∧ ∃ a c, v = .slice a 0 c) ∨ ∃ b off c, v = .slice (some ⟨b, off, none⟩) ps.length c ∧ ∀ j i, (h : j < ps.length) → i < K.m → w.cell? ⟨b, off + (j * K.m + i), none⟩ = (K.cells ps[j])[i]?
 data : ∀ p ∈ ps, Rd .u8 w (K.v p) (K.bs p)
section
variable {K : RowK E} {w w' : World} {v : Value} {ps : List E}
theorem RdR.kept {R : Nat → Prop} (h : RdR K w v ps) (hk : Kept R w w') (hr : ∀ b, footR K v ps b → ¬ R b) : RdR K w' v ps := by
 refine ⟨h.max, ?_, fun p hp => (h.data p hp).kept hk (fun b hb => hr b (.inr ⟨p, hp, hb⟩))⟩
 rcases h.row with h | ⟨b, off, c, rfl, hc⟩
 ·exact .inl h
 ·refine .inr ⟨b, off, c, rfl, fun j i hj hi => ?_⟩
  have hl := K.len ps[j]
  rw [List.getElem?_eq_getElem (by omega)]
  exact hk.cellOf (by rw [hc j i hj hi, List.getElem?_eq_getElem (by omega)]) (hr b (.inl rfl))
theorem RdR.same (h : RdR K w v ps) (hk : Same w w') : RdR K w' v ps := h.kept hk (fun _ _ => id)
theorem RdR.form (h : RdR K w v ps) : ∃ a c, v = .slice a ps.length c := by
 rcases h.row with ⟨rfl, a, c, rfl⟩ | ⟨b, off, c, rfl, _⟩ <;> exact ⟨_, _, rfl⟩
theorem OwnR.rd {base : Nat} {tw tb : TypeId} (h : OwnR K base tw tb w v ps) : RdR K w v ps := by
 refine ⟨?_, ?_, fun p hp => (h.data p hp).rd⟩
 ·rcases h.form with ⟨rfl, rfl⟩ | ⟨g, cap, rfl, _, _, hc, hm⟩
  ·simp
  ·exact Nat.le_trans hc hm
 ·rcases h.form with ⟨rfl, rfl⟩ | ⟨g, cap, rfl, _, _, hc, hm⟩
  ·exact .inl ⟨rfl, _, _, rfl⟩
  ·exact .inr ⟨g, 0, cap, rfl, fun j i hj hi => by rw [Nat.zero_add]; exact h.cell rfl j i hj hi⟩
end
variable {E : Type}
theorem owns_setCells {base : Nat} {e : TypeId} {size g n cap : Nat} : ∀ (vs : List Value) (o : Nat) {w : World} {xs : List Value}, w.ownsRow base e size (.slice (some ⟨g, 0, none⟩) n cap) n xs → o + vs.length ≤ xs.length → (w.setCells g o vs).ownsRow base e size (.slice (some ⟨g, 0, none⟩) n cap) n (lay xs o vs)
 | [], o, w, xs, h, _ => by rw [lay_nil]; exact h
 | v :: vs, o, w, xs, h, hl => by
  simp only [List.length_cons] at hl
  have h1 := (World.ownsRow.stored h o v).1
  have := owns_setCells vs (o + 1) h1 (by rw [List.length_set]; omega)
  rw [lay_cons _ _ _ _ hl] at this
  exact this
section
variable {K : RowK E} {base : Nat} {tw tb : TypeId} {w w' : World}
end
def behind (g cap o : Nat) : Option Addr := if cap = o then some ⟨g, 0, none⟩ else some ⟨g, o, none⟩
theorem Own.laid {base : Nat} {e : TypeId} {w : World} {g n cap : Nat} {xs : List Int} (h : Own base e .u8 w (.slice (some ⟨g, 0, none⟩) n cap) xs) (hn : n = xs.length) (o : Nat) (ys : List Int) (ho : o + ys.length ≤ n) :
  Own base e .u8 (w.setCells g o (vals .u8 ys)) (.slice (some ⟨g, 0, none⟩) n cap) (layI xs o ys) := by
 subst hn
 have h1 := owns_setCells (size := 1) (vals .u8 ys) o h (by rw [vals_length, vals_length]; exact ho)
 rw [lay_layI] at h1
 unfold Own
 rw [layI_length _ _ _ ho]
 exact h1
theorem Own.caps {base : Nat} {e : TypeId} {k : IntKind} {w : World} {a : Option Addr} {n cap : Nat} {xs : List Int} (h : Own base e k w (.slice a n cap) xs) : n = xs.length ∧ n ≤ cap := by
 rcases h.form with ⟨h, h'⟩ | ⟨g', cap', h, _, _, hc, _⟩
 ·simp only [Value.slice.injEq] at h
  rw [h']
  exact ⟨h.2.1, by omega⟩
 ·simp only [Value.slice.injEq] at h
  exact ⟨h.2.1, by omega⟩
theorem run_copyOwn {P : Program} {T tb : TypeId} {w : World} {base : Nat} {e : TypeId} {g n cap : Nat} {xs ys : List Int} {sv : Value} (ty : TypeId) (hu : P.underlying T = some (.slice tb)) (hsz : (P.info? tb).map (·.size) = some 1)
  (hown : Own base e .u8 w (.slice (some ⟨g, 0, none⟩) n cap) xs) (hn : n = xs.length) (o : Nat) (ho : o + ys.length ≤ n) (hs : Rd .u8 w sv ys) :
  (Builtin.copy_ #[T, T] ty #[.slice (behind g cap o) (n - o) (cap - o), sv]).run P w = .ok (goInt ys.length) (w.setCells g o (vals .u8 ys)) := by
 have hcap : n ≤ cap := by
  rcases hown.form with ⟨h, _⟩ | ⟨g', cap', h, _, _, hc, _⟩
  ·cases h
  ·cases h; omega
 rcases hs.2 with ⟨rfl, a, c, rfl, _⟩ | ⟨b, off, c, rfl, _, hc⟩
 ·have h := run_copy_none (P := P) w T T ty tb (behind g cap o) a (n - o) (cap - o) 0 c hu hsz (by simp)
  rw [h]
  rfl
 ·by_cases h0 : ys.length = 0
  ·obtain rfl : ys = [] := List.length_eq_zero_iff.1 h0
   have h := run_copy_none (P := P) w T T ty tb (behind g cap o) (some ⟨b, off, none⟩) (n - o) (cap - o) 0 c hu hsz (by simp)
   simp only [List.length_nil] at h ⊢
   rw [h]
   rfl
  ·have e : behind g cap o = some ⟨g, o, none⟩ := if_neg (by omega)
   rw [e]
   have h := run_copy_cells (P := P) w T T ty tb g o (n - o) (cap - o) ⟨b, off, none⟩ ys.length c (vals .u8 ys) hu hsz (by rw [vals_length]; exact (Nat.min_eq_left (by omega)).symm) (news_of hc) (fun j hj => by rw [vals_length] at hj; rw [hown.cell hn (o + j) (by omega)]; rfl) (fun j _ => hown.frozen hn _) vals_one
   rw [vals_length] at h
   exact h
theorem layI_right (A B d : List Int) (o : Nat) : layI (A ++ B) (A.length + o) d = A ++ layI B o d := by
 unfold layI
 rw [List.take_append, List.take_of_length_le (by omega), Nat.add_sub_cancel_left, List.append_assoc, List.drop_append, List.drop_of_length_le (by omega), List.nil_append, show A.length + o + d.length - A.length = o + d.length from by omega]
theorem layI_left (A B d : List Int) (o : Nat) (h : o + d.length ≤ A.length) : layI (A ++ B) o d = layI A o d ++ B := by
 unfold layI
 rw [List.take_append_of_le_length (by omega), List.drop_append_of_le_length (by omega), List.append_assoc, List.append_assoc]
theorem layI_all (A d : List Int) (h : d.length = A.length) : layI A 0 d = d := by
 unfold layI
 simp [h]
theorem layI_drop (A d : List Int) (o m : Nat) (h : m ≤ o) (hl : o + d.length ≤ A.length) : (layI A o d).drop m = layI (A.drop m) (o - m) d := by
 unfold layI
 rw [List.drop_append_of_le_length (by rw [List.length_take]; omega), List.drop_take, List.drop_drop]
 congr 3
 omega
theorem encB_eq (sum : List Int) (lsn num bot : Int) (sl raw : List Int) (h1 : sum.length = 4) (h2 : sl.length = 64) : encB sum lsn num bot sl raw = headB sum lsn num bot ++ (slotB sl ++ raw.drop 148) := by
 unfold encB cont
 rw [List.length_append, headB_length _ _ _ _ h1, slotB_length, h2, List.append_assoc]
theorem encB_body {sum : List Int} {lsn num bot : Int} {sl raw : List Int} (h1 : sum.length = 4) (h2 : sl.length = 64) (h3 : raw.length = 4096) (b : Nat) (d : List Int) (hb : 148 ≤ b) (hd : b + d.length ≤ 4096) :
  layI (encB sum lsn num bot sl raw) b d = encB sum lsn num bot sl (layI raw b d) := by
 rw [encB_eq _ _ _ _ _ _ h1 h2, encB_eq _ _ _ _ _ _ h1 h2, layI_drop raw d b 148 hb (by omega)]
 have e1 : b = (headB sum lsn num bot).length + ((slotB sl).length + (b - 148)) := by rw [headB_length _ _ _ _ h1, slotB_length, h2]; omega
 conv => lhs; rw [e1]
 rw [layI_right, layI_right]
theorem slotB_append (a b : List Int) : slotB (a ++ b) = slotB a ++ slotB b := by simp [slotB]
theorem slotB_set (sl : List Int) (j : Nat) (x : Int) (h : j < sl.length) : layI (slotB sl) (2 * j) (lows x 2) = slotB (sl.set j x) := by
 have e : sl = sl.take j ++ (sl[j] :: sl.drop (j + 1)) := by rw [← List.drop_eq_getElem_cons h, List.take_append_drop]
 have e2 : sl.set j x = sl.take j ++ (x :: sl.drop (j + 1)) := List.set_eq_take_append_cons_drop.trans (if_pos h)
 rw [e2]
 conv => lhs; rw [e]
 rw [slotB_append, slotB_append]
 have hl : (slotB (sl.take j)).length = 2 * j := by rw [slotB_length, List.length_take]; omega
 rw [← hl, ← Nat.add_zero (slotB (sl.take j)).length, layI_right]
 rfl
theorem encB_slot {sum : List Int} {lsn num bot : Int} {sl raw : List Int} (h1 : sum.length = 4) (h2 : sl.length = 64) (j : Nat) (x : Int) (hj : j < 64) :
  layI (encB sum lsn num bot sl raw) (20 + 2 * j) (lows x 2) = encB sum lsn num bot (sl.set j x) raw := by
 rw [encB_eq _ _ _ _ _ _ h1 h2, encB_eq _ _ _ _ _ _ h1 (by rw [List.length_set]; exact h2)]
 have e1 : 20 + 2 * j = (headB sum lsn num bot).length + 2 * j := by rw [headB_length _ _ _ _ h1]
 rw [e1, layI_right, layI_left _ _ _ _ (by rw [slotB_length, lows_length, h2]; omega), slotB_set _ _ _ (by omega)]
theorem encB_bot {sum : List Int} {lsn num bot : Int} {sl raw : List Int} (h1 : sum.length = 4) (h2 : sl.length = 64) (x : Int) :
  layI (encB sum lsn num bot sl raw) 16 (lows x 2) = encB sum lsn num x sl raw := by
 rw [encB_eq _ _ _ _ _ _ h1 h2, encB_eq _ _ _ _ _ _ h1 h2]
 rw [layI_left _ _ _ _ (by rw [headB_length _ _ _ _ h1]; simp [lows_length])]
 congr 1
 unfold headB
 rw [layI_left _ _ _ _ (by simp [lows_length, h1])]
 congr 1
 have e : 16 = (sum ++ lows lsn 8 ++ lows num 4).length + 0 := by simp [lows_length, h1]
 conv => lhs; rw [e]
 rw [layI_right, layI_all _ _ (by simp [lows_length])]
theorem own_enc {raw : List Int} (h : ownOK raw = true) : encB (raw.take 4) (numAt raw 4 8) (numAt raw 12 4) (numAt raw 16 2) (slotsOf raw) raw = raw ∧ isLSN (numAt raw 4 8) = true := by
 have hl := ownOK_len h
 unfold ownOK pageFault faultP at h
 simp only [hl, ne_eq, not_true_eq_false, if_false] at h
 simp only [beq_self_eq_true, Bool.true_and] at h
 by_cases h2 : headBad (raw.take 4) (numAt raw 4 8) (numAt raw 12 4) (numAt raw 16 2) (slotsOf raw) raw = true
 ·simp [h2] at h
 unfold headBad at h2
 simp at h2
 exact ⟨h2.2, h2.1⟩
theorem Rd.cut {w : World} {b off c : Nat} {raw : List Int} (h : Rd .u8 w (.slice (some ⟨b, off, none⟩) raw.length c) raw) (x y : Nat) (hxy : x + y ≤ raw.length) :
  Rd .u8 w (.slice (some (if c = x then ⟨b, off, none⟩ else ⟨b, off + x, none⟩)) y (c - x)) ((raw.drop x).take y) := by
 have hl : ((raw.drop x).take y).length = y := by simp; omega
 rcases h.2 with ⟨rfl, _⟩ | ⟨b', off', c', he, hle, hc⟩
 ·simp at hxy
  obtain ⟨rfl, rfl⟩ := hxy
  exact ⟨by simp, .inl ⟨by simp, _, _, rfl, fun h => by cases h⟩⟩
 ·injection he with h1 h2 h3
  injection h1 with h1
  injection h1 with h1 h4
  subst h1 h4 h3
  by_cases h0 : y = 0
  ·subst h0
   exact ⟨by rw [hl]; simp, .inl ⟨by simp, _, _, rfl, fun h => by cases h⟩⟩
  ·rw [if_neg (by omega)]
   refine ⟨by have := h.1; omega, .inr ⟨b, off + x, c - x, by rw [hl], by omega, fun i hi => ?_⟩⟩
   rw [hl] at hi
   rw [Nat.add_assoc, hc (x + i) (by omega)]
   simp [List.getD, List.getElem?_take, List.getElem?_drop, hi]
theorem Rd.part {k : IntKind} {w : World} {b off n c : Nat} {bs : List Int} (h : ∀ i, i < bs.length → w.cell? ⟨b, off + i, none⟩ = some (.int k (bs.getD i 0))) (lo m : Nat) (hm : lo + m ≤ bs.length) (hn : n = m) (hc : m ≤ c) (hmax : m ≤ maxLen) :
  Rd k w (.slice (some ⟨b, off + lo, none⟩) n c) ((bs.drop lo).take m) := by
 have hl : ((bs.drop lo).take m).length = m := by simp; omega
 refine ⟨by omega, .inr ⟨b, off + lo, c, by rw [hn, hl], by rw [hl]; exact hc, fun i hi => ?_⟩⟩
 rw [hl] at hi
 have h1 := h (lo + i) (by omega)
 rw [← Nat.add_assoc] at h1
 rw [h1]
 simp [List.getD, hi]
theorem zeroPR_own (w : World) : OwnL w (StPageRecord.rows ⟨false, ⟨0, none, 0, []⟩⟩) := OwnL.one (Own.nil 0 0 .u8 w)
theorem zeroPR_foot (b : Nat) : ¬ FootL (StPageRecord.rows ⟨false, ⟨0, none, 0, []⟩⟩) b := fun h => by have := (footL_ints _ _ _ _ _).1 h; simp [BS.v, Value.ownBlock] at this
theorem wellFormed_yes (v : Value) (raw : List Int) (w : World) (hB : IsB raw) (hn : raw.length ≤ 1099511627776) (hv : Rd .u8 w v raw) (hok : ownOK raw = true) :
  Calls Try.prog 37 #[v] w fun e w' => ∃ P, e = .returned (.pointer (some ⟨P, 0, none⟩)) ∧ w.heap.size ≤ P ∧ SP w' P (raw.take 4) (numAt raw 4 8) (numAt raw 12 4) (numAt raw 16 2) (slotsOf raw) raw ∧ Same w w' := by
 refine (wellFormed_any v raw w hB hn hv).mono ?_
 rintro e w1 ⟨hk, ⟨_, P, rfl, hP, hsp⟩ | ⟨hno, rfl⟩⟩
 ·exact ⟨P, rfl, hP, hsp, hk⟩
 ·rw [hok] at hno; cases hno
theorem wellFormed_no (v : Value) (raw : List Int) (w : World) (hB : IsB raw) (hn : raw.length ≤ 1099511627776) (hv : Rd .u8 w v raw) (hok : ownOK raw = false) :
  Calls Try.prog 37 #[v] w fun e w' => e = .returned (.pointer none) ∧ Same w w' := by
 refine (wellFormed_any v raw w hB hn hv).mono ?_
 rintro e w1 ⟨hk, ⟨hyes, P, rfl, hP, hsp⟩ | ⟨hno, rfl⟩⟩
 ·rw [hok] at hyes; cases hyes
 ·exact ⟨rfl, hk⟩
theorem specPageGet_any (v : Value) (raw : List Int) (s : Int) (w : World) (hB : IsB raw) (hn : raw.length ≤ 1099511627776) (hv : Rd .u8 w v raw) :
  Calls Try.prog 59 #[v, .int .i64 s] w fun e w' => ∃ y : StPageRecord, e = .returned y.val ∧ y.dat = pageGet raw s ∧ (∀ b, FootL y.rows b → w.heap.size ≤ b) ∧ OwnL w' y.rows ∧ Same w w' := by
 have b0 := Blk.new w #[.bool false, .slice none 0 0] 24
 have hr0 := hv.same ((Kept.refl _ w).alloc (.cells #[.bool false, .slice none 0 0] 24))
 have h := l3Own_any v raw _ hB hn hr0
 by_cases hno : ownOK raw = false ∨ s < 0 ∨ 32 ≤ s
 ·rw [pageGet_no (hno.elim .inl (fun h => h.elim (fun h => .inr (.inl h)) (fun h => .inr (.inr (.inl h)))))]
  have hz : ∀ w1, Same (w.alloc (.cells #[.bool false, .slice none 0 0] 24)) w1 → w1.cell? ⟨w.heap.size, 0, none⟩ = some (.bool false) ∧ w1.cell? ⟨w.heap.size, 1, none⟩ = some (.slice none 0 0) ∧ w1.frozen? ⟨w.heap.size, 0, none⟩ = false ∧ w1.frozen? ⟨w.heap.size, 1, none⟩ = false := fun w1 hk => ⟨(b0.same hk).cell 0, (b0.same hk).cell 1, (b0.same hk).frozen 0, (b0.same hk).frozen 1⟩
  have hz2 : ∀ w1, Same (w.alloc (.cells #[.bool false, .slice none 0 0] 24)) w1 → Same w ((w1.setCell ⟨w.heap.size, 0, none⟩ (.bool false)).setCell ⟨w.heap.size, 1, none⟩ (.slice none 0 0)) := fun w1 hk => ((((Kept.refl _ w).alloc _).trans hk).setCell (p := ⟨w.heap.size, 0, none⟩) (.inl (Nat.le_refl _)) (.bool false)).setCell (p := ⟨w.heap.size, 1, none⟩) (.inl (Nat.le_refl _)) (.slice none 0 0)
  clear b0 hr0 hv hB
  cases hok : ownOK raw with
  | false =>
   rw [hok] at h
   go_enter Try.func59, Try.ntmps59
   go_wp2_with (go_at_call 54; refine h.mono ?_; rintro e w1 ⟨rfl, hk⟩; obtain ⟨c0, c1, f0, f1⟩ := hz w1 hk)
   refine bodyPost_ret (v := .agg #[.bool false, .slice none 0 0]) (by simp [results, Try.results59, go_sem, c0, c1]) rfl ⟨⟨false, ⟨0, none, 0, []⟩⟩, rfl, rfl, fun b hb => absurd hb (zeroPR_foot b), zeroPR_own _, hz2 w1 hk⟩
  | true =>
   rw [hok] at h
   by_cases h1 : s < 0
   ·go_enter Try.func59, Try.ntmps59
    go_wp2_with (go_at_call 54; refine h.mono ?_; rintro e w1 ⟨rfl, hk⟩; obtain ⟨c0, c1, f0, f1⟩ := hz w1 hk)
    refine bodyPost_ret (v := .agg #[.bool false, .slice none 0 0]) (by simp [results, Try.results59, go_sem, c0, c1]) rfl ⟨⟨false, ⟨0, none, 0, []⟩⟩, rfl, rfl, fun b hb => absurd hb (zeroPR_foot b), zeroPR_own _, hz2 w1 hk⟩
   ·have h2 : 32 ≤ s := hno.elim (fun h => by rw [hok] at h; cases h) (fun h => by omega)
    go_enter Try.func59, Try.ntmps59
    go_wp2_with (go_at_call 54; refine h.mono ?_; rintro e w1 ⟨rfl, hk⟩; obtain ⟨c0, c1, f0, f1⟩ := hz w1 hk)
    refine bodyPost_ret (v := .agg #[.bool false, .slice none 0 0]) (by simp [results, Try.results59, go_sem, c0, c1]) rfl ⟨⟨false, ⟨0, none, 0, []⟩⟩, rfl, rfl, fun b hb => absurd hb (zeroPR_foot b), zeroPR_own _, hz2 w1 hk⟩
 ·have hok : ownOK raw = true := by cases h : ownOK raw with | true => rfl | false => exact absurd (.inl h) hno
  obtain ⟨k, rfl⟩ : ∃ k : Nat, s = k := ⟨s.toNat, by omega⟩
  have hk32 : k < 32 := by omega
  have hl := ownOK_len hok
  obtain ⟨a, c, rfl⟩ := hv.form
  obtain ⟨b, off, rfl, hc⟩ := rd_some hv (by omega)
  rw [hok] at h
  have hsl64 := slotsOf_length raw
  have hS := fun wx (h : Same w wx) => l3Slots_any b off c raw wx hB hl (by rw [← hl]; exact hv.same h)
  have hsl := ownOK_slot hok k hk32
  have hsm := slotsOf_small raw hB hl
  have hx := hsm.at (2 * k)
  have hy := hsm.at (2 * k + 1)
  rw [hl] at h ⊢
  have hc4 : 4096 ≤ c := by
   rcases hv.2 with ⟨h, _⟩ | ⟨_, _, _, he, hle, _⟩
   ·rw [h] at hl; cases hl
   ·injection he with _ _ h3; omega
  have hneg : ¬ (k : Int) < 0 := by omega
  have hge : ¬ (32 : Int) ≤ k := by omega
  obtain ⟨x, hxe⟩ : ∃ x : Nat, (slotsOf raw).getD (2 * k) 0 = x := ⟨((slotsOf raw).getD (2 * k) 0).toNat, by omega⟩
  obtain ⟨y, hye⟩ : ∃ y : Nat, (slotsOf raw).getD (2 * k + 1) 0 = y := ⟨((slotsOf raw).getD (2 * k + 1) 0).toNat, by omega⟩
  have HQ := (show Hid (∀ (wx : World) g, Rows2 wx g (slotsOf raw) → wx.cell? ⟨g, k * 2, none⟩ = some (.int .i64 x) ∧ wx.cell? ⟨g, k * 2 + 1, none⟩ = some (.int .i64 y)) from fun wx g h => ⟨by rw [h.at0 k hk32, hxe], by rw [h.at1 k hk32, hye]⟩)
  by_cases h0 : (slotsOf raw).getD (2 * k) 0 = 0
  ·rw [pageGet_no (raw := raw) (s := k) (.inr (.inr (.inr h0)))]
   have hx0 : (x : Int) = 0 := by omega
   clear hv hB hr0 hxe hye hx hy hsl h0
   go_enter Try.func59, Try.ntmps59
   go_wp2_with (first
    | (go_at_call 54; refine h.mono ?_; rintro e w1 ⟨rfl, hk⟩; have b1 := b0.same hk; have hS' := hS w1 (((Kept.refl _ _).alloc _).trans hk))
    | (go_at_call 42; refine hS'.mono ?_; rintro e w2 ⟨g, cap, rfl, hg, hown, hk2⟩; have b2 := b1.same hk2; obtain ⟨q0, q1⟩ := HQ.out w2 g (rows2_of hown hsl64); have c0 : w2.cell? ⟨w.heap.size, 0, none⟩ = some (.bool false) := b2.cell 0; have c1 : w2.cell? ⟨w.heap.size, 1, none⟩ = some (.slice none 0 0) := b2.cell 1; have f0 := b2.frozen 0; have f1 := b2.frozen 1; have hlt := b2.lt; clear hown))
   have hk4 := (((((Kept.refl (fun _ => False) w).alloc _).trans hk).trans hk2).setCell (p := ⟨w.heap.size, 0, none⟩) (.inl (Nat.le_refl _)) (.bool false)).setCell (p := ⟨w.heap.size, 1, none⟩) (.inl (Nat.le_refl _)) (.slice none 0 0)
   have hk5 := hk4.alloc (.cells #[.int .i64 0, .int .i64 (y : Int)] 62)
   have bz := ((b2.stored 0 (.bool false)).stored 1 (.slice none 0 0)).alloc (.cells #[.int .i64 0, .int .i64 (y : Int)] 62)
   have d0 := bz.cell 0
   have d1 := bz.cell 1
   simp only [List.set_cons_zero, List.set_cons_succ, List.getElem?_cons_zero, List.getElem?_cons_succ] at d0 d1
   refine bodyPost_ret (v := .agg #[.bool false, .slice none 0 0]) (by simp [results, Try.results59, go_sem, d0, d1]) rfl ⟨⟨false, ⟨0, none, 0, []⟩⟩, rfl, rfl, fun b hb => absurd hb (zeroPR_foot b), zeroPR_own _, hk5⟩
  ·rw [pageGet_yes hok hk32 h0]
   have hxy : x + y ≤ 4096 := by omega
   have hx0 : ¬ (x : Int) = 0 := by omega
   rw [hxe, hye]
   have hst : stretch raw x y = (raw.drop x).take y := rfl
   rw [hst]
   have hrd0 := Rd.cut hv x y (by omega)
   have hlen : ((raw.drop x).take y).length ≤ 1099511627776 := by simp; omega
   obtain ⟨bs, hbs⟩ : ∃ bs, (raw.drop x).take y = bs := ⟨_, rfl⟩
   rw [hbs] at hrd0 hlen ⊢
   obtain ⟨A, hA⟩ : ∃ A : Addr, (if c = x then ⟨b, off, none⟩ else ⟨b, off + x, none⟩) = A := ⟨_, rfl⟩
   rw [hA] at hrd0
   have hrun : ∀ wx : World, (Instr.slice 22 (.slice (some ⟨b, off, none⟩) 4096 c) (some (.int .i64 (x : Int))) (some (.int .i64 ((x : Int) + (y : Int)))) none).run Try.prog wx = .ok (.slice (some A) y (c - x)) wx := by
    intro wx
    rw [run_slice_lh wx 22 (some ⟨b, off, none⟩) 4096 c (by kernel_rfl) .i64 .i64 x (x + y) (by omega) (by omega) (by omega)]
    have hsz : (sizeOf (Try.prog.elem 22)).run Try.prog wx = .ok 1 wx := by kernel_rfl
    rw [hsz]
    simp only [Result.andThen, sliced, Int.toNat_natCast, Nat.mul_one]
    rw [show ((x : Int) + (y : Int)).toNat - x = y from by omega, ← hA]
    split
    ·rfl
    ·simp [addr_add]
   have HRD := (show Hid (Rd .u8 w (.slice (some A) y (c - x)) bs) from hrd0)
   clear hv hB hr0 hxe hye hx hy hsl h0 hbs hst hA hrd0
   go_enter Try.func59, Try.ntmps59
   go_wp2_with (first
    | (go_at_call 54; refine h.mono ?_; rintro e w1 ⟨rfl, hk⟩; have b1 := b0.same hk; have hS' := hS w1 (((Kept.refl _ _).alloc _).trans hk))
    | (go_at_call 42; refine hS'.mono ?_; rintro e w2 ⟨g, cap, rfl, hg, hown, hk2⟩; have b2 := b1.same hk2; obtain ⟨q0, q1⟩ := HQ.out w2 g (rows2_of hown hsl64); have hlt := b2.lt; have hkw2 := (((Kept.refl (fun _ => False) w).alloc _).trans hk).trans hk2; clear hown)
    | (go_at_call 56; refine (l1Copy_any _ bs _ hlen (HRD.out.same (hkw2.alloc _))).mono ?_; rintro e w5 ⟨a5, n5, c5, rfl, hown, hfr, hk5⟩; have b5 := (b2.alloc _).same hk5; have c0 : w5.cell? ⟨w.heap.size, 0, none⟩ = some (.bool false) := b5.cell 0; have c1 : w5.cell? ⟨w.heap.size, 1, none⟩ = some (.slice none 0 0) := b5.cell 1; have f0 := b5.frozen 0; have f1 := b5.frozen 1))
   obtain rfl : n5 = bs.length := by obtain ⟨_, _, he⟩ := hown.rd.form; injection he
   have hb5 := b5.lt
   have hkz := (((hkw2.alloc _).trans hk5).setCell (p := ⟨w.heap.size, 0, none⟩) (.inl (Nat.le_refl _)) (.bool true)).setCell (p := ⟨w.heap.size, 1, none⟩) (.inl (Nat.le_refl _)) (.slice a5 bs.length c5)
   have hko : Kept (fun b => b = w.heap.size) w5 ((w5.setCell ⟨w.heap.size, 0, none⟩ (.bool true)).setCell ⟨w.heap.size, 1, none⟩ (.slice a5 bs.length c5)) := ((Kept.refl (fun b => b = w.heap.size) w5).setCell (p := ⟨w.heap.size, 0, none⟩) (.inr rfl) _).setCell (p := ⟨w.heap.size, 1, none⟩) (.inr rfl) _
   simp only [World.size_alloc] at hfr
   refine bodyPost_ret (v := .agg #[.bool true, .slice a5 bs.length c5]) (by simp [results, Try.results59, go_sem, c0, c1]) rfl ⟨⟨true, ⟨5, a5, c5, bs⟩⟩, rfl, rfl, fun b hb => ?_, OwnL.one (hown.kept hko (fun b hb e => ?_)), hkz⟩
   ·have := hfr b ((footL_ints _ _ _ _ _).1 hb); omega
   ·have := hfr b hb; omega
theorem byte_one : (Try.prog.info? 5).map (·.size) = some 1 := by kernel_rfl
theorem SP.setRaw {w : World} {B : Nat} {sum : List Int} {lsn num bot : Int} {sl raw : List Int} (h : SP w B sum lsn num bot sl raw) (r2 : List Int) (hr : r2.length = 4096) : SP (w.setCells B 71 (vals .u8 r2)) B sum lsn num bot sl r2 := by
 refine ⟨?_, h.l1, h.l2, hr⟩
 have hs := Blk.setCells (vals .u8 r2) 71 h.blk (by rw [spCells_length h.l1 h.l2 h.l3, vals_length, hr]; omega)
 have e : ∀ r : List Int, spCells sum lsn num bot sl r = (vals .u8 sum ++ (.int .i64 lsn :: .int .i64 num :: .int .i64 bot :: vals .i64 sl)) ++ (vals .u8 r ++ []) := fun r => by simp [spCells]
 have hA : (vals .u8 sum ++ (.int .i64 lsn :: .int .i64 num :: .int .i64 bot :: vals .i64 sl)).length = 71 := by simp [vals, h.l1, h.l2]
 have hl : lay (spCells sum lsn num bot sl raw) 71 (vals .u8 r2) = spCells sum lsn num bot sl r2 := by
  have hm := lay_mid (vals .u8 sum ++ (.int .i64 lsn :: .int .i64 num :: .int .i64 bot :: vals .i64 sl)) (vals .u8 raw) [] (vals .u8 r2) (by rw [vals_length, vals_length, hr, h.l3])
  rw [hA] at hm
  rw [e raw, e r2]
  exact hm
 rw [hl] at hs
 exact hs
theorem SP.setBot {w : World} {B : Nat} {sum : List Int} {lsn num bot : Int} {sl raw : List Int} (h : SP w B sum lsn num bot sl raw) (x : Int) : SP (w.setCell ⟨B, 6, none⟩ (.int .i64 x)) B sum lsn num x sl raw := by
 refine ⟨?_, h.l1, h.l2, h.l3⟩
 have hs := h.blk.stored 6 (.int .i64 x)
 have e : (spCells sum lsn num bot sl raw).set 6 (.int .i64 x) = spCells sum lsn num x sl raw := by
  unfold spCells
  have h4 : (vals .u8 sum).length = 4 := by rw [vals_length, h.l1]
  rw [List.set_append_right (h := by omega), h4]
  rfl
 rw [e] at hs
 exact hs
theorem compact_any (P : Nat) (sum : List Int) (lsn num bot : Int) (sl raw : List Int) (w : World) (hp : SP w P sum lsn num bot sl raw) (hok : SlOK sl) :
  Calls Try.prog 43 #[.pointer (some ⟨P, 0, none⟩)] w fun e w' => e = .returned (.tuple #[]) ∧ SP w' P sum lsn num (cBot sl 32) (cSl sl 32) (cBody raw sl 32) ∧ Kept (fun b => b = P) w w' := by
 have HP := hid hp
 have HOK := hid hok
 have hPl := hp.blk.lt
 have HIs := (show Hid ((Try.prog.info? 69).map (·.size) = some (vals .i64 sl).length) from (by rw [vals_length, hp.l2]; exact (by kernel_rfl : (Try.prog.info? 69).map (·.size) = some 64) : (Try.prog.info? 69).map (·.size) = some (vals .i64 sl).length))
 obtain ⟨ss, hss⟩ : ∃ ss : List Value, vals .i64 sl = ss := ⟨_, rfl⟩
 have HSS := hid hss
 have hz8 : Try.zeroCells55.toList = vals .u8 (List.replicate 4096 0) := by kernel_rfl
 obtain ⟨w1, hw1⟩ : ∃ x, w.alloc (.cells Try.zeroCells55 55) = x := ⟨_, rfl⟩
 have HM1 := (show Hid (Blk w1 w.heap.size 55 (vals .u8 (cBody raw sl 0))) from by
  rw [← hw1]
  have h := Blk.new w Try.zeroCells55 55
  rw [hz8] at h
  exact h)
 have HK1 := (show Hid (Same w w1) from by rw [← hw1]; exact (Kept.refl _ _).alloc _)
 have HP1 := hid (HP.out.same HK1.out)
 have HRs := (show Hid ((w.alloc (.cells Try.zeroCells55 55)).rangeAt P 7 ss) from by rw [← hss, hw1]; exact HP1.out.slRange)
 have HW1 := hid hw1
 rw [hss] at HIs
 clear hss hp hok hw1 hz8
 go_enter Try.func43, Try.ntmps43
 go_wp2_with (refine wpList_load_mid rfl 69 _ rfl P 7 rfl ss _ HRs.out Try.underlying69 rfl HIs.out ?_)
 rw [HW1.out]
 clear HW1 HRs
 go_loopw [3, 10] (fun b i wr => ∃ (k : Nat), k ≤ 32 ∧ b = .int .i64 (cBot sl k) ∧ i = .int .i64 (k : Int) ∧ Hid (SP wr P sum lsn num bot (cSl sl k) raw) ∧ Hid (Blk wr w.heap.size 55 (vals .u8 (cBody raw sl k))) ∧ Hid (Kept (fun b => b = P) w wr)) (fun _ i _ => 32 - (intOf i).toNat)
 case atStart => exact ⟨0, Nat.zero_le _, rfl, rfl, HP1, HM1, HK1.out.mono (fun _ _ e => e.elim)⟩
 case round =>
  obtain ⟨k, hk, rfl, rfl, HS, HM, HK⟩ := hrel
  clear HP1 HM1 HK1
  by_cases hlt : k < 32
  case pos =>
   have hk2 : (k : Int) < 32 := by omega
   have hix := fun w => slot_at sl HP.out.l2 k hlt w
   rw [HSS.out] at hix
   have h1 := HOK.out.one k hlt
   have hb0 := HOK.out.bot k hk
   have hb1 := HOK.out.bot (k + 1) (by omega)
   have hbs := cBot_succ sl k
   obtain ⟨xn, hxn⟩ : ∃ n : Nat, sl.getD (2 * k) 0 = (n : Int) := ⟨(sl.getD (2 * k) 0).toNat, by omega⟩
   obtain ⟨yn, hyn⟩ : ∃ n : Nat, sl.getD (2 * k + 1) 0 = (n : Int) := ⟨(sl.getD (2 * k + 1) 0).toNat, by omega⟩
   have HCS := (show Hid (cSl sl (k + 1) = if sl.getD (2 * k) 0 = 0 then cSl sl k else (cSl sl k).set (2 * k) (cBot sl (k + 1))) from rfl)
   have HCB := (show Hid (cBody raw sl (k + 1) = if sl.getD (2 * k) 0 = 0 then cBody raw sl k else layI (cBody raw sl k) (cBot sl (k + 1)).toNat (stretch raw (sl.getD (2 * k) 0) (sl.getD (2 * k + 1) 0))) from rfl)
   rw [hxn] at HCS
   rw [hxn, hyn] at HCB hix h1
   rw [hyn] at hbs
   have kU := fun wx => used_any (xn : Int) (yn : Int) wx
   have hzr := HK.out.size
   by_cases hx0 : xn = 0
   ·have hx0i : (xn : Int) = 0 := by omega
    rw [if_pos hx0i] at HCS HCB
    rw [hx0i] at kU hix
    rw [show ((0 : Int) != 0) = false from rfl] at kU
    have HBT := hid (show cBot sl (k + 1) = cBot sl k from by omega)
    clear hx0 hx0i h1 hbs hxn hyn
    go_wp2_with (go_at_call 46; (with_reducible refine (kU _).mono ?_); rintro e w3 ⟨rfl, hk3⟩; have HK3 : Hid (Same wr w3) := ((Kept.refl _ _).alloc _).trans hk3; clear hk3)
    go_roundw
    case rel => exact ⟨k + 1, by omega, by rw [HBT.out], by go_num, by rw [HCS.out]; exact HS.out.same HK3.out, by rw [HCB.out]; exact HM.out.same HK3.out, HK.out.next HK3.out (fun i hi e => e.elim)⟩
    case measure => simp [intOf]; omega
   have hxi : ¬ (xn : Int) = 0 := by omega
   rw [if_neg hxi] at HCS HCB
   have hx2 : ((xn : Int) != 0) = true := by simp; omega
   rw [hx2] at kU
   obtain ⟨bn, hbn⟩ : ∃ n : Nat, cBot sl (k + 1) = (n : Int) := ⟨(cBot sl (k + 1)).toNat, by omega⟩
   have HBN := hid hbn
   rw [hbn] at HCS HCB hbs hb1
   rw [Int.toNat_natCast] at HCB
   have hxy : xn + yn ≤ 4096 := by omega
   have hbn2 : bn + yn ≤ 4096 := by omega
   have HSTR := (show Hid (stretch raw (xn : Int) (yn : Int) = (raw.drop xn).take yn) from by unfold Hid stretch; simp)
   rw [HSTR.out] at HCB
   have hstl : ((raw.drop xn).take yn).length = yn := by rw [List.length_take, List.length_drop, HP.out.l3]; omega
   have HST := hid hstl
   have kR := fun wx (h : SP wx P sum lsn num bot (cSl sl k) raw) => record_any P sum lsn num bot (cSl sl k) raw xn yn wx h hxy
   have HBL := hid (HOK.out.body raw HP.out.l3 k hk)
   obtain ⟨cb, hcb0⟩ : ∃ x, cBot sl k = x := ⟨_, rfl⟩
   rw [hcb0] at hbs hb0 ⊢
   have q1 : IntKind.i64.wrap (cb - (yn : Int)) = (bn : Int) := by rw [IntKind.wrap_i64]; omega
   have g2 : (bn : Int) ≤ 4096 := by omega
   obtain ⟨ab, hab⟩ : ∃ ab : Option Addr, some (if 4096 = bn then (⟨w.heap.size, 0, none⟩ : Addr) else ⟨w.heap.size, bn, none⟩) = ab := ⟨_, rfl⟩
   have HAB := (show Hid (behind w.heap.size 4096 bn = ab) from by rw [← hab]; unfold behind Hid; split <;> rfl)
   clear h1 hbs hxn hyn hstl hb0 hcb0 hbn hx0 HSTR
   go_wp2_with fail
   refine (kU _).mono ?_
   rintro e w3 ⟨rfl, hk3⟩
   have HB3 := hid ((Blk.newL wr [.int .i64 (xn : Int), .int .i64 (yn : Int)] 67).same hk3)
   have HK3 : Hid (Same wr w3) := ((Kept.refl _ _).alloc _).trans hk3
   obtain ⟨BS, hBS⟩ : ∃ b, wr.heap.size = b := ⟨_, rfl⟩
   rw [hBS] at HB3 ⊢
   have HBS : Hid (w.heap.size < BS ∧ P < BS) := by have h1 := HM.out.lt; have h2 := HS.out.blk.lt; unfold Hid; omega
   obtain ⟨d0, d1⟩ := HB3.out.all2
   have HS3 := hid (HS.out.same HK3.out)
   have HM3 := hid (HM.out.same HK3.out)
   clear hk3 kU hBS
   go_wp2_with fail
   let Y1 : World → Prop := fun wx : World => wx.cell? ⟨BS, 0, none⟩ = some (.int .i64 (xn : Int)) ∧ wx.cell? ⟨BS, 1, none⟩ = some (.int .i64 (yn : Int))
   have hS : Y1 w3.drew := ⟨d0, d1⟩
   refine wp_region_V Y1 99 6 rfl (by kernel_rfl) ?_
   refine tk 0 21 hS ?_
   refine tkV 1 22 (.slice ab (4096 - bn) (4096 - bn)) hS ?_
   refine tk 2 23 hS ?_
   refine tk 3 24 hS ?_
   refine wpAnyV_one (i := 4) (by kernel_rfl) rfl (fun K hK => ?_)
   go_simp
   refine (kR _ (HS3.out.same (Kept.refl _ _).drew)).mono ?_
   rintro e w4 ⟨a4, c4, rfl, hr4, hk4⟩
   have HK4 : Hid (Same w3 w4) := (Kept.refl _ _).drew.trans hk4
   have HS4 := hid (HS3.out.same HK4.out)
   have HM4 := hid (HM3.out.same HK4.out)
   have hcp := run_copyOwn (P := Try.prog) 3 Try.underlying22 byte_one (xs := cBody raw sl k) (n := 4096) (cap := 4096) (by have h := Blk.own HM4.out (by rw [HBL.out]; unfold maxLen; omega); rw [HBL.out] at h; exact h) HBL.out.symm bn (by rw [HST.out]; omega) (by have h := hr4; exact h)
   rw [HAB.out, HST.out] at hcp
   have hS : Y1 w4 := ⟨HK4.out.cellOf d0 id, HK4.out.cellOf d1 id⟩
   refine hK.out _ _ (fun _ => hS) ?_
   clear hK K hk4 hr4
   try simp only [Act.put, sA, s0, sS]
   have HB4 := hid (HB3.out.same HK4.out)
   refine wpAnyV_one (i := 5) (by kernel_rfl) rfl (fun K hK => ?_)
   go_simp
   have hk45 : Kept (fun b => b = w.heap.size) w4 (w4.setCells w.heap.size bn (vals .u8 ((raw.drop xn).take yn))) := Kept.setCells (R := fun b => b = w.heap.size) (.inr rfl) _ _ (Kept.refl _ _)
   have HB5 := hid (HB4.out.kept hk45 (by have := HBS.out; omega))
   have HS5 := hid (HS4.out.kept hk45 (by omega))
   have HM5 := (show Hid (Blk (w4.setCells w.heap.size bn (vals .u8 ((raw.drop xn).take yn))) w.heap.size 55 (vals .u8 (layI (cBody raw sl k) bn ((raw.drop xn).take yn)))) from by
    have h := Blk.setCells (vals .u8 ((raw.drop xn).take yn)) bn HM4.out (by rw [vals_length, vals_length, HST.out, HBL.out]; omega)
    rw [lay_layI] at h
    exact h)
   have HK5 := (show Hid (Kept (fun b => b = P) w (w4.setCells w.heap.size bn (vals .u8 ((raw.drop xn).take yn)))) from Kept.setCells (R := fun b => b = P) (.inl (Nat.le_refl _)) _ _ (HK.out.trans ((HK3.out.trans HK4.out).mono (fun _ _ e => e.elim))))
   refine hK.out _ _ (fun _ => ⟨HB5.out.cell 0, HB5.out.cell 1⟩) ?_
   clear hK K hcp hk45
   try simp only [Act.put, sA, s0, sS]
   refine wpAnyV_done (by kernel_rfl) ?_
   rw [← HCB.out] at HM5
   generalize w4.setCells w.heap.size bn (vals .u8 ((raw.drop xn).take yn)) = w5 at HB5 HS5 HM5 HK5 ⊢
   have c0 := HS5.out.slAt (2 * k) (by omega)
   rw [show 7 + 2 * k = 7 + k * 2 from by omega] at c0
   have cf := HS5.out.blk.frozen (7 + k * 2)
   have HS6 := hid (HS5.out.slot (2 * k) (by omega) (bn : Int))
   rw [show 7 + 2 * k = 7 + k * 2 from by omega, ← HCS.out] at HS6
   have hk56 : Kept (fun b => b = P) w5 (w5.setCell ⟨P, 7 + k * 2, none⟩ (.int .i64 (bn : Int))) := Kept.setCell (R := fun b => b = P) (Kept.refl _ _) (p := ⟨P, 7 + k * 2, none⟩) (.inr rfl) _
   have HM6 := hid (HM5.out.kept hk56 (by omega))
   have HK6 := hid (HK5.out.trans hk56)
   generalize (cSl sl k).getD (2 * k) 0 = uo at c0
   clear hk56 d0 d1 hS
   go_wp2
   go_roundw
   case rel => exact ⟨k + 1, by omega, by rw [HBN.out], by go_num, HS6, HM6, HK6⟩
   case measure => simp [intOf]; omega
  obtain rfl : k = 32 := by omega
  have HBL := HOK.out.body raw HP.out.l3 32 hk
  obtain ⟨ds, hds⟩ : ∃ ds : List Value, vals .u8 (cBody raw sl 32) = ds := ⟨_, rfl⟩
  have HDS := hid hds
  have hdl : ds.length = 4096 := by rw [← hds, vals_length, HBL]
  have hone : ∀ v ∈ ds, v.oneCell' = true := by rw [← hds]; exact vals_one
  have HM2 := HM.out
  rw [hds] at HM2
  have HRG := (show Hid (wr.rangeAt w.heap.size 0 ds) from HM2.rangeAll)
  have HTH := (show Hid (wr.there P 71 ds.toArray.size) from HS.out.blk.there 71 _ (by rw [spCells_length HS.out.l1 HS.out.l2 HS.out.l3, List.size_toArray, hdl]; omega))
  have HI := (show Hid ((Try.prog.info? 55).map (·.size) = some ds.length) from (by rw [hdl]; exact (by kernel_rfl : (Try.prog.info? 55).map (·.size) = some 4096) : (Try.prog.info? 55).map (·.size) = some ds.length))
  have HI2 := (show Hid ((Try.prog.info? 55).map (·.size) = some ds.toArray.size) from by rw [List.size_toArray]; exact HI.out)
  have HONE := (show Hid (ds.toArray.all (·.oneCell') = true) from all_oneCell_toArray hone)
  have HS7 := (show Hid (SP (wr.setCells P 71 ds) P sum lsn num bot (cSl sl 32) (cBody raw sl 32)) from by rw [← HDS.out]; exact HS.out.setRaw _ HBL)
  have HK7 := (show Hid (Kept (fun b => b = P) w (wr.setCells P 71 ds)) from Kept.setCells (R := fun b => b = P) (.inr rfl) _ _ HK.out)
  obtain ⟨n0, n1, n2⟩ := HS7.out.num3
  have nf := HS7.out.blk.frozen 6
  have HS8 := hid (HS7.out.setBot (cBot sl 32))
  have HK8 := (show Hid (Kept (fun b => b = P) w ((wr.setCells P 71 ds).setCell ⟨P, 6, none⟩ (.int .i64 (cBot sl 32)))) from Kept.setCell (R := fun b => b = P) HK7.out (p := ⟨P, 6, none⟩) (.inr rfl) _)
  obtain ⟨cb, hcb0⟩ : ∃ x, cBot sl 32 = x := ⟨_, rfl⟩
  rw [hcb0] at HS8 HK8 ⊢
  have HCB0 := hid hcb0
  clear hds hdl hone HM2 HBL hcb0 HDS
  go_wp2_with (first
   | (refine wpList_load_mid rfl 55 _ rfl w.heap.size 0 rfl ds _ HRG.out Try.underlying55 rfl HI.out ?_)
   | (refine wpList_store_mid rfl 55 _ _ rfl P 71 ds.toArray rfl rfl HTH.out HI2.out HONE.out ?_))
  refine bodyPost_end (results_none Try.results43 _ _ _) rfl ?_
  exact ⟨rfl, by rw [HCB0.out]; exact HS8.out, HK8.out⟩
theorem cSl_num {sl : List Int} (h : SlOK sl) (hs : ∀ x ∈ sl, 0 ≤ x ∧ x ≤ 9223372036854775807) : ∀ k, k ≤ 32 → ∀ x ∈ cSl sl k, 0 ≤ x ∧ x ≤ 9223372036854775807
 | 0, _ => hs
 | k + 1, hk => by
  rw [cSl]
  split
  ·exact cSl_num h hs k (by omega)
  ·intro x hx
   rcases List.mem_or_eq_of_mem_set hx with hx | rfl
   ·exact cSl_num h hs k (by omega) x hx
   ·have := h.bot (k + 1) hk
    omega
theorem num3_own {raw : List Int} (hB : IsB raw) (hok : ownOK raw = true) : (0 ≤ numAt raw 4 8 ∧ numAt raw 4 8 ≤ 9223372036854775807) ∧ (0 ≤ numAt raw 12 4 ∧ numAt raw 12 4 ≤ 9223372036854775807) ∧ (∀ x ∈ slotsOf raw, 0 ≤ x ∧ x ≤ 9223372036854775807) := by
 have hl := ownOK_len hok
 have h1 := isLSN_spec (own_enc hok).2
 have h2 := numAt_in raw hB 12 4 (by decide) (by decide) (by omega)
 exact ⟨h1, by omega, fun x hx => by have := slotsOf_small raw hB hl x hx; omega⟩
theorem implComp_any (v : Value) (raw : List Int) (w : World) (hB : IsB raw) (hn : raw.length ≤ 1099511627776) (hv : Rd .u8 w v raw) :
  Calls Try.prog 10 #[v] w fun e w' => ∃ a c, e = .returned (.slice a (pageCompact raw).length c) ∧ (∀ b, (Value.slice a (pageCompact raw).length c).ownBlock = some b → w.heap.size ≤ b) ∧ Own 0 55 .u8 w' (.slice a (pageCompact raw).length c) (pageCompact raw) ∧ Same w w' := by
 cases hok : ownOK raw with
 | false =>
  have kW := wellFormed_no v raw w hB hn hv hok
  rw [show pageCompact raw = [] from if_neg (by rw [hok]; simp)]
  clear hv hB hok
  go_enter Try.func10, Try.ntmps10
  go_wp2_with fail
  refine kW.mono ?_
  rintro e w1 ⟨rfl, hk1⟩
  have HK1 := hid hk1
  clear hk1
  go_wp2
  go_ret
  exact ⟨_, _, rfl, fun b hb => by simp [Value.ownBlock] at hb, Own.nil _ _ _ _, HK1.out⟩
 | true =>
  have kW := wellFormed_yes v raw w hB hn hv hok
  have hsl := slOK_of hB hok
  obtain ⟨n1, n2, n3⟩ := num3_own hB hok
  have hl := ownOK_len hok
  have hpc : pageCompact raw = compB raw := if_pos hok
  have hpl := compB_length hB hok
  have kC := fun P wx (h : SP wx P (raw.take 4) (numAt raw 4 8) (numAt raw 12 4) (numAt raw 16 2) (slotsOf raw) raw) => compact_any P (raw.take 4) (numAt raw 4 8) (numAt raw 12 4) (numAt raw 16 2) (slotsOf raw) raw wx h hsl
  have hb32 := hsl.bot 32 (Nat.le_refl _)
  have kE := fun P wx (h : SP wx P (raw.take 4) (numAt raw 4 8) (numAt raw 12 4) (cBot (slotsOf raw) 32) (cSl (slotsOf raw) 32) (cBody raw (slotsOf raw) 32)) => encode_any P (raw.take 4) (numAt raw 4 8) (numAt raw 12 4) (cBot (slotsOf raw) 32) (cSl (slotsOf raw) 32) (cBody raw (slotsOf raw) 32) wx h ⟨n1, n2, by omega, cSl_num hsl n3 32 (Nat.le_refl _)⟩
  rw [show encB (raw.take 4) (numAt raw 4 8) (numAt raw 12 4) (cBot (slotsOf raw) 32) (cSl (slotsOf raw) 32) (cBody raw (slotsOf raw) 32) = compB raw from rfl] at kE
  have kL := fun wx => list_any (compB raw) wx hpl
  obtain ⟨cs, hcs⟩ : ∃ cs : Array Value, (vals .u8 (compB raw)).toArray = cs := ⟨_, rfl⟩
  have HCS := hid hcs
  have HPL := hid hpl
  rw [hcs] at kE kL
  rw [hpc, hpl]
  clear hv hB hok hsl n1 n2 n3 hl hb32 hcs hpl hpc
  go_enter Try.func10, Try.ntmps10
  go_wp2_with fail
  refine kW.mono ?_
  rintro e w1 ⟨P, rfl, hP, hsp, hk1⟩
  have HK1 := hid hk1
  have HSP := hid hsp
  have hz1 := HK1.out.size
  clear hk1 hsp kW
  go_wp2_with fail
  refine (kC P _ HSP.out).mono ?_
  rintro e w2 ⟨rfl, hsp2, hk2⟩
  have HK2 := hid (HK1.out.next hk2 (fun i hi e => by omega))
  have HSP2 := hid hsp2
  clear hsp2 hk2 kC HSP
  go_wp2_with fail
  refine (kE P _ HSP2.out).mono ?_
  rintro e w3 ⟨rfl, hk3⟩
  have HK3 := hid (HK2.out.trans hk3)
  clear hk3 kE HSP2
  go_wp2_with fail
  refine (kL _).mono ?_
  rintro e w4 ⟨rfl, hb4, hk4⟩
  have HK4 := hid (HK3.out.trans hk4)
  have HZ := HK3.out.size
  have HO4 := (show Hid (Own 0 55 .u8 w4 (.slice (some ⟨w3.heap.size, 0, none⟩) 4096 4096) (compB raw)) from by have h := Blk.own hb4 (by rw [HPL.out]; unfold maxLen; omega); rw [HPL.out] at h; exact h)
  clear hk4 hb4 kL
  go_wp2
  go_ret
  exact ⟨_, _, rfl, fun b hb => by have h : w3.heap.size = b := (by simpa [Value.ownBlock] using hb); omega, HO4.out, HK4.out⟩
theorem numB_two {x : Int} (h0 : 0 ≤ x) (h1 : x ≤ 65535) : numB x 2 = lows x 2 := by
 unfold numB
 rw [if_neg]
 ·rfl
 ·rintro (h | h | h | h)
  ·omega
  ·omega
  ·omega
  ·apply h
   have e : (256 : Int) ^ (2 : Int).toNat = 65536 := by decide
   rw [e]
   omega
theorem put2_any (x : Int) (w : World) (h0 : 0 ≤ x) (h1 : x ≤ 65535) : Calls Try.prog 57 #[.int .i64 x, .int .i64 2] w fun e w' => ∃ a c, e = .returned (.slice a 2 c) ∧ Rd .u8 w' (.slice a 2 c) (lows x 2) ∧ Same w w' := by
 refine (specPut_any x 2 w ⟨by omega, by omega⟩ ⟨by omega, by omega⟩).mono ?_
 rintro e w' ⟨a, c, rfl, hf, ho, hk⟩
 rw [numB_two h0 h1, lows_length] at ho ⊢
 exact ⟨a, c, rfl, ho.rd, hk⟩
theorem l3Set_any (g cap : Nat) (xs : List Int) (s : Nat) (x y : Int) (w : World) (hl : xs.length = 4096) (hs : s < 32) (hx : 0 ≤ x ∧ x ≤ 65535) (hy : 0 ≤ y ∧ y ≤ 65535) (ho : Own 0 5 .u8 w (.slice (some ⟨g, 0, none⟩) 4096 cap) xs) :
  Calls Try.prog 58 #[.slice (some ⟨g, 0, none⟩) 4096 cap, .int .i64 (s : Int), .int .i64 x, .int .i64 y] w fun e w' => e = .returned (.tuple #[]) ∧ Own 0 5 .u8 w' (.slice (some ⟨g, 0, none⟩) 4096 cap) (layI (layI xs (20 + 4 * s) (lows x 2)) (20 + 4 * s + 2) (lows y 2)) ∧ Kept (fun b => b = g) w w' := by
 have HO := hid ho
 have HL := hid hl
 have k1 := fun wx => put2_any x wx hx.1 hx.2
 have k2 := fun wx => put2_any y wx hy.1 hy.2
 have hcap : 4096 ≤ cap := ho.caps.2
 obtain ⟨o1, ho1⟩ : ∃ o, 20 + 4 * s = o := ⟨_, rfl⟩
 obtain ⟨o2, ho2⟩ : ∃ o, 20 + 4 * s + 2 = o := ⟨_, rfl⟩
 rw [ho2, ho1]
 have q1 : IntKind.i64.wrap (4 * (s : Int)) = 4 * (s : Int) := by rw [IntKind.wrap_i64]; omega
 have q2 : IntKind.i64.wrap (20 + 4 * (s : Int)) = (o1 : Int) := by rw [IntKind.wrap_i64]; omega
 have q3 : IntKind.i64.wrap ((o1 : Int) + 2) = (o2 : Int) := by rw [IntKind.wrap_i64]; omega
 have b1 : o1 + 2 ≤ 4096 := by omega
 have b2 : o2 + 2 ≤ 4096 := by omega
 have g1 : (o1 : Int) ≤ 4096 := by omega
 have g2 : (o2 : Int) ≤ 4096 := by omega
 have g5 : (o1 : Int) ≤ (cap : Int) := by omega
 have g6 : (o2 : Int) ≤ (cap : Int) := by omega
 have n1 : ¬ cap = o1 := by omega
 have n2 : ¬ cap = o2 := by omega
 clear ho hl ho1 ho2
 go_enter Try.func58, Try.ntmps58
 go_wp2_with fail
 have hS : (fun _ : World => True) w.drew := by trivial
 refine wp_region_V (fun _ : World => True) 99 8 rfl (by kernel_rfl) ?_
 refine tk 0 8 hS ?_
 refine tk 1 9 hS ?_
 refine tk 2 10 hS ?_
 refine tk 3 11 hS ?_
 refine tkV 4 12 (.slice (some ⟨g, o1, none⟩) (4096 - o1) (cap - o1)) hS ?_
 refine tk 5 13 hS ?_
 refine wpAnyV_one (i := 6) (by kernel_rfl) rfl (fun K hK => ?_)
 go_simp
 refine (k1 _).mono ?_
 rintro e w1 ⟨a1, c1, rfl, hr1, hk1⟩
 have HK1 : Hid (Same w w1) := (Kept.refl _ _).drew.trans hk1
 have HO1 := hid (HO.out.same HK1.out)
 have hcp1 := run_copyOwn (P := Try.prog) 3 Try.underlying22 byte_one HO1.out HL.out.symm o1 (by rw [lows_length]; omega) hr1
 rw [show behind g cap o1 = some ⟨g, o1, none⟩ from if_neg n1, lows_length] at hcp1
 have HL1 := hid (HO1.out.laid HL.out.symm o1 (lows x 2) (by rw [lows_length]; omega))
 refine hK.out _ _ (fun _ => trivial) ?_
 clear hK K hk1 hr1
 try simp only [Act.put, sA, s0, sS]
 refine wpAnyV_one (i := 7) (by kernel_rfl) rfl (fun K hK => ?_)
 go_simp
 refine hK.out _ _ (fun _ => trivial) ?_
 clear hK K
 try simp only [Act.put, sA, s0, sS]
 refine wpAnyV_done (by kernel_rfl) ?_
 have HK2 := (show Hid (Kept (fun b => b = g) w (w1.setCells g o1 (vals .u8 (lows x 2)))) from Kept.setCells (R := fun b => b = g) (.inr rfl) _ _ (HK1.out.mono (fun _ _ e => e.elim)))
 have hl2 : (layI xs o1 (lows x 2)).length = 4096 := by rw [layI_length _ _ _ (by rw [lows_length, HL.out]; omega), HL.out]
 have HL2 := hid hl2
 clear hcp1 hl2
 generalize w1.setCells g o1 (vals .u8 (lows x 2)) = w2 at *
 go_wp2_with fail
 have hS : (fun _ : World => True) w2.drew := by trivial
 refine wp_region_V (fun _ : World => True) 99 9 rfl (by kernel_rfl) ?_
 refine tk 0 16 hS ?_
 refine tk 1 17 hS ?_
 refine tk 2 18 hS ?_
 refine tk 3 19 hS ?_
 refine tk 4 20 hS ?_
 refine tkV 5 21 (.slice (some ⟨g, o2, none⟩) (4096 - o2) (cap - o2)) hS ?_
 refine tk 6 22 hS ?_
 refine wpAnyV_one (i := 7) (by kernel_rfl) rfl (fun K hK => ?_)
 go_simp
 refine (k2 _).mono ?_
 rintro e w3 ⟨a3, c3, rfl, hr3, hk3⟩
 have HK3 : Hid (Same w2 w3) := (Kept.refl _ _).drew.trans hk3
 have HO3 := hid (HL1.out.same HK3.out)
 have hcp3 := run_copyOwn (P := Try.prog) 3 Try.underlying22 byte_one HO3.out HL2.out.symm o2 (by rw [lows_length]; omega) hr3
 rw [show behind g cap o2 = some ⟨g, o2, none⟩ from if_neg n2, lows_length] at hcp3
 have HL3 := hid (HO3.out.laid HL2.out.symm o2 (lows y 2) (by rw [lows_length]; omega))
 refine hK.out _ _ (fun _ => trivial) ?_
 clear hK K hk3 hr3
 try simp only [Act.put, sA, s0, sS]
 refine wpAnyV_one (i := 8) (by kernel_rfl) rfl (fun K hK => ?_)
 go_simp
 refine hK.out _ _ (fun _ => trivial) ?_
 clear hK K
 try simp only [Act.put, sA, s0, sS]
 refine wpAnyV_done (by kernel_rfl) ?_
 have HK4 := (show Hid (Kept (fun b => b = g) w (w3.setCells g o2 (vals .u8 (lows y 2)))) from Kept.setCells (R := fun b => b = g) (.inr rfl) _ _ (HK2.out.trans (HK3.out.mono (fun _ _ e => e.elim))))
 refine bodyPost_end (results_none Try.results58 _ _ _) rfl ?_
 exact ⟨rfl, HL3.out, HK4.out⟩
end Go.Proofs.Ytdgkidlpkhfbkaa
