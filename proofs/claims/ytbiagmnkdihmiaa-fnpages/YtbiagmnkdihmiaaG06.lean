import Derived.Test.YtbiagmnkdihmiaaG05
import Derived.Test.YtbiagmnkdihmiaaG00
import Derived.Test.YtbiagmnkdihmiaaG02
import Derived.Test.YtbiagmnkdihmiaaProg
import Derived.Laws.IdiomCopy
import Derived.WalkLawsBesides
import Derived.Deep.QuietTactic
import Derived.BigQuiet
import Derived.Deep.LoopGhost
namespace Go.Proofs.Ytbiagmnkdihmiaa
open Go.RowKit
set_option linter.unusedVariables false
set_option linter.unusedSimpArgs false
/-! ### Stretches that don't share bytes have room -/
theorem count_or {α : Type} (p q : α → Bool) : ∀ (l : List α), (∀ x ∈ l, ¬ (p x = true ∧ q x = true)) → l.countP (fun x => p x || q x) = l.countP p + l.countP q
  | [], _ => rfl
  | x :: l, h => by
    have ih := count_or p q l (fun y hy => h y (List.mem_cons_of_mem _ hy))
    have hx := h x (List.mem_cons_self ..)
    rw [List.countP_cons, List.countP_cons, List.countP_cons, ih]
    cases hp : p x <;> cases hq : q x <;> simp_all <;> omega
theorem count_mid (a b : Nat) (hab : a ≤ b) : ∀ n, (List.range n).countP (fun x => decide (a ≤ x) && decide (x < b)) = min n b - min n a
  | 0 => by simp
  | n + 1 => by
    rw [List.range_succ, List.countP_append, count_mid a b hab n]
    by_cases h1 : a ≤ n <;> by_cases h2 : n < b <;> simp [h1, h2] <;> omega
def inRec (sl : List Int) (i x : Nat) : Bool := decide ((sl.getD (2 * i) 0).toNat ≤ x) && decide (x < (sl.getD (2 * i) 0 + sl.getD (2 * i + 1) 0).toNat)
def inAny (sl : List Int) : Nat → Nat → Bool
  | 0, _ => false
  | k + 1, x => inAny sl k x || inRec sl k x
theorem inAny_iff (sl : List Int) : ∀ (k x : Nat), inAny sl k x = true ↔ ∃ i, i < k ∧ inRec sl i x = true
  | 0, x => by simp [inAny]
  | k + 1, x => by
    simp only [inAny, Bool.or_eq_true, inAny_iff sl k x]
    constructor
    · rintro (⟨i, hi, h⟩ | h)
      · exact ⟨i, by omega, h⟩
      · exact ⟨k, by omega, h⟩
    · rintro ⟨i, hi, h⟩
      by_cases e : i < k
      · exact .inl ⟨i, e, h⟩
      · obtain rfl : i = k := by omega
        exact .inr h
structure SlOK (sl : List Int) : Prop where
  one : ∀ k, k < 32 → (sl.getD (2 * k) 0 = 0 ∧ sl.getD (2 * k + 1) 0 = 0) ∨ (148 ≤ sl.getD (2 * k) 0 ∧ 0 ≤ sl.getD (2 * k + 1) 0 ∧ sl.getD (2 * k + 1) 0 ≤ 1000 ∧ sl.getD (2 * k) 0 + sl.getD (2 * k + 1) 0 ≤ 4096)
  two : ∀ i j, i < 32 → j < i → ¬ (max (sl.getD (2 * i) 0) (sl.getD (2 * j) 0) < min (sl.getD (2 * i) 0 + sl.getD (2 * i + 1) 0) (sl.getD (2 * j) 0 + sl.getD (2 * j + 1) 0))
theorem SlOK.count {sl : List Int} (h : SlOK sl) : ∀ k, k ≤ 32 → (((List.range 4096).countP (inAny sl k) : Nat) : Int) = usedN sl k
  | 0, _ => by
    have : (List.range 4096).countP (inAny sl 0) = 0 := List.countP_eq_zero.2 (fun x _ => by simp [inAny])
    rw [this]; rfl
  | k + 1, hk => by
    have hd : ∀ x ∈ List.range 4096, ¬ (inAny sl k x = true ∧ inRec sl k x = true) := by
      rintro x _ ⟨h1, h2⟩
      obtain ⟨i, hi, h1⟩ := (inAny_iff sl k x).1 h1
      have h3 := h.two k i (by omega) hi
      simp only [inRec, Bool.and_eq_true, decide_eq_true_eq] at h1 h2
      have h4 := h.one k (by omega)
      have h5 := h.one i (by omega)
      omega
    have e : (fun x => inAny sl (k + 1) x) = fun x => inAny sl k x || inRec sl k x := rfl
    have hc := count_or (inAny sl k) (inRec sl k) (List.range 4096) hd
    have hr : (((List.range 4096).countP (inRec sl k) : Nat) : Int) = sl.getD (2 * k + 1) 0 := by
      have h4 := h.one k (by omega)
      have hm := count_mid (sl.getD (2 * k) 0).toNat (sl.getD (2 * k) 0 + sl.getD (2 * k + 1) 0).toNat (by omega) 4096
      have : (List.range 4096).countP (inRec sl k) = min 4096 (sl.getD (2 * k) 0 + sl.getD (2 * k + 1) 0).toNat - min 4096 (sl.getD (2 * k) 0).toNat := hm
      rw [this]
      omega
    have ih := SlOK.count h k (by omega)
    show (((List.range 4096).countP (fun x => inAny sl k x || inRec sl k x) : Nat) : Int) = usedN sl k + sl.getD (2 * k + 1) 0
    rw [hc]
    omega
theorem SlOK.room {sl : List Int} (h : SlOK sl) (k : Nat) (hk : k ≤ 32) : 0 ≤ usedN sl k ∧ usedN sl k ≤ 3948 := by
  have h1 := h.count k hk
  have h2 : (List.range 4096).countP (inAny sl k) ≤ (List.range 4096).countP (fun x => decide (148 ≤ x) && decide (x < 4096)) := by
    refine List.countP_mono_left (fun x hx hp => ?_)
    obtain ⟨i, hi, h3⟩ := (inAny_iff sl k x).1 hp
    have h4 := h.one i (by omega)
    simp only [inRec, Bool.and_eq_true, decide_eq_true_eq] at h3 ⊢
    omega
  rw [count_mid 148 4096 (by omega) 4096] at h2
  omega
theorem slOK_of {raw : List Int} (hB : IsB raw) (h : ownOK raw = true) : SlOK (slotsOf raw) := by
  have hp := ownOK_parts h
  have hl := ownOK_len h
  have hs := slotsOf_small raw hB hl
  refine ⟨fun k hk => ?_, fun i j hi hj hsh => ?_⟩
  · have h1 := ownOK_slot h k hk
    have h2 := hs.at (2 * k)
    have h3 := hs.at (2 * k + 1)
    rcases h1 with h1 | h1
    · exact .inl h1
    · exact .inr ⟨by omega, by omega, by omega, by omega⟩
  · have h1 := hp.2.2.2
    unfold share at h1
    rw [List.any_eq_false] at h1
    have h2 := h1 i (List.mem_range.2 hi)
    rw [Bool.not_eq_true, List.any_eq_false] at h2
    have h3 := h2 j (List.mem_range.2 hj)
    apply h3
    unfold shareAt sharesB
    simpa using hsh
/-! ### Compacted -/
def layI (xs : List Int) (o : Nat) (ys : List Int) : List Int := xs.take o ++ (ys ++ xs.drop (o + ys.length))
theorem layI_length (xs : List Int) (o : Nat) (ys : List Int) (h : o + ys.length ≤ xs.length) : (layI xs o ys).length = xs.length := by simp [layI]; omega
theorem lay_layI (k : IntKind) (xs ys : List Int) (o : Nat) : lay (vals k xs) o (vals k ys) = vals k (layI xs o ys) := by
  unfold lay layI
  simp [vals]
def cBot (sl : List Int) (k : Nat) : Int := 4096 - usedN sl k
def cSl (sl : List Int) : Nat → List Int
  | 0 => sl
  | k + 1 => if sl.getD (2 * k) 0 = 0 then cSl sl k else (cSl sl k).set (2 * k) (cBot sl (k + 1))
def cBody (raw sl : List Int) : Nat → List Int
  | 0 => List.replicate 4096 0
  | k + 1 => if sl.getD (2 * k) 0 = 0 then cBody raw sl k else layI (cBody raw sl k) (cBot sl (k + 1)).toNat (stretch raw (sl.getD (2 * k) 0) (sl.getD (2 * k + 1) 0))
theorem cSl_length (sl : List Int) : ∀ k, (cSl sl k).length = sl.length
  | 0 => rfl
  | k + 1 => by
    rw [cSl]
    split
    · exact cSl_length sl k
    · rw [List.length_set, cSl_length sl k]
theorem cSl_at (sl : List Int) : ∀ (k j : Nat), 2 * k ≤ j → (cSl sl k).getD j 0 = sl.getD j 0
  | 0, _, _ => rfl
  | k + 1, j, h => by
    rw [cSl]
    split
    · exact cSl_at sl k j (by omega)
    · rw [List.getD_eq_getElem?_getD, List.getElem?_set_ne (by omega), ← List.getD_eq_getElem?_getD]
      exact cSl_at sl k j (by omega)
theorem SlOK.bot {sl : List Int} (h : SlOK sl) (k : Nat) (hk : k ≤ 32) : 148 ≤ cBot sl k ∧ cBot sl k ≤ 4096 := by
  have := h.room k hk
  unfold cBot
  omega
theorem cBot_succ (sl : List Int) (k : Nat) : cBot sl (k + 1) = cBot sl k - sl.getD (2 * k + 1) 0 := by
  unfold cBot
  rw [show usedN sl (k + 1) = usedN sl k + sl.getD (2 * k + 1) 0 from rfl]
  omega
theorem SlOK.body {sl : List Int} (h : SlOK sl) (raw : List Int) (hl : raw.length = 4096) : ∀ k, k ≤ 32 → (cBody raw sl k).length = 4096
  | 0, _ => by rw [cBody, List.length_replicate]
  | k + 1, hk => by
    rw [cBody]
    have ih := SlOK.body h raw hl k (by omega)
    split
    · exact ih
    · have h1 := h.one k (by omega)
      have h2 := h.bot k (by omega)
      have h3 := h.bot (k + 1) hk
      have h4 := cBot_succ sl k
      rw [layI_length, ih]
      rw [stretch_length raw _ _ hl (by omega) (by omega) (by omega), ih]
      omega
def compB (raw : List Int) : List Int := encB (raw.take 4) (numAt raw 4 8) (numAt raw 12 4) (cBot (slotsOf raw) 32) (cSl (slotsOf raw) 32) (cBody raw (slotsOf raw) 32)
def pageCompact (raw : List Int) : List Int := if ownOK raw = true then compB raw else []
theorem compB_length {raw : List Int} (hB : IsB raw) (h : ownOK raw = true) : (compB raw).length = 4096 := by
  have hl := ownOK_len h
  exact encB_length (by rw [List.length_take, hl]; rfl) (by rw [cSl_length, slotsOf_length]) ((slOK_of hB h).body raw hl 32 (Nat.le_refl _))
end Go.Proofs.Ytbiagmnkdihmiaa

namespace Go.Proofs.Ytbiagmnkdihmiaa
open Go Go.RowKit
set_option linter.unusedVariables false
set_option linter.unusedSimpArgs false
structure RowK (E : Type) where
  m : Nat
  cells : E → List Value
  len : ∀ p, (cells p).length = m
  v : E → Value
  bs : E → List Int
variable {E : Type}
def RowK.all (K : RowK E) : List E → List Value
  | [] => []
  | p :: ps => K.cells p ++ K.all ps
theorem RowK.all_length (K : RowK E) (ps : List E) : (K.all ps).length = ps.length * K.m := by
  induction ps with
  | nil => simp [RowK.all]
  | cons p ps ih => rw [RowK.all, List.length_append, K.len, ih, List.length_cons, Nat.add_mul, Nat.one_mul, Nat.add_comm]
theorem RowK.all_append (K : RowK E) (ps qs : List E) : K.all (ps ++ qs) = K.all ps ++ K.all qs := by
  induction ps with
  | nil => rfl
  | cons p ps ih => simp only [List.cons_append, RowK.all, ih, List.append_assoc]
theorem RowK.all_at (K : RowK E) (ps : List E) (j i : Nat) (h : j < ps.length) (hi : i < K.m) : (K.all ps)[j * K.m + i]? = (K.cells ps[j])[i]? := by
  induction ps generalizing j with
  | nil => simp at h
  | cons p ps ih =>
    cases j with
    | zero => rw [Nat.zero_mul, Nat.zero_add, RowK.all, List.getElem?_append_left (by rw [K.len]; exact hi)]; rfl
    | succ j =>
      rw [RowK.all, List.getElem?_append_right (by rw [K.len, Nat.add_mul]; omega), K.len, show (j + 1) * K.m + i - K.m = j * K.m + i from by rw [Nat.add_mul]; omega]
      exact ih j (by simpa using h)
structure OwnR (K : RowK E) (base : Nat) (tw tb : TypeId) (w : World) (v : Value) (ps : List E) : Prop where
  row : w.ownsRow base tw K.m v ps.length (K.all ps)
  data : ∀ p ∈ ps, Own base tb .u8 w (K.v p) (K.bs p)
  out : ∀ u ∈ ps.map K.v, Apart v u
  each : (ps.map K.v).Pairwise Apart
def footR (K : RowK E) (v : Value) (ps : List E) (b : Nat) : Prop := v.ownBlock = some b ∨ ∃ p ∈ ps, (K.v p).ownBlock = some b
section
variable {K : RowK E} {base : Nat} {tw tb : TypeId} {w w' : World} {v : Value} {ps qs : List E}
theorem OwnR.form (h : OwnR K base tw tb w v ps) :
    (v = .slice none 0 0 ∧ ps = []) ∨ ∃ g cap, v = .slice (some ⟨g, 0, none⟩) ps.length cap ∧ base ≤ g ∧ g < w.heap.size ∧ ps.length ≤ cap ∧ cap ≤ maxLen := by
  rcases h.row.2 with ⟨rfl, hn⟩ | ⟨g, cap, cur, rfl, hb, hgg, hc, hm, _⟩
  · exact .inl ⟨rfl, List.length_eq_zero_iff.1 hn⟩
  · exact .inr ⟨g, cap, rfl, hb, (Array.getElem?_eq_some_iff.1 hgg).1, hc, hm⟩
theorem OwnR.lt (h : OwnR K base tw tb w v ps) (b : Nat) (hb : footR K v ps b) : base ≤ b ∧ b < w.heap.size := by
  rcases hb with hb | ⟨p, hp, hb⟩
  · exact World.ownsRow.lt h.row b hb
  · exact (h.data p hp).lt b hb
theorem OwnR.cell {g n cap : Nat} (h : OwnR K base tw tb w (.slice (some ⟨g, 0, none⟩) n cap) ps) (hn : n = ps.length) (j i : Nat) (hj : j < ps.length) (hi : i < K.m) :
    w.cell? ⟨g, j * K.m + i, none⟩ = (K.cells ps[j])[i]? := by
  subst hn
  rw [World.ownsRow.cellAt h.row (j * K.m + i) (by have := Nat.mul_le_mul_right K.m (Nat.succ_le_of_lt hj); rw [Nat.succ_mul] at this; omega), K.all_at ps j i hj hi]
theorem OwnR.frozen {g n cap : Nat} (h : OwnR K base tw tb w (.slice (some ⟨g, 0, none⟩) n cap) ps) (hn : n = ps.length) (j : Nat) : w.frozen? ⟨g, j, none⟩ = false := by
  subst hn
  exact World.ownsRow.frozenAt h.row j
theorem OwnR.kept {R : Nat → Prop} (h : OwnR K base tw tb w v ps) (hk : Kept R w w') (hr : ∀ b, footR K v ps b → ¬ R b) : OwnR K base tw tb w' v ps :=
  ⟨hk.owns h.row (fun b hb => hr b (.inl hb)), fun p hp => (h.data p hp).kept hk (fun b hb => hr b (.inr ⟨p, hp, hb⟩)), h.out, h.each⟩
theorem OwnR.same (h : OwnR K base tw tb w v ps) (hk : Same w w') : OwnR K base tw tb w' v ps := h.kept hk (fun _ _ => id)
theorem OwnR.nil (K : RowK E) (base : Nat) (tw tb : TypeId) (w : World) : OwnR K base tw tb w (.slice none 0 0) [] :=
  ⟨World.ownsRow_nil _ _ _ _, fun _ h => by simp at h, fun _ h => by simp at h, List.Pairwise.nil⟩
theorem OwnR.set {g n cap : Nat} {pre post : List E} {p p' : E} (h : OwnR K base tw tb w (.slice (some ⟨g, 0, none⟩) n cap) (pre ++ p :: post)) (hn : n = (pre ++ p :: post).length) (i : Nat) (u : Value) (hi : i < K.m)
    (hc : K.cells p' = (K.cells p).set i u) (hv : K.v p' = K.v p) (hb : K.bs p' = K.bs p) (j : Nat) (hj : j = pre.length * K.m + i) :
    OwnR K base tw tb (w.setCell ⟨g, j, none⟩ u) (.slice (some ⟨g, 0, none⟩) n cap) (pre ++ p' :: post) := by
  subst hn hj
  have hk : Kept (fun b => b = g) w (w.setCell ⟨g, pre.length * K.m + i, none⟩ u) := Kept.setCell (Kept.refl (fun b => b = g) w) (p := ⟨g, pre.length * K.m + i, none⟩) (.inr rfl) _
  have hmap : (pre ++ p' :: post).map K.v = (pre ++ p :: post).map K.v := by simp [hv]
  refine ⟨?_, fun q hq => ?_, by rw [hmap]; exact h.out, by rw [hmap]; exact h.each⟩
  · have hs := (World.ownsRow.stored h.row (pre.length * K.m + i) u).1
    have e : K.all (pre ++ p' :: post) = (K.all (pre ++ p :: post)).set (pre.length * K.m + i) u := by
      rw [K.all_append, K.all_append, List.set_append_right (h := by rw [K.all_length]; omega), K.all_length, Nat.add_sub_cancel_left, RowK.all, RowK.all, List.set_append_left (h := by rw [K.len]; exact hi), hc]
    rw [e]
    simpa using hs
  · have hq' : ∃ q' ∈ pre ++ p :: post, K.v q' = K.v q ∧ K.bs q' = K.bs q := by
      rcases List.mem_append.1 hq with hq | hq
      · exact ⟨q, by simp [hq], rfl, rfl⟩
      · rcases List.mem_cons.1 hq with rfl | hq
        · exact ⟨p, by simp, hv.symm, hb.symm⟩
        · exact ⟨q, by simp [hq], rfl, rfl⟩
    obtain ⟨q', hm, e1, e2⟩ := hq'
    have hd := h.data q' hm
    rw [e1, e2] at hd
    refine hd.kept hk (fun b hb e => ?_)
    subst e
    exact h.out (K.v q) (by rw [← e1]; exact List.mem_map_of_mem hm) b rfl hb
end
structure MarkK (K : RowK E) where
  on : Int → E → E
  sz : E → Nat
  v : ∀ k p, K.v (on k p) = K.v p
section
variable {K : RowK E} (M : MarkK K)
end
structure RdR (K : RowK E) (w : World) (v : Value) (ps : List E) : Prop where
  max : ps.length ≤ maxLen
  row : (ps = [] ∧ ∃ a c, v = .slice a 0 c) ∨ ∃ b off c, v = .slice (some ⟨b, off, none⟩) ps.length c ∧ ∀ j i, (h : j < ps.length) → i < K.m → w.cell? ⟨b, off + (j * K.m + i), none⟩ = (K.cells ps[j])[i]?
  data : ∀ p ∈ ps, Rd .u8 w (K.v p) (K.bs p)
section
variable {K : RowK E} {w w' : World} {v : Value} {ps : List E}
theorem RdR.kept {R : Nat → Prop} (h : RdR K w v ps) (hk : Kept R w w') (hr : ∀ b, footR K v ps b → ¬ R b) : RdR K w' v ps := by
  refine ⟨h.max, ?_, fun p hp => (h.data p hp).kept hk (fun b hb => hr b (.inr ⟨p, hp, hb⟩))⟩
  rcases h.row with h | ⟨b, off, c, rfl, hc⟩
  · exact .inl h
  · refine .inr ⟨b, off, c, rfl, fun j i hj hi => ?_⟩
    have hl := K.len ps[j]
    rw [List.getElem?_eq_getElem (by omega)]
    exact hk.cellOf (by rw [hc j i hj hi, List.getElem?_eq_getElem (by omega)]) (hr b (.inl rfl))
theorem RdR.same (h : RdR K w v ps) (hk : Same w w') : RdR K w' v ps := h.kept hk (fun _ _ => id)
theorem RdR.form (h : RdR K w v ps) : ∃ a c, v = .slice a ps.length c := by
  rcases h.row with ⟨rfl, a, c, rfl⟩ | ⟨b, off, c, rfl, _⟩ <;> exact ⟨_, _, rfl⟩
theorem OwnR.rd {base : Nat} {tw tb : TypeId} (h : OwnR K base tw tb w v ps) : RdR K w v ps := by
  refine ⟨?_, ?_, fun p hp => (h.data p hp).rd⟩
  · rcases h.form with ⟨rfl, rfl⟩ | ⟨g, cap, rfl, _, _, hc, hm⟩
    · simp
    · exact Nat.le_trans hc hm
  · rcases h.form with ⟨rfl, rfl⟩ | ⟨g, cap, rfl, _, _, hc, hm⟩
    · exact .inl ⟨rfl, _, _, rfl⟩
    · exact .inr ⟨g, 0, cap, rfl, fun j i hj hi => by rw [Nat.zero_add]; exact h.cell rfl j i hj hi⟩
end
end Go.Proofs.Ytbiagmnkdihmiaa

namespace Go.Proofs.Ytbiagmnkdihmiaa
open Go Go.RowKit
set_option linter.unusedVariables false
set_option linter.unusedSimpArgs false
variable {E : Type}
theorem owns_setCells {base : Nat} {e : TypeId} {size g n cap : Nat} : ∀ (vs : List Value) (o : Nat) {w : World} {xs : List Value}, w.ownsRow base e size (.slice (some ⟨g, 0, none⟩) n cap) n xs → o + vs.length ≤ xs.length → (w.setCells g o vs).ownsRow base e size (.slice (some ⟨g, 0, none⟩) n cap) n (lay xs o vs)
  | [], o, w, xs, h, _ => by rw [lay_nil]; exact h
  | v :: vs, o, w, xs, h, hl => by
    simp only [List.length_cons] at hl
    have h1 := (World.ownsRow.stored h o v).1
    have := owns_setCells vs (o + 1) h1 (by rw [List.length_set]; omega)
    rw [lay_cons _ _ _ _ hl] at this
    exact this
section
variable {K : RowK E} {base : Nat} {tw tb : TypeId} {w w' : World}
end
end Go.Proofs.Ytbiagmnkdihmiaa

namespace Go.Proofs.Ytbiagmnkdihmiaa
open Go.RowKit
set_option linter.unusedVariables false
set_option linter.unusedSimpArgs false
def behind (g cap o : Nat) : Option Addr := if cap = o then some ⟨g, 0, none⟩ else some ⟨g, o, none⟩
theorem Own.laid {base : Nat} {e : TypeId} {w : World} {g n cap : Nat} {xs : List Int} (h : Own base e .u8 w (.slice (some ⟨g, 0, none⟩) n cap) xs) (hn : n = xs.length) (o : Nat) (ys : List Int) (ho : o + ys.length ≤ n) :
    Own base e .u8 (w.setCells g o (vals .u8 ys)) (.slice (some ⟨g, 0, none⟩) n cap) (layI xs o ys) := by
  subst hn
  have h1 := owns_setCells (size := 1) (vals .u8 ys) o h (by rw [vals_length, vals_length]; exact ho)
  rw [lay_layI] at h1
  unfold Own
  rw [layI_length _ _ _ ho]
  exact h1
theorem Own.caps {base : Nat} {e : TypeId} {k : IntKind} {w : World} {a : Option Addr} {n cap : Nat} {xs : List Int} (h : Own base e k w (.slice a n cap) xs) : n = xs.length ∧ n ≤ cap := by
  rcases h.form with ⟨h, h'⟩ | ⟨g', cap', h, _, _, hc, _⟩
  · simp only [Value.slice.injEq] at h
    rw [h']
    exact ⟨h.2.1, by omega⟩
  · simp only [Value.slice.injEq] at h
    exact ⟨h.2.1, by omega⟩
theorem run_copyOwn {P : Program} {T tb : TypeId} {w : World} {base : Nat} {e : TypeId} {g n cap : Nat} {xs ys : List Int} {sv : Value} (ty : TypeId) (hu : P.underlying T = some (.slice tb)) (hsz : (P.info? tb).map (·.size) = some 1)
    (hown : Own base e .u8 w (.slice (some ⟨g, 0, none⟩) n cap) xs) (hn : n = xs.length) (o : Nat) (ho : o + ys.length ≤ n) (hs : Rd .u8 w sv ys) :
    (Builtin.copy_ #[T, T] ty #[.slice (behind g cap o) (n - o) (cap - o), sv]).run P w = .ok (goInt ys.length) (w.setCells g o (vals .u8 ys)) := by
  have hcap : n ≤ cap := by
    rcases hown.form with ⟨h, _⟩ | ⟨g', cap', h, _, _, hc, _⟩
    · cases h
    · cases h; omega
  rcases hs.2 with ⟨rfl, a, c, rfl, _⟩ | ⟨b, off, c, rfl, _, hc⟩
  · have h := run_copy_none (P := P) w T T ty tb (behind g cap o) a (n - o) (cap - o) 0 c hu hsz (by simp)
    rw [h]
    rfl
  · by_cases h0 : ys.length = 0
    · obtain rfl : ys = [] := List.length_eq_zero_iff.1 h0
      have h := run_copy_none (P := P) w T T ty tb (behind g cap o) (some ⟨b, off, none⟩) (n - o) (cap - o) 0 c hu hsz (by simp)
      simp only [List.length_nil] at h ⊢
      rw [h]
      rfl
    · have e : behind g cap o = some ⟨g, o, none⟩ := if_neg (by omega)
      rw [e]
      have h := run_copy_cells (P := P) w T T ty tb g o (n - o) (cap - o) ⟨b, off, none⟩ ys.length c (vals .u8 ys) hu hsz (by rw [vals_length]; exact (Nat.min_eq_left (by omega)).symm) (news_of hc) (fun j hj => by rw [vals_length] at hj; rw [hown.cell hn (o + j) (by omega)]; rfl) (fun j _ => hown.frozen hn _) vals_one
      rw [vals_length] at h
      exact h
end Go.Proofs.Ytbiagmnkdihmiaa

namespace Go.Proofs.Ytbiagmnkdihmiaa
open Go.RowKit
set_option linter.unusedVariables false
set_option linter.unusedSimpArgs false
theorem layI_right (A B d : List Int) (o : Nat) : layI (A ++ B) (A.length + o) d = A ++ layI B o d := by
  unfold layI
  rw [List.take_append, List.take_of_length_le (by omega), Nat.add_sub_cancel_left, List.append_assoc, List.drop_append, List.drop_of_length_le (by omega), List.nil_append, show A.length + o + d.length - A.length = o + d.length from by omega]
theorem layI_left (A B d : List Int) (o : Nat) (h : o + d.length ≤ A.length) : layI (A ++ B) o d = layI A o d ++ B := by
  unfold layI
  rw [List.take_append_of_le_length (by omega), List.drop_append_of_le_length (by omega), List.append_assoc, List.append_assoc]
theorem layI_all (A d : List Int) (h : d.length = A.length) : layI A 0 d = d := by
  unfold layI
  simp [h]
theorem layI_drop (A d : List Int) (o m : Nat) (h : m ≤ o) (hl : o + d.length ≤ A.length) : (layI A o d).drop m = layI (A.drop m) (o - m) d := by
  unfold layI
  rw [List.drop_append_of_le_length (by rw [List.length_take]; omega), List.drop_take, List.drop_drop]
  congr 3
  omega
theorem encB_eq (sum : List Int) (lsn num bot : Int) (sl raw : List Int) (h1 : sum.length = 4) (h2 : sl.length = 64) : encB sum lsn num bot sl raw = headB sum lsn num bot ++ (slotB sl ++ raw.drop 148) := by
  unfold encB cont
  rw [List.length_append, headB_length _ _ _ _ h1, slotB_length, h2, List.append_assoc]
theorem encB_body {sum : List Int} {lsn num bot : Int} {sl raw : List Int} (h1 : sum.length = 4) (h2 : sl.length = 64) (h3 : raw.length = 4096) (b : Nat) (d : List Int) (hb : 148 ≤ b) (hd : b + d.length ≤ 4096) :
    layI (encB sum lsn num bot sl raw) b d = encB sum lsn num bot sl (layI raw b d) := by
  rw [encB_eq _ _ _ _ _ _ h1 h2, encB_eq _ _ _ _ _ _ h1 h2, layI_drop raw d b 148 hb (by omega)]
  have e1 : b = (headB sum lsn num bot).length + ((slotB sl).length + (b - 148)) := by rw [headB_length _ _ _ _ h1, slotB_length, h2]; omega
  conv => lhs; rw [e1]
  rw [layI_right, layI_right]
theorem slotB_append (a b : List Int) : slotB (a ++ b) = slotB a ++ slotB b := by simp [slotB]
theorem slotB_set (sl : List Int) (j : Nat) (x : Int) (h : j < sl.length) : layI (slotB sl) (2 * j) (lows x 2) = slotB (sl.set j x) := by
  have e : sl = sl.take j ++ (sl[j] :: sl.drop (j + 1)) := by rw [← List.drop_eq_getElem_cons h, List.take_append_drop]
  have e2 : sl.set j x = sl.take j ++ (x :: sl.drop (j + 1)) := List.set_eq_take_append_cons_drop.trans (if_pos h)
  rw [e2]
  conv => lhs; rw [e]
  rw [slotB_append, slotB_append]
  have hl : (slotB (sl.take j)).length = 2 * j := by rw [slotB_length, List.length_take]; omega
  rw [← hl, ← Nat.add_zero (slotB (sl.take j)).length, layI_right]
  rfl
theorem encB_slot {sum : List Int} {lsn num bot : Int} {sl raw : List Int} (h1 : sum.length = 4) (h2 : sl.length = 64) (j : Nat) (x : Int) (hj : j < 64) :
    layI (encB sum lsn num bot sl raw) (20 + 2 * j) (lows x 2) = encB sum lsn num bot (sl.set j x) raw := by
  rw [encB_eq _ _ _ _ _ _ h1 h2, encB_eq _ _ _ _ _ _ h1 (by rw [List.length_set]; exact h2)]
  have e1 : 20 + 2 * j = (headB sum lsn num bot).length + 2 * j := by rw [headB_length _ _ _ _ h1]
  rw [e1, layI_right, layI_left _ _ _ _ (by rw [slotB_length, lows_length, h2]; omega), slotB_set _ _ _ (by omega)]
theorem encB_bot {sum : List Int} {lsn num bot : Int} {sl raw : List Int} (h1 : sum.length = 4) (h2 : sl.length = 64) (x : Int) :
    layI (encB sum lsn num bot sl raw) 16 (lows x 2) = encB sum lsn num x sl raw := by
  rw [encB_eq _ _ _ _ _ _ h1 h2, encB_eq _ _ _ _ _ _ h1 h2]
  rw [layI_left _ _ _ _ (by rw [headB_length _ _ _ _ h1]; simp [lows_length])]
  congr 1
  unfold headB
  rw [layI_left _ _ _ _ (by simp [lows_length, h1])]
  congr 1
  have e : 16 = (sum ++ lows lsn 8 ++ lows num 4).length + 0 := by simp [lows_length, h1]
  conv => lhs; rw [e]
  rw [layI_right, layI_all _ _ (by simp [lows_length])]
theorem encB_lsn {sum : List Int} {lsn num bot : Int} {sl raw : List Int} (h1 : sum.length = 4) (h2 : sl.length = 64) (x : Int) :
    layI (encB sum lsn num bot sl raw) 4 (lows x 8) = encB sum x num bot sl raw := by
  rw [encB_eq _ _ _ _ _ _ h1 h2, encB_eq _ _ _ _ _ _ h1 h2]
  rw [layI_left _ _ _ _ (by rw [headB_length _ _ _ _ h1]; simp [lows_length])]
  congr 1
  unfold headB
  rw [layI_left _ _ _ _ (by simp [lows_length, h1]), layI_left _ _ _ _ (by simp [lows_length, h1]), layI_left _ _ _ _ (by simp [lows_length, h1])]
  congr 3
  have e : 4 = sum.length + 0 := by omega
  conv => lhs; rw [e]
  rw [layI_right, layI_all _ _ (by simp [lows_length])]
theorem own_enc {raw : List Int} (h : ownOK raw = true) : encB (raw.take 4) (numAt raw 4 8) (numAt raw 12 4) (numAt raw 16 2) (slotsOf raw) raw = raw ∧ isLSN (numAt raw 4 8) = true := by
  have hl := ownOK_len h
  unfold ownOK pageFault faultP at h
  simp only [hl, ne_eq, not_true_eq_false, if_false] at h
  simp only [beq_self_eq_true, Bool.true_and] at h
  by_cases h2 : headBad (raw.take 4) (numAt raw 4 8) (numAt raw 12 4) (numAt raw 16 2) (slotsOf raw) raw = true
  · simp [h2] at h
  unfold headBad at h2
  simp at h2
  exact ⟨h2.2, h2.1⟩
end Go.Proofs.Ytbiagmnkdihmiaa

namespace Go.Proofs.Ytbiagmnkdihmiaa
open Go.RowKit
set_option linter.unusedVariables false
set_option linter.unusedSimpArgs false
theorem Rd.cut {w : World} {b off c : Nat} {raw : List Int} (h : Rd .u8 w (.slice (some ⟨b, off, none⟩) raw.length c) raw) (x y : Nat) (hxy : x + y ≤ raw.length) :
    Rd .u8 w (.slice (some (if c = x then ⟨b, off, none⟩ else ⟨b, off + x, none⟩)) y (c - x)) ((raw.drop x).take y) := by
  have hl : ((raw.drop x).take y).length = y := by simp; omega
  rcases h.2 with ⟨rfl, _⟩ | ⟨b', off', c', he, hle, hc⟩
  · simp at hxy
    obtain ⟨rfl, rfl⟩ := hxy
    exact ⟨by simp, .inl ⟨by simp, _, _, rfl, fun h => by cases h⟩⟩
  · injection he with h1 h2 h3
    injection h1 with h1
    injection h1 with h1 h4
    subst h1 h4 h3
    by_cases h0 : y = 0
    · subst h0
      exact ⟨by rw [hl]; simp, .inl ⟨by simp, _, _, rfl, fun h => by cases h⟩⟩
    · rw [if_neg (by omega)]
      refine ⟨by have := h.1; omega, .inr ⟨b, off + x, c - x, by rw [hl], by omega, fun i hi => ?_⟩⟩
      rw [hl] at hi
      rw [Nat.add_assoc, hc (x + i) (by omega)]
      simp [List.getD, List.getElem?_take, List.getElem?_drop, hi]
theorem Rd.part {k : IntKind} {w : World} {b off n c : Nat} {bs : List Int} (h : ∀ i, i < bs.length → w.cell? ⟨b, off + i, none⟩ = some (.int k (bs.getD i 0))) (lo m : Nat) (hm : lo + m ≤ bs.length) (hn : n = m) (hc : m ≤ c) (hmax : m ≤ maxLen) :
    Rd k w (.slice (some ⟨b, off + lo, none⟩) n c) ((bs.drop lo).take m) := by
  have hl : ((bs.drop lo).take m).length = m := by simp; omega
  refine ⟨by omega, .inr ⟨b, off + lo, c, by rw [hn, hl], by rw [hl]; exact hc, fun i hi => ?_⟩⟩
  rw [hl] at hi
  have h1 := h (lo + i) (by omega)
  rw [← Nat.add_assoc] at h1
  rw [h1]
  simp [List.getD, hi]
end Go.Proofs.Ytbiagmnkdihmiaa

namespace Go.Proofs.Ytbiagmnkdihmiaa
set_option maxRecDepth 100000
set_option maxHeartbeats 4000000
open Go.RowKit
set_option linter.unusedVariables false
set_option linter.unusedSimpArgs false
theorem zeroPR_own (w : World) : OwnL w (StPageRecord.rows ⟨false, ⟨0, none, 0, []⟩⟩) := OwnL.one (Own.nil 0 0 .u8 w)
theorem zeroPR_foot (b : Nat) : ¬ FootL (StPageRecord.rows ⟨false, ⟨0, none, 0, []⟩⟩) b := fun h => by have := (footL_ints _ _ _ _ _).1 h; simp [BS.v, Value.ownBlock] at this
theorem wellFormed_yes (v : Value) (raw : List Int) (w : World) (hB : IsB raw) (hn : raw.length ≤ 1099511627776) (hv : Rd .u8 w v raw) (hok : ownOK raw = true) :
    Calls Try.prog 36 #[v] w fun e w' => ∃ P, e = .returned (.pointer (some ⟨P, 0, none⟩)) ∧ w.heap.size ≤ P ∧ SP w' P (raw.take 4) (numAt raw 4 8) (numAt raw 12 4) (numAt raw 16 2) (slotsOf raw) raw ∧ Same w w' := by
  refine (wellFormed_any v raw w hB hn hv).mono ?_
  rintro e w1 ⟨hk, ⟨_, P, rfl, hP, hsp⟩ | ⟨hno, rfl⟩⟩
  · exact ⟨P, rfl, hP, hsp, hk⟩
  · rw [hok] at hno; cases hno
theorem wellFormed_no (v : Value) (raw : List Int) (w : World) (hB : IsB raw) (hn : raw.length ≤ 1099511627776) (hv : Rd .u8 w v raw) (hok : ownOK raw = false) :
    Calls Try.prog 36 #[v] w fun e w' => e = .returned (.pointer none) ∧ Same w w' := by
  refine (wellFormed_any v raw w hB hn hv).mono ?_
  rintro e w1 ⟨hk, ⟨hyes, P, rfl, hP, hsp⟩ | ⟨hno, rfl⟩⟩
  · rw [hok] at hyes; cases hyes
  · exact ⟨rfl, hk⟩
theorem implPageGet_any (v : Value) (raw : List Int) (s : Int) (w : World) (hB : IsB raw) (hn : raw.length ≤ 1099511627776) (hv : Rd .u8 w v raw) :
    Calls Try.prog 25 #[v, .int .i64 s] w fun e w' => ∃ y : StPageRecord, e = .returned y.val ∧ y.dat = pageGet raw s ∧ (∀ b, FootL y.rows b → w.heap.size ≤ b) ∧ OwnL w' y.rows ∧ Same w w' := by
  have b0 := Blk.new w #[.bool false, .slice none 0 0] 33
  have hr0 := hv.same ((Kept.refl _ w).alloc (.cells #[.bool false, .slice none 0 0] 33))
  cases hok : ownOK raw with
  | false =>
    have h := wellFormed_no v raw _ hB hn hr0 hok
    rw [pageGet_no (.inl hok)]
    clear hv hB hr0
    go_enter Try.func25, Try.ntmps25
    go_wp2_with (go_at_call 36; refine h.mono ?_; rintro e w1 ⟨rfl, hk⟩; have b1 := b0.same hk; have c0 : w1.cell? ⟨w.heap.size, 0, none⟩ = some (.bool false) := b1.cell 0; have c1 : w1.cell? ⟨w.heap.size, 1, none⟩ = some (.slice none 0 0) := b1.cell 1; have f0 := b1.frozen 0; have f1 := b1.frozen 1)
    have hk2 := ((((Kept.refl _ w).alloc _).trans hk).setCell (p := ⟨w.heap.size, 0, none⟩) (.inl (Nat.le_refl _)) (.bool false)).setCell (p := ⟨w.heap.size, 1, none⟩) (.inl (Nat.le_refl _)) (.slice none 0 0)
    refine bodyPost_ret (v := .agg #[.bool false, .slice none 0 0]) (by simp [results, Try.results25, go_sem, c0, c1]) rfl ⟨⟨false, ⟨0, none, 0, []⟩⟩, rfl, rfl, fun b hb => absurd hb (zeroPR_foot b), zeroPR_own _, hk2⟩
  | true =>
    have hl := ownOK_len hok
    have h := wellFormed_yes v raw _ hB hn hr0 hok
    by_cases hs : 0 ≤ s ∧ s < 32
    · obtain ⟨k, rfl⟩ : ∃ k : Nat, s = k := ⟨s.toNat, by omega⟩
      have hk32 : k < 32 := by omega
      have hS := fun wx => isSlot_any k wx
      rw [show (decide (0 ≤ (k : Int)) && decide ((k : Int) < 32)) = true from by simp; omega] at hS
      have hsl := ownOK_slot hok k hk32
      have hsm := slotsOf_small raw hB hl
      have hx := hsm.at (2 * k)
      have hy := hsm.at (2 * k + 1)
      have HS := (show Hid (∀ P wx, SP wx P (raw.take 4) (numAt raw 4 8) (numAt raw 12 4) (numAt raw 16 2) (slotsOf raw) raw → wx.cell? ⟨P, 7 + k * 2, none⟩ = some (.int .i64 ((slotsOf raw).getD (2 * k) 0)) ∧ wx.cell? ⟨P, 7 + k * 2 + 1, none⟩ = some (.int .i64 ((slotsOf raw).getD (2 * k + 1) 0))) from fun P wx h => ⟨by rw [Nat.mul_comm]; exact h.slAt (2 * k) (by omega), by rw [Nat.mul_comm, Nat.add_assoc]; exact h.slAt (2 * k + 1) (by omega)⟩)
      by_cases h0 : (slotsOf raw).getD (2 * k) 0 = 0
      · rw [pageGet_no (raw := raw) (s := k) (.inr (.inr (.inr h0)))]
        have hU := fun y wx => used_any 0 y wx
        rw [h0] at HS
        clear hv hB hr0
        go_enter Try.func25, Try.ntmps25
        go_wp2_with (first
          | (go_at_call 36; refine h.mono ?_; rintro e w1 ⟨P, rfl, hP, hsp, hk⟩; have b1 := b0.same hk)
          | (go_at_call 52; refine (hS _).mono ?_; rintro e w2 ⟨rfl, hk2⟩; have b2 := b1.same hk2; have hsp2 := hsp.same hk2; obtain ⟨q0, q1⟩ := HS.out P w2 hsp2)
          | (go_at_call 53; refine (hU _ _).mono ?_; rintro e w3 ⟨rfl, hk3⟩; have b3 := b2.same hk3; have c0 : w3.cell? ⟨w.heap.size, 0, none⟩ = some (.bool false) := b3.cell 0; have c1 : w3.cell? ⟨w.heap.size, 1, none⟩ = some (.slice none 0 0) := b3.cell 1; have f0 := b3.frozen 0; have f1 := b3.frozen 1))
        have hk4 := ((((((Kept.refl _ w).alloc _).trans hk).trans hk2).trans hk3).setCell (p := ⟨w.heap.size, 0, none⟩) (.inl (Nat.le_refl _)) (.bool false)).setCell (p := ⟨w.heap.size, 1, none⟩) (.inl (Nat.le_refl _)) (.slice none 0 0)
        refine bodyPost_ret (v := .agg #[.bool false, .slice none 0 0]) (by simp [results, Try.results25, go_sem, c0, c1]) rfl ⟨⟨false, ⟨0, none, 0, []⟩⟩, rfl, rfl, fun b hb => absurd hb (zeroPR_foot b), zeroPR_own _, hk4⟩
      · rw [pageGet_yes hok hk32 h0]
        obtain ⟨x, hxe⟩ : ∃ x : Nat, (slotsOf raw).getD (2 * k) 0 = x := ⟨((slotsOf raw).getD (2 * k) 0).toNat, by omega⟩
        obtain ⟨y, hye⟩ : ∃ y : Nat, (slotsOf raw).getD (2 * k + 1) 0 = y := ⟨((slotsOf raw).getD (2 * k + 1) 0).toNat, by omega⟩
        have hxy : x + y ≤ 4096 := by omega
        have hx0 : ¬ (x : Int) = 0 := by omega
        rw [hxe, hye] at HS ⊢
        have hU := fun wx => used_any x y wx
        rw [show ((x : Int) != 0) = true from by simpa using hx0] at hU
        have hst : stretch raw x y = (raw.drop x).take y := rfl
        rw [hst]
        have hR := fun P wx (h : SP wx P (raw.take 4) (numAt raw 4 8) (numAt raw 12 4) (numAt raw 16 2) (slotsOf raw) raw) => record_any P _ _ _ _ _ raw x y wx h hxy
        have hlen : ((raw.drop x).take y).length ≤ 1099511627776 := by simp; omega
        obtain ⟨bs, hbs⟩ : ∃ bs, (raw.drop x).take y = bs := ⟨_, rfl⟩
        rw [hbs] at hR hlen ⊢
        clear hv hB hr0 hxe hye hsl h0 hx hy hsm hbs hst
        go_enter Try.func25, Try.ntmps25
        go_wp2_with (first
          | (go_at_call 36; refine h.mono ?_; rintro e w1 ⟨P, rfl, hP, hsp, hk⟩; have b1 := b0.same hk)
          | (go_at_call 52; refine (hS _).mono ?_; rintro e w2 ⟨rfl, hk2⟩; have b2 := b1.same hk2; have hsp2 := hsp.same hk2; obtain ⟨q0, q1⟩ := HS.out P w2 hsp2)
          | (go_at_call 53; refine (hU _).mono ?_; rintro e w3 ⟨rfl, hk3⟩; have b3 := b2.same hk3; have hsp3 := hsp2.same hk3; obtain ⟨q0', q1'⟩ := HS.out P w3 hsp3)
          | (go_at_call 55; refine (hR P w3 hsp3).mono ?_; rintro e w4 ⟨a4, c4, rfl, hrd, hk4⟩; have b4 := b3.same hk4)
          | (go_at_call 54; refine (clone_any _ bs _ hlen hrd).mono ?_; rintro e w5 ⟨a5, n5, c5, rfl, hown, hfr, hk5⟩; have b5 := b4.same hk5; have c0 : w5.cell? ⟨w.heap.size, 0, none⟩ = some (.bool false) := b5.cell 0; have c1 : w5.cell? ⟨w.heap.size, 1, none⟩ = some (.slice none 0 0) := b5.cell 1; have f0 := b5.frozen 0; have f1 := b5.frozen 1))
        obtain rfl : n5 = bs.length := by obtain ⟨_, _, he⟩ := hown.rd.form; injection he
        have hb5 := b5.lt
        have hb4 := b4.lt
        have hkw := ((((((Kept.refl (fun _ => False) w).alloc _).trans hk).trans hk2).trans hk3).trans hk4).trans hk5
        have hkz := (hkw.setCell (p := ⟨w.heap.size, 0, none⟩) (.inl (Nat.le_refl _)) (.bool true)).setCell (p := ⟨w.heap.size, 1, none⟩) (.inl (Nat.le_refl _)) (.slice a5 bs.length c5)
        have hko : Kept (fun b => b = w.heap.size) w5 ((w5.setCell ⟨w.heap.size, 0, none⟩ (.bool true)).setCell ⟨w.heap.size, 1, none⟩ (.slice a5 bs.length c5)) := ((Kept.refl (fun b => b = w.heap.size) w5).setCell (p := ⟨w.heap.size, 0, none⟩) (.inr rfl) _).setCell (p := ⟨w.heap.size, 1, none⟩) (.inr rfl) _
        refine bodyPost_ret (v := .agg #[.bool true, .slice a5 bs.length c5]) (by simp [results, Try.results25, go_sem, c0, c1]) rfl ⟨⟨true, ⟨5, a5, c5, bs⟩⟩, rfl, rfl, fun b hb => ?_, OwnL.one (hown.kept hko (fun b hb e => ?_)), hkz⟩
        · have := hfr b ((footL_ints _ _ _ _ _).1 hb); omega
        · have := hfr b hb; omega
    · have hg := pageGet_no (raw := raw) (s := s) (by omega)
      rw [hg]
      have hS := fun wx => isSlot_any s wx
      rw [show (decide (0 ≤ s) && decide (s < 32)) = false from by simp; omega] at hS
      clear hv hB hr0
      go_enter Try.func25, Try.ntmps25
      go_wp2_with (first
        | (go_at_call 36; refine h.mono ?_; rintro e w1 ⟨P, rfl, hP, hsp, hk⟩; have b1 := b0.same hk)
        | (go_at_call 52; refine (hS _).mono ?_; rintro e w2 ⟨rfl, hk2⟩; have b2 := b1.same hk2; have c0 : w2.cell? ⟨w.heap.size, 0, none⟩ = some (.bool false) := b2.cell 0; have c1 : w2.cell? ⟨w.heap.size, 1, none⟩ = some (.slice none 0 0) := b2.cell 1; have f0 := b2.frozen 0; have f1 := b2.frozen 1))
      have hk3 := (((((Kept.refl _ w).alloc _).trans hk).trans hk2).setCell (p := ⟨w.heap.size, 0, none⟩) (.inl (Nat.le_refl _)) (.bool false)).setCell (p := ⟨w.heap.size, 1, none⟩) (.inl (Nat.le_refl _)) (.slice none 0 0)
      refine bodyPost_ret (v := .agg #[.bool false, .slice none 0 0]) (by simp [results, Try.results25, go_sem, c0, c1]) rfl ⟨⟨false, ⟨0, none, 0, []⟩⟩, rfl, rfl, fun b hb => absurd hb (zeroPR_foot b), zeroPR_own _, hk3⟩
theorem specPageGet_any (v : Value) (raw : List Int) (s : Int) (w : World) (hB : IsB raw) (hn : raw.length ≤ 1099511627776) (hv : Rd .u8 w v raw) :
    Calls Try.prog 33 #[v, .int .i64 s] w fun e w' => ∃ y : StPageRecord, e = .returned y.val ∧ y.dat = pageGet raw s ∧ (∀ b, FootL y.rows b → w.heap.size ≤ b) ∧ OwnL w' y.rows ∧ Same w w' := by
  have b0 := Blk.new w #[.bool false, .slice none 0 0] 33
  have hr0 := hv.same ((Kept.refl _ w).alloc (.cells #[.bool false, .slice none 0 0] 33))
  have h := l3Own_any v raw _ hB hn hr0
  by_cases hno : ownOK raw = false ∨ s < 0 ∨ 32 ≤ s
  · rw [pageGet_no (hno.elim .inl (fun h => h.elim (fun h => .inr (.inl h)) (fun h => .inr (.inr (.inl h)))))]
    have hz : ∀ w1, Same (w.alloc (.cells #[.bool false, .slice none 0 0] 33)) w1 → w1.cell? ⟨w.heap.size, 0, none⟩ = some (.bool false) ∧ w1.cell? ⟨w.heap.size, 1, none⟩ = some (.slice none 0 0) ∧ w1.frozen? ⟨w.heap.size, 0, none⟩ = false ∧ w1.frozen? ⟨w.heap.size, 1, none⟩ = false := fun w1 hk => ⟨(b0.same hk).cell 0, (b0.same hk).cell 1, (b0.same hk).frozen 0, (b0.same hk).frozen 1⟩
    have hz2 : ∀ w1, Same (w.alloc (.cells #[.bool false, .slice none 0 0] 33)) w1 → Same w ((w1.setCell ⟨w.heap.size, 0, none⟩ (.bool false)).setCell ⟨w.heap.size, 1, none⟩ (.slice none 0 0)) := fun w1 hk => ((((Kept.refl _ w).alloc _).trans hk).setCell (p := ⟨w.heap.size, 0, none⟩) (.inl (Nat.le_refl _)) (.bool false)).setCell (p := ⟨w.heap.size, 1, none⟩) (.inl (Nat.le_refl _)) (.slice none 0 0)
    clear b0 hr0 hv hB
    cases hok : ownOK raw with
    | false =>
      rw [hok] at h
      go_enter Try.func33, Try.ntmps33
      go_wp2_with (go_at_call 31; refine h.mono ?_; rintro e w1 ⟨rfl, hk⟩; obtain ⟨c0, c1, f0, f1⟩ := hz w1 hk)
      refine bodyPost_ret (v := .agg #[.bool false, .slice none 0 0]) (by simp [results, Try.results33, go_sem, c0, c1]) rfl ⟨⟨false, ⟨0, none, 0, []⟩⟩, rfl, rfl, fun b hb => absurd hb (zeroPR_foot b), zeroPR_own _, hz2 w1 hk⟩
    | true =>
      rw [hok] at h
      by_cases h1 : s < 0
      · go_enter Try.func33, Try.ntmps33
        go_wp2_with (go_at_call 31; refine h.mono ?_; rintro e w1 ⟨rfl, hk⟩; obtain ⟨c0, c1, f0, f1⟩ := hz w1 hk)
        refine bodyPost_ret (v := .agg #[.bool false, .slice none 0 0]) (by simp [results, Try.results33, go_sem, c0, c1]) rfl ⟨⟨false, ⟨0, none, 0, []⟩⟩, rfl, rfl, fun b hb => absurd hb (zeroPR_foot b), zeroPR_own _, hz2 w1 hk⟩
      · have h2 : 32 ≤ s := hno.elim (fun h => by rw [hok] at h; cases h) (fun h => by omega)
        go_enter Try.func33, Try.ntmps33
        go_wp2_with (go_at_call 31; refine h.mono ?_; rintro e w1 ⟨rfl, hk⟩; obtain ⟨c0, c1, f0, f1⟩ := hz w1 hk)
        refine bodyPost_ret (v := .agg #[.bool false, .slice none 0 0]) (by simp [results, Try.results33, go_sem, c0, c1]) rfl ⟨⟨false, ⟨0, none, 0, []⟩⟩, rfl, rfl, fun b hb => absurd hb (zeroPR_foot b), zeroPR_own _, hz2 w1 hk⟩
  · have hok : ownOK raw = true := by cases h : ownOK raw with | true => rfl | false => exact absurd (.inl h) hno
    obtain ⟨k, rfl⟩ : ∃ k : Nat, s = k := ⟨s.toNat, by omega⟩
    have hk32 : k < 32 := by omega
    have hl := ownOK_len hok
    obtain ⟨a, c, rfl⟩ := hv.form
    obtain ⟨b, off, rfl, hc⟩ := rd_some hv (by omega)
    rw [hok] at h
    have hsl64 := slotsOf_length raw
    have hS := fun wx (h : Same w wx) => l3Slots_any b off c raw wx hB hl (by rw [← hl]; exact hv.same h)
    have hsl := ownOK_slot hok k hk32
    have hsm := slotsOf_small raw hB hl
    have hx := hsm.at (2 * k)
    have hy := hsm.at (2 * k + 1)
    rw [hl] at h ⊢
    have hc4 : 4096 ≤ c := by
      rcases hv.2 with ⟨h, _⟩ | ⟨_, _, _, he, hle, _⟩
      · rw [h] at hl; cases hl
      · injection he with _ _ h3; omega
    have hneg : ¬ (k : Int) < 0 := by omega
    have hge : ¬ (32 : Int) ≤ k := by omega
    obtain ⟨x, hxe⟩ : ∃ x : Nat, (slotsOf raw).getD (2 * k) 0 = x := ⟨((slotsOf raw).getD (2 * k) 0).toNat, by omega⟩
    obtain ⟨y, hye⟩ : ∃ y : Nat, (slotsOf raw).getD (2 * k + 1) 0 = y := ⟨((slotsOf raw).getD (2 * k + 1) 0).toNat, by omega⟩
    have HQ := (show Hid (∀ (wx : World) g, Rows2 wx g (slotsOf raw) → wx.cell? ⟨g, k * 2, none⟩ = some (.int .i64 x) ∧ wx.cell? ⟨g, k * 2 + 1, none⟩ = some (.int .i64 y)) from fun wx g h => ⟨by rw [h.at0 k hk32, hxe], by rw [h.at1 k hk32, hye]⟩)
    by_cases h0 : (slotsOf raw).getD (2 * k) 0 = 0
    · rw [pageGet_no (raw := raw) (s := k) (.inr (.inr (.inr h0)))]
      have hx0 : (x : Int) = 0 := by omega
      clear hv hB hr0 hxe hye hx hy hsl h0
      go_enter Try.func33, Try.ntmps33
      go_wp2_with (first
        | (go_at_call 31; refine h.mono ?_; rintro e w1 ⟨rfl, hk⟩; have b1 := b0.same hk; have hS' := hS w1 (((Kept.refl _ _).alloc _).trans hk))
        | (go_at_call 41; refine hS'.mono ?_; rintro e w2 ⟨g, cap, rfl, hg, hown, hk2⟩; have b2 := b1.same hk2; obtain ⟨q0, q1⟩ := HQ.out w2 g (rows2_of hown hsl64); have c0 : w2.cell? ⟨w.heap.size, 0, none⟩ = some (.bool false) := b2.cell 0; have c1 : w2.cell? ⟨w.heap.size, 1, none⟩ = some (.slice none 0 0) := b2.cell 1; have f0 := b2.frozen 0; have f1 := b2.frozen 1; have hlt := b2.lt; clear hown))
      have hk4 := (((((Kept.refl (fun _ => False) w).alloc _).trans hk).trans hk2).setCell (p := ⟨w.heap.size, 0, none⟩) (.inl (Nat.le_refl _)) (.bool false)).setCell (p := ⟨w.heap.size, 1, none⟩) (.inl (Nat.le_refl _)) (.slice none 0 0)
      have hk5 := hk4.alloc (.cells #[.int .i64 0, .int .i64 (y : Int)] 54)
      have bz := ((b2.stored 0 (.bool false)).stored 1 (.slice none 0 0)).alloc (.cells #[.int .i64 0, .int .i64 (y : Int)] 54)
      have d0 := bz.cell 0
      have d1 := bz.cell 1
      simp only [List.set_cons_zero, List.set_cons_succ, List.getElem?_cons_zero, List.getElem?_cons_succ] at d0 d1
      refine bodyPost_ret (v := .agg #[.bool false, .slice none 0 0]) (by simp [results, Try.results33, go_sem, d0, d1]) rfl ⟨⟨false, ⟨0, none, 0, []⟩⟩, rfl, rfl, fun b hb => absurd hb (zeroPR_foot b), zeroPR_own _, hk5⟩
    · rw [pageGet_yes hok hk32 h0]
      have hxy : x + y ≤ 4096 := by omega
      have hx0 : ¬ (x : Int) = 0 := by omega
      rw [hxe, hye]
      have hst : stretch raw x y = (raw.drop x).take y := rfl
      rw [hst]
      have hrd0 := Rd.cut hv x y (by omega)
      have hlen : ((raw.drop x).take y).length ≤ 1099511627776 := by simp; omega
      obtain ⟨bs, hbs⟩ : ∃ bs, (raw.drop x).take y = bs := ⟨_, rfl⟩
      rw [hbs] at hrd0 hlen ⊢
      obtain ⟨A, hA⟩ : ∃ A : Addr, (if c = x then ⟨b, off, none⟩ else ⟨b, off + x, none⟩) = A := ⟨_, rfl⟩
      rw [hA] at hrd0
      have hrun : ∀ wx : World, (Instr.slice 22 (.slice (some ⟨b, off, none⟩) 4096 c) (some (.int .i64 (x : Int))) (some (.int .i64 ((x : Int) + (y : Int)))) none).run Try.prog wx = .ok (.slice (some A) y (c - x)) wx := by
        intro wx
        rw [run_slice_lh wx 22 (some ⟨b, off, none⟩) 4096 c (by kernel_rfl) .i64 .i64 x (x + y) (by omega) (by omega) (by omega)]
        have hsz : (sizeOf (Try.prog.elem 22)).run Try.prog wx = .ok 1 wx := by kernel_rfl
        rw [hsz]
        simp only [Result.andThen, sliced, Int.toNat_natCast, Nat.mul_one]
        rw [show ((x : Int) + (y : Int)).toNat - x = y from by omega, ← hA]
        split
        · rfl
        · simp [addr_add]
      have HRD := (show Hid (Rd .u8 w (.slice (some A) y (c - x)) bs) from hrd0)
      clear hv hB hr0 hxe hye hx hy hsl h0 hbs hst hA hrd0
      go_enter Try.func33, Try.ntmps33
      go_wp2_with (first
        | (go_at_call 31; refine h.mono ?_; rintro e w1 ⟨rfl, hk⟩; have b1 := b0.same hk; have hS' := hS w1 (((Kept.refl _ _).alloc _).trans hk))
        | (go_at_call 41; refine hS'.mono ?_; rintro e w2 ⟨g, cap, rfl, hg, hown, hk2⟩; have b2 := b1.same hk2; obtain ⟨q0, q1⟩ := HQ.out w2 g (rows2_of hown hsl64); have hlt := b2.lt; have hkw2 := (((Kept.refl (fun _ => False) w).alloc _).trans hk).trans hk2; clear hown)
        | (go_at_call 32; refine (l1Copy_any _ bs _ hlen (HRD.out.same (hkw2.alloc _))).mono ?_; rintro e w5 ⟨a5, n5, c5, rfl, hown, hfr, hk5⟩; have b5 := (b2.alloc _).same hk5; have c0 : w5.cell? ⟨w.heap.size, 0, none⟩ = some (.bool false) := b5.cell 0; have c1 : w5.cell? ⟨w.heap.size, 1, none⟩ = some (.slice none 0 0) := b5.cell 1; have f0 := b5.frozen 0; have f1 := b5.frozen 1))
      obtain rfl : n5 = bs.length := by obtain ⟨_, _, he⟩ := hown.rd.form; injection he
      have hb5 := b5.lt
      have hkz := (((hkw2.alloc _).trans hk5).setCell (p := ⟨w.heap.size, 0, none⟩) (.inl (Nat.le_refl _)) (.bool true)).setCell (p := ⟨w.heap.size, 1, none⟩) (.inl (Nat.le_refl _)) (.slice a5 bs.length c5)
      have hko : Kept (fun b => b = w.heap.size) w5 ((w5.setCell ⟨w.heap.size, 0, none⟩ (.bool true)).setCell ⟨w.heap.size, 1, none⟩ (.slice a5 bs.length c5)) := ((Kept.refl (fun b => b = w.heap.size) w5).setCell (p := ⟨w.heap.size, 0, none⟩) (.inr rfl) _).setCell (p := ⟨w.heap.size, 1, none⟩) (.inr rfl) _
      simp only [World.size_alloc] at hfr
      refine bodyPost_ret (v := .agg #[.bool true, .slice a5 bs.length c5]) (by simp [results, Try.results33, go_sem, c0, c1]) rfl ⟨⟨true, ⟨5, a5, c5, bs⟩⟩, rfl, rfl, fun b hb => ?_, OwnL.one (hown.kept hko (fun b hb e => ?_)), hkz⟩
      · have := hfr b ((footL_ints _ _ _ _ _).1 hb); omega
      · have := hfr b hb; omega
end Go.Proofs.Ytbiagmnkdihmiaa

namespace Go.Proofs.Ytbiagmnkdihmiaa
open Go.RowKit
theorem byte_one : (Try.prog.info? 5).map (·.size) = some 1 := by kernel_rfl
end Go.Proofs.Ytbiagmnkdihmiaa
