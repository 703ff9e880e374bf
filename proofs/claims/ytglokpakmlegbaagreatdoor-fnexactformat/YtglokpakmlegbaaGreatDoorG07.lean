import Derived.Test.YtglokpakmlegbaaGreatDoorG02
import Derived.Test.YtglokpakmlegbaaGreatDoorG06
import Derived.Test.YtglokpakmlegbaaGreatDoorG04
import Derived.Test.YtglokpakmlegbaaGreatDoorG00
import Derived.Test.YtglokpakmlegbaaGreatDoorG03
import Derived.Deep.AppendLies
import Derived.Laws.AppendOwnNone
import Derived.Deep.DeepCutAuto
import Derived.Laws.IdiomCopy
namespace Go.Proofs.YtglokpakmlegbaaGreatDoor
set_option maxRecDepth 100000
set_option maxHeartbeats 16000000
set_option linter.unusedVariables false
set_option linter.unusedSimpArgs false
open Go.RowKit Go
structure Rows2 (w : World) (g : Nat) (sl : List Int) : Prop where
 at0 : ∀ k, k < 32 → w.cell? ⟨g, k * 2, none⟩ = some (.int .i64 (sl.getD (2 * k) 0))
 at1 : ∀ k, k < 32 → w.cell? ⟨g, k * 2 + 1, none⟩ = some (.int .i64 (sl.getD (2 * k + 1) 0))
theorem Rows2.kept {R : Nat → Prop} {w w' : World} {g : Nat} {sl : List Int} (h : Rows2 w g sl) (hk : Kept R w w') (hr : ¬ R g) : Rows2 w' g sl :=
 ⟨fun k hk' => hk.cellOf (h.at0 k hk') hr, fun k hk' => hk.cellOf (h.at1 k hk') hr⟩
def usedN (sl : List Int) : Nat → Int
 | 0 => 0
 | k + 1 => usedN sl k + sl.getD (2 * k + 1) 0
structure StPageRecord where
 used : Bool
 data : BS
def StPageRecord.val (x : StPageRecord) : Value := .agg #[.bool x.used, x.data.v]
def StPageRecord.rows (x : StPageRecord) : List Row := x.data.rows
def StPageRecord.dat (x : StPageRecord) : Bool × List Int := (x.used, x.data.bs)
def StPageRecord.size (x : StPageRecord) : Int := (x.data.bs.length : Int)
def StPageRecord.marked (x : StPageRecord) (k : Int) : StPageRecord := ⟨x.used, x.data.marked (k)⟩
def StPageRecord.rd (w : World) (x : StPageRecord) : Prop := Rd .u8 w x.data.v x.data.bs
theorem StPageRecord.rd.kept {R : Nat → Prop} {w w' : World} {x : StPageRecord} (h : StPageRecord.rd w x) (hk : Kept R w w') (hr : ∀ b, FootL x.rows b → ¬ R b) : StPageRecord.rd w' x :=
 Rd.kept (h) hk (fun b hb => hr b (((footL_ints _ _ _ _ _).2 hb)))
theorem StPageRecord.rd.same {w w' : World} {x : StPageRecord} (h : StPageRecord.rd w x) (hk : Same w w') : StPageRecord.rd w' x := h.kept hk (fun _ _ => id)
def StPageRecord.szs (x : StPageRecord) : Int := (x.data.bs.length : Int)
/-! ### Stretches that don't share bytes have room -/
theorem count_or {α : Type} (p q : α → Bool) : ∀ (l : List α), (∀ x ∈ l, ¬ (p x = true ∧ q x = true)) → l.countP (fun x => p x || q x) = l.countP p + l.countP q
 | [], _ => rfl
 | x :: l, h => by
  have ih := count_or p q l (fun y hy => h y (List.mem_cons_of_mem _ hy))
  have hx := h x (List.mem_cons_self ..)
  rw [List.countP_cons, List.countP_cons, List.countP_cons, ih]
  cases hp : p x <;> cases hq : q x <;> simp_all <;> omega
theorem count_mid (a b : Nat) (hab : a ≤ b) : ∀ n, (List.range n).countP (fun x => decide (a ≤ x) && decide (x < b)) = min n b - min n a
 | 0 => by simp
 | n + 1 => by
  rw [List.range_succ, List.countP_append, count_mid a b hab n]
  by_cases h1 : a ≤ n <;> by_cases h2 : n < b <;> simp [h1, h2] <;> omega
def inRec (sl : List Int) (i x : Nat) : Bool := decide ((sl.getD (2 * i) 0).toNat ≤ x) && decide (x < (sl.getD (2 * i) 0 + sl.getD (2 * i + 1) 0).toNat)
def inAny (sl : List Int) : Nat → Nat → Bool
 | 0, _ => false
 | k + 1, x => inAny sl k x || inRec sl k x
theorem inAny_iff (sl : List Int) : ∀ (k x : Nat), inAny sl k x = true ↔ ∃ i, i < k ∧ inRec sl i x = true
 | 0, x => by simp [inAny]
 | k + 1, x => by
  simp only [inAny, Bool.or_eq_true, inAny_iff sl k x]
  constructor
  ·rintro (⟨i, hi, h⟩ | h)
   ·exact ⟨i, by omega, h⟩
   ·exact ⟨k, by omega, h⟩
  ·rintro ⟨i, hi, h⟩
   by_cases e : i < k
   ·exact .inl ⟨i, e, h⟩
   ·obtain rfl : i = k := by omega
    exact .inr h
structure SlOK (sl : List Int) : Prop where
 one : ∀ k, k < 32 → (sl.getD (2 * k) 0 = 0 ∧ sl.getD (2 * k + 1) 0 = 0) ∨ (148 ≤ sl.getD (2 * k) 0 ∧ 0 ≤ sl.getD (2 * k + 1) 0 ∧ sl.getD (2 * k + 1) 0 ≤ 1000 ∧ sl.getD (2 * k) 0 + sl.getD (2 * k + 1) 0 ≤ 4096)
 two : ∀ i j, i < 32 → j < i → ¬ (max (sl.getD (2 * i) 0) (sl.getD (2 * j) 0) < min (sl.getD (2 * i) 0 + sl.getD (2 * i + 1) 0) (sl.getD (2 * j) 0 + sl.getD (2 * j + 1) 0))
theorem SlOK.count {sl : List Int} (h : SlOK sl) : ∀ k, k ≤ 32 → (((List.range 4096).countP (inAny sl k) : Nat) : Int) = usedN sl k
 | 0, _ => by
  have : (List.range 4096).countP (inAny sl 0) = 0 := List.countP_eq_zero.2 (fun x _ => by simp [inAny])
  rw [this]; rfl
 | k + 1, hk => by
  have hd : ∀ x ∈ List.range 4096, ¬ (inAny sl k x = true ∧ inRec sl k x = true) := by
   rintro x _ ⟨h1, h2⟩
   obtain ⟨i, hi, h1⟩ := (inAny_iff sl k x).1 h1
   have h3 := h.two k i (by omega) hi
   simp only [inRec, Bool.and_eq_true, decide_eq_true_eq] at h1 h2
   have h4 := h.one k (by omega)
   have h5 := h.one i (by omega)
   omega
  have e : (fun x => inAny sl (k + 1) x) = fun x => inAny sl k x || inRec sl k x := rfl
  have hc := count_or (inAny sl k) (inRec sl k) (List.range 4096) hd
  have hr : (((List.range 4096).countP (inRec sl k) : Nat) : Int) = sl.getD (2 * k + 1) 0 := by
   have h4 := h.one k (by omega)
   have hm := count_mid (sl.getD (2 * k) 0).toNat (sl.getD (2 * k) 0 + sl.getD (2 * k + 1) 0).toNat (by omega) 4096
   have : (List.range 4096).countP (inRec sl k) = min 4096 (sl.getD (2 * k) 0 + sl.getD (2 * k + 1) 0).toNat - min 4096 (sl.getD (2 * k) 0).toNat := hm
   rw [this]
   omega
  have ih := SlOK.count h k (by omega)
  show (((List.range 4096).countP (fun x => inAny sl k x || inRec sl k x) : Nat) : Int) = usedN sl k + sl.getD (2 * k + 1) 0
  rw [hc]
  omega
theorem SlOK.room {sl : List Int} (h : SlOK sl) (k : Nat) (hk : k ≤ 32) : 0 ≤ usedN sl k ∧ usedN sl k ≤ 3948 := by
 have h1 := h.count k hk
 have h2 : (List.range 4096).countP (inAny sl k) ≤ (List.range 4096).countP (fun x => decide (148 ≤ x) && decide (x < 4096)) := by
  refine List.countP_mono_left (fun x hx hp => ?_)
  obtain ⟨i, hi, h3⟩ := (inAny_iff sl k x).1 hp
  have h4 := h.one i (by omega)
  simp only [inRec, Bool.and_eq_true, decide_eq_true_eq] at h3 ⊢
  omega
 rw [count_mid 148 4096 (by omega) 4096] at h2
 omega
/-! ### Compacted -/
def layI (xs : List Int) (o : Nat) (ys : List Int) : List Int := xs.take o ++ (ys ++ xs.drop (o + ys.length))
theorem layI_length (xs : List Int) (o : Nat) (ys : List Int) (h : o + ys.length ≤ xs.length) : (layI xs o ys).length = xs.length := by simp [layI]; omega
theorem lay_layI (k : IntKind) (xs ys : List Int) (o : Nat) : lay (vals k xs) o (vals k ys) = vals k (layI xs o ys) := by
 unfold lay layI
 simp [vals]
def cBot (sl : List Int) (k : Nat) : Int := 4096 - usedN sl k
theorem SlOK.bot {sl : List Int} (h : SlOK sl) (k : Nat) (hk : k ≤ 32) : 148 ≤ cBot sl k ∧ cBot sl k ≤ 4096 := by
 have := h.room k hk
 unfold cBot
 omega
structure RowK (E : Type) where
 m : Nat
 cells : E → List Value
 len : ∀ p, (cells p).length = m
 v : E → Value
 bs : E → List Int
variable {E : Type}
def RowK.all (K : RowK E) : List E → List Value
 | [] => []
 | p :: ps => K.cells p ++ K.all ps
theorem RowK.all_length (K : RowK E) (ps : List E) : (K.all ps).length = ps.length * K.m := by
 induction ps with
 | nil => simp [RowK.all]
 | cons p ps ih => rw [RowK.all, List.length_append, K.len, ih, List.length_cons, Nat.add_mul, Nat.one_mul, Nat.add_comm]
theorem RowK.all_append (K : RowK E) (ps qs : List E) : K.all (ps ++ qs) = K.all ps ++ K.all qs := by
 induction ps with
 | nil => rfl
 | cons p ps ih => simp only [List.cons_append, RowK.all, ih, List.append_assoc]
theorem RowK.all_at (K : RowK E) (ps : List E) (j i : Nat) (h : j < ps.length) (hi : i < K.m) : (K.all ps)[j * K.m + i]? = (K.cells ps[j])[i]? := by
 induction ps generalizing j with
 | nil => simp at h
 | cons p ps ih =>
  cases j with
  | zero => rw [Nat.zero_mul, Nat.zero_add, RowK.all, List.getElem?_append_left (by rw [K.len]; exact hi)]; rfl
  | succ j =>
   rw [RowK.all, List.getElem?_append_right (by rw [K.len, Nat.add_mul]; omega), K.len, show (j + 1) * K.m + i - K.m = j * K.m + i from by rw [Nat.add_mul]; omega]
   exact ih j (by simpa using h)
structure OwnR (K : RowK E) (base : Nat) (tw tb : TypeId) (w : World) (v : Value) (ps : List E) : Prop where
 row : w.ownsRow base tw K.m v ps.length (K.all ps)
 data : ∀ p ∈ ps, Own base tb .u8 w (K.v p) (K.bs p)
 out : ∀ u ∈ ps.map K.v, Apart v u
 each : (ps.map K.v).Pairwise Apart
def footR (K : RowK E) (v : Value) (ps : List E) (b : Nat) : Prop := v.ownBlock = some b ∨ ∃ p ∈ ps, (K.v p).ownBlock = some b
section
variable {K : RowK E} {base : Nat} {tw tb : TypeId} {w w' : World} {v : Value} {ps qs : List E}
theorem OwnR.form (h : OwnR K base tw tb w v ps) :
  (v = .slice none 0 0 ∧ ps = []) ∨ ∃ g cap, v = .slice (some ⟨g, 0, none⟩) ps.length cap ∧ base ≤ g ∧ g < w.heap.size ∧ ps.length ≤ cap ∧ cap ≤ maxLen := by
 rcases h.row.2 with ⟨rfl, hn⟩ | ⟨g, cap, cur, rfl, hb, hgg, hc, hm, _⟩
 ·exact .inl ⟨rfl, List.length_eq_zero_iff.1 hn⟩
 ·exact .inr ⟨g, cap, rfl, hb, (Array.getElem?_eq_some_iff.1 hgg).1, hc, hm⟩
theorem OwnR.lt (h : OwnR K base tw tb w v ps) (b : Nat) (hb : footR K v ps b) : base ≤ b ∧ b < w.heap.size := by
 rcases hb with hb | ⟨p, hp, hb⟩
 ·exact World.ownsRow.lt h.row b hb
 ·exact (h.data p hp).lt b hb
theorem OwnR.cell {g n cap : Nat} (h : OwnR K base tw tb w (.slice (some ⟨g, 0, none⟩) n cap) ps) (hn : n = ps.length) (j i : Nat) (hj : j < ps.length) (hi : i < K.m) :
  w.cell? ⟨g, j * K.m + i, none⟩ = (K.cells ps[j])[i]? := by
 subst hn
 rw [World.ownsRow.cellAt h.row (j * K.m + i) (by have := Nat.mul_le_mul_right K.m (Nat.succ_le_of_lt hj); rw [Nat.succ_mul] at this; omega), K.all_at ps j i hj hi]
theorem OwnR.frozen {g n cap : Nat} (h : OwnR K base tw tb w (.slice (some ⟨g, 0, none⟩) n cap) ps) (hn : n = ps.length) (j : Nat) : w.frozen? ⟨g, j, none⟩ = false := by
 subst hn
 exact World.ownsRow.frozenAt h.row j
theorem OwnR.kept {R : Nat → Prop} (h : OwnR K base tw tb w v ps) (hk : Kept R w w') (hr : ∀ b, footR K v ps b → ¬ R b) : OwnR K base tw tb w' v ps :=
 ⟨hk.owns h.row (fun b hb => hr b (.inl hb)), fun p hp => (h.data p hp).kept hk (fun b hb => hr b (.inr ⟨p, hp, hb⟩)), h.out, h.each⟩
theorem OwnR.same (h : OwnR K base tw tb w v ps) (hk : Same w w') : OwnR K base tw tb w' v ps := h.kept hk (fun _ _ => id)
theorem OwnR.nil (K : RowK E) (base : Nat) (tw tb : TypeId) (w : World) : OwnR K base tw tb w (.slice none 0 0) [] :=
 ⟨World.ownsRow_nil _ _ _ _, fun _ h => by simp at h, fun _ h => by simp at h, List.Pairwise.nil⟩
theorem OwnR.set {g n cap : Nat} {pre post : List E} {p p' : E} (h : OwnR K base tw tb w (.slice (some ⟨g, 0, none⟩) n cap) (pre ++ p :: post)) (hn : n = (pre ++ p :: post).length) (i : Nat) (u : Value) (hi : i < K.m)
  (hc : K.cells p' = (K.cells p).set i u) (hv : K.v p' = K.v p) (hb : K.bs p' = K.bs p) (j : Nat) (hj : j = pre.length * K.m + i) :
  OwnR K base tw tb (w.setCell ⟨g, j, none⟩ u) (.slice (some ⟨g, 0, none⟩) n cap) (pre ++ p' :: post) := by
 subst hn hj
 have hk : Kept (fun b => b = g) w (w.setCell ⟨g, pre.length * K.m + i, none⟩ u) := Kept.setCell (Kept.refl (fun b => b = g) w) (p := ⟨g, pre.length * K.m + i, none⟩) (.inr rfl) _
 have hmap : (pre ++ p' :: post).map K.v = (pre ++ p :: post).map K.v := by simp [hv]
 refine ⟨?_, fun q hq => ?_, by rw [hmap]; exact h.out, by rw [hmap]; exact h.each⟩
 ·have hs := (World.ownsRow.stored h.row (pre.length * K.m + i) u).1
  have e : K.all (pre ++ p' :: post) = (K.all (pre ++ p :: post)).set (pre.length * K.m + i) u := by
   rw [K.all_append, K.all_append, List.set_append_right (h := by rw [K.all_length]; omega), K.all_length, Nat.add_sub_cancel_left, RowK.all, RowK.all, List.set_append_left (h := by rw [K.len]; exact hi), hc]
  rw [e]
  simpa using hs
 ·have hq' : ∃ q' ∈ pre ++ p :: post, K.v q' = K.v q ∧ K.bs q' = K.bs q := by
   rcases List.mem_append.1 hq with hq | hq
   ·exact ⟨q, by simp [hq], rfl, rfl⟩
   ·rcases List.mem_cons.1 hq with rfl | hq
    ·exact ⟨p, by simp, hv.symm, hb.symm⟩
    ·exact ⟨q, by simp [hq], rfl, rfl⟩
  obtain ⟨q', hm, e1, e2⟩ := hq'
  have hd := h.data q' hm
  rw [e1, e2] at hd
  refine hd.kept hk (fun b hb e => ?_)
  subst e
  exact h.out (K.v q) (by rw [← e1]; exact List.mem_map_of_mem hm) b rfl hb
theorem OwnR.setData {pre post : List E} {p p' : E} (h : OwnR K base tw tb w v (pre ++ p :: post)) (hk : Kept (fun b => (K.v p).ownBlock = some b) w w') (hc : K.cells p' = K.cells p) (hv : K.v p' = K.v p) (ho : Own base tb .u8 w' (K.v p) (K.bs p')) :
  OwnR K base tw tb w' v (pre ++ p' :: post) := by
 have hmap : (pre ++ p' :: post).map K.v = (pre ++ p :: post).map K.v := by simp [hv]
 have hcells : K.all (pre ++ p' :: post) = K.all (pre ++ p :: post) := by rw [K.all_append, K.all_append, RowK.all, RowK.all, hc]
 have hlen : (pre ++ p' :: post).length = (pre ++ p :: post).length := by simp
 have hea := h.each
 rw [List.map_append, List.map_cons] at hea
 obtain ⟨_, h2, h3⟩ := List.pairwise_append.1 hea
 have h4 := List.pairwise_cons.1 h2
 refine ⟨?_, fun q hq => ?_, by rw [hmap]; exact h.out, by rw [hmap]; exact h.each⟩
 ·rw [hcells, hlen]
  exact hk.owns h.row (fun b hb e => h.out (K.v p) (by simp) b hb e)
 ·rcases List.mem_append.1 hq with hq | hq
  ·exact (h.data q (by simp [hq])).kept hk (fun b hb e => h3 (K.v q) (List.mem_map_of_mem hq) (K.v p) (by simp) b hb e)
  ·rcases List.mem_cons.1 hq with rfl | hq
   ·rw [hv]; exact ho
   ·exact (h.data q (by simp [hq])).kept hk (fun b hb e => h4.1 (K.v q) (List.mem_map_of_mem hq) b e hb)
end
structure MarkK (K : RowK E) where
 on : Int → E → E
 sz : E → Nat
 v : ∀ k p, K.v (on k p) = K.v p
section
variable {K : RowK E} (M : MarkK K)
end
structure RdR (K : RowK E) (w : World) (v : Value) (ps : List E) : Prop where
 max : ps.length ≤ maxLen
 row : (ps = [] ∧ ∃ a c, v = .slice a 0 c) ∨ ∃ b off c, v = .slice (some ⟨b, off, none⟩) ps.length c ∧ ∀ j i, (h : j < ps.length) → i < K.m → w.cell? ⟨b, off + (j * K.m + i), none⟩ = (K.cells ps[j])[i]?
 data : ∀ p ∈ ps, Rd .u8 w (K.v p) (K.bs p)
section
variable {K : RowK E} {w w' : World} {v : Value} {ps : List E}
theorem RdR.kept {R : Nat → Prop} (h : RdR K w v ps) (hk : Kept R w w') (hr : ∀ b, footR K v ps b → ¬ R b) : RdR K w' v ps := by
 refine ⟨h.max, ?_, fun p hp => (h.data p hp).kept hk (fun b hb => hr b (.inr ⟨p, hp, hb⟩))⟩
 rcases h.row with h | ⟨b, off, c, rfl, hc⟩
 ·exact .inl h
 ·refine .inr ⟨b, off, c, rfl, fun j i hj hi => ?_⟩
  have hl := K.len ps[j]
  rw [List.getElem?_eq_getElem (by omega)]
  exact hk.cellOf (by rw [hc j i hj hi, List.getElem?_eq_getElem (by omega)]) (hr b (.inl rfl))
theorem RdR.same (h : RdR K w v ps) (hk : Same w w') : RdR K w' v ps := h.kept hk (fun _ _ => id)
theorem RdR.form (h : RdR K w v ps) : ∃ a c, v = .slice a ps.length c := by
 rcases h.row with ⟨rfl, a, c, rfl⟩ | ⟨b, off, c, rfl, _⟩ <;> exact ⟨_, _, rfl⟩
theorem OwnR.rd {base : Nat} {tw tb : TypeId} (h : OwnR K base tw tb w v ps) : RdR K w v ps := by
 refine ⟨?_, ?_, fun p hp => (h.data p hp).rd⟩
 ·rcases h.form with ⟨rfl, rfl⟩ | ⟨g, cap, rfl, _, _, hc, hm⟩
  ·simp
  ·exact Nat.le_trans hc hm
 ·rcases h.form with ⟨rfl, rfl⟩ | ⟨g, cap, rfl, _, _, hc, hm⟩
  ·exact .inl ⟨rfl, _, _, rfl⟩
  ·exact .inr ⟨g, 0, cap, rfl, fun j i hj hi => by rw [Nat.zero_add]; exact h.cell rfl j i hj hi⟩
end
variable {E : Type}
theorem owns_setCells {base : Nat} {e : TypeId} {size g n cap : Nat} : ∀ (vs : List Value) (o : Nat) {w : World} {xs : List Value}, w.ownsRow base e size (.slice (some ⟨g, 0, none⟩) n cap) n xs → o + vs.length ≤ xs.length → (w.setCells g o vs).ownsRow base e size (.slice (some ⟨g, 0, none⟩) n cap) n (lay xs o vs)
 | [], o, w, xs, h, _ => by rw [lay_nil]; exact h
 | v :: vs, o, w, xs, h, hl => by
  simp only [List.length_cons] at hl
  have h1 := (World.ownsRow.stored h o v).1
  have := owns_setCells vs (o + 1) h1 (by rw [List.length_set]; omega)
  rw [lay_cons _ _ _ _ hl] at this
  exact this
section
variable {K : RowK E} {base : Nat} {tw tb : TypeId} {w w' : World}
end
def behind (g cap o : Nat) : Option Addr := if cap = o then some ⟨g, 0, none⟩ else some ⟨g, o, none⟩
theorem Own.laid {base : Nat} {e : TypeId} {w : World} {g n cap : Nat} {xs : List Int} (h : Own base e .u8 w (.slice (some ⟨g, 0, none⟩) n cap) xs) (hn : n = xs.length) (o : Nat) (ys : List Int) (ho : o + ys.length ≤ n) :
  Own base e .u8 (w.setCells g o (vals .u8 ys)) (.slice (some ⟨g, 0, none⟩) n cap) (layI xs o ys) := by
 subst hn
 have h1 := owns_setCells (size := 1) (vals .u8 ys) o h (by rw [vals_length, vals_length]; exact ho)
 rw [lay_layI] at h1
 unfold Own
 rw [layI_length _ _ _ ho]
 exact h1
theorem Own.caps {base : Nat} {e : TypeId} {k : IntKind} {w : World} {a : Option Addr} {n cap : Nat} {xs : List Int} (h : Own base e k w (.slice a n cap) xs) : n = xs.length ∧ n ≤ cap := by
 rcases h.form with ⟨h, h'⟩ | ⟨g', cap', h, _, _, hc, _⟩
 ·simp only [Value.slice.injEq] at h
  rw [h']
  exact ⟨h.2.1, by omega⟩
 ·simp only [Value.slice.injEq] at h
  exact ⟨h.2.1, by omega⟩
theorem run_copyOwn {P : Program} {T tb : TypeId} {w : World} {base : Nat} {e : TypeId} {g n cap : Nat} {xs ys : List Int} {sv : Value} (ty : TypeId) (hu : P.underlying T = some (.slice tb)) (hsz : (P.info? tb).map (·.size) = some 1)
  (hown : Own base e .u8 w (.slice (some ⟨g, 0, none⟩) n cap) xs) (hn : n = xs.length) (o : Nat) (ho : o + ys.length ≤ n) (hs : Rd .u8 w sv ys) :
  (Builtin.copy_ #[T, T] ty #[.slice (behind g cap o) (n - o) (cap - o), sv]).run P w = .ok (goInt ys.length) (w.setCells g o (vals .u8 ys)) := by
 have hcap : n ≤ cap := by
  rcases hown.form with ⟨h, _⟩ | ⟨g', cap', h, _, _, hc, _⟩
  ·cases h
  ·cases h; omega
 rcases hs.2 with ⟨rfl, a, c, rfl, _⟩ | ⟨b, off, c, rfl, _, hc⟩
 ·have h := run_copy_none (P := P) w T T ty tb (behind g cap o) a (n - o) (cap - o) 0 c hu hsz (by simp)
  rw [h]
  rfl
 ·by_cases h0 : ys.length = 0
  ·obtain rfl : ys = [] := List.length_eq_zero_iff.1 h0
   have h := run_copy_none (P := P) w T T ty tb (behind g cap o) (some ⟨b, off, none⟩) (n - o) (cap - o) 0 c hu hsz (by simp)
   simp only [List.length_nil] at h ⊢
   rw [h]
   rfl
  ·have e : behind g cap o = some ⟨g, o, none⟩ := if_neg (by omega)
   rw [e]
   have h := run_copy_cells (P := P) w T T ty tb g o (n - o) (cap - o) ⟨b, off, none⟩ ys.length c (vals .u8 ys) hu hsz (by rw [vals_length]; exact (Nat.min_eq_left (by omega)).symm) (news_of hc) (fun j hj => by rw [vals_length] at hj; rw [hown.cell hn (o + j) (by omega)]; rfl) (fun j _ => hown.frozen hn _) vals_one
   rw [vals_length] at h
   exact h
end Go.Proofs.YtglokpakmlegbaaGreatDoor
