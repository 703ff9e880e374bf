import Derived.Test.YtapdfgkbhaoelaaGreatDoorG29
import Derived.Deep.AppendSrc
import Derived.RangeFuncWrites
import Derived.RangeFuncCalls
import Derived.RangeFuncLeaves
import Derived.TacticsIn
import Derived.OrdersIn
namespace Go.Proofs.YtapdfgkbhaoelaaGreatDoor
set_option maxRecDepth 100000
set_option maxHeartbeats 8000000
set_option linter.unusedVariables false
set_option linter.unusedSimpArgs false
open Go.RowKit Go
theorem jbS {k txn prev page slot un nt : Int} {bu au : Bool} {bb ab tx dy im : List Int} (h : Pw k txn prev page slot bu bb au ab un nt tx dy im = 0) : 13 ≤ (Pq k txn prev page slot bu bb au ab un nt tx dy im).length ∧ (Pq k txn prev page slot bu bb au ab un nt tx dy im).length ≤ 4111 := by
 have hd : ∀ {k t p : Int}, 0 ≤ t ∧ t ≤ 2147483647 → 0 ≤ p ∧ p ≤ 1099511627776 → (Pf k t p).length = 13 := fun ht hp => by
  unfold Pf;simp only [List.length_append, List.length_singleton, VU (show 0 ≤ _ from ht.1) (by omega), len8 (show 0 ≤ _ from hp.1) (by omega)]
 have hk := Tm h
 have pb : ∀ {u : Bool} {d : List Int}, d.length ≤ 1000 → (Pn u d).length ≤ 1003 := fun {u d} hf => by
  unfold Pn
  split
  ·simp only [List.length_cons, List.length_append, jaK (show (0 : Int) ≤ (d.length : Int) by omega) (by omega)]
   omega
  ·simp
 obtain rfl | rfl | rfl | rfl | rfl | rfl | rfl | rfl : k = 1 ∨ k = 2 ∨ k = 3 ∨ k = 4 ∨ k = 5 ∨ k = 6 ∨ k = 7 ∨ k = 8 := by omega
 ·obtain ⟨⟨h1, h2⟩, ⟨p1, p2⟩, f1, f2⟩ := X7 h
  have e := hd (k := 1) ⟨by omega, h1.2⟩ h2;have b1 := pb (u := bu) f1;have b2 := pb (u := au) f2;simp only [Pq, if_true, List.length_append, e, jaK (show 0 ≤ page by omega) (by omega), jaK (show 0 ≤ slot by omega) (by omega)];omega
 ·obtain ⟨⟨h1, h2⟩, ⟨p1, p2⟩, f1, u1⟩ := X8 h
  have e := hd (k := 2) ⟨by omega, h1.2⟩ h2;have b1 := pb (u := au) f1;rw [show Pq 2 txn prev page slot bu bb au ab un nt tx dy im = _ from rfl];simp only [Pq, if_true, List.length_append, e, jaK (show 0 ≤ page by omega) (by omega), jaK (show 0 ≤ slot by omega) (by omega), len8 (show 0 ≤ un by omega) (by omega), if_neg (show ¬ (2 : Int) = 1 by omega)];omega
 ·obtain ⟨h1, h2⟩ := ZA h
  have e := hd (k := 3) ⟨by omega, h1.2⟩ h2
  show 13 ≤ (Pf 3 txn prev).length ∧ (Pf 3 txn prev).length ≤ 4111
  omega
 ·obtain ⟨h1, h2⟩ := ZB h
  have e := hd (k := 4) ⟨by omega, h1.2⟩ h2
  show 13 ≤ (Pf 4 txn prev).length ∧ (Pf 4 txn prev).length ≤ 4111
  omega
 ·obtain ⟨h1, h2⟩ := ZC h
  have e := hd (k := 5) ⟨by omega, h1.2⟩ h2
  show 13 ≤ (Pf 5 txn prev).length ∧ (Pf 5 txn prev).length ≤ 4111
  omega
 ·obtain ⟨rfl, rfl⟩ := ZE h
  have e := hd (k := 6) (t := 0) (p := 0) ⟨by omega, by omega⟩ ⟨by omega, by omega⟩
  show 13 ≤ (Pf 6 0 0).length ∧ (Pf 6 0 0).length ≤ 4111
  omega
 ·obtain ⟨rfl, rfl, n1, g1, g2⟩ := VH h
  obtain ⟨g1, t1⟩ := Vq g1;obtain ⟨g2, t2⟩ := Vr g2;have e := hd (k := 7) (t := 0) (p := 0) ⟨by omega, by omega⟩ ⟨by omega, by omega⟩;have a1 := U5 _ t1;have a2 := Xb _ t2;simp only [Pq, if_neg (show ¬ (7 : Int) = 1 by omega), if_neg (show ¬ (7 : Int) = 2 by omega), if_true, List.length_append, e, a1, a2, VU (show 0 ≤ nt by omega) (by omega), jeS (show (0 : Int) ≤ ((tx.length / 4 : Nat) : Int) by omega) (by omega), jeS (show (0 : Int) ≤ ((dy.length / 2 : Nat) : Int) by omega) (by omega)];omega
 ·obtain ⟨rfl, rfl, p1, i1⟩ := VI h
  have e := hd (k := 8) (t := 0) (p := 0) ⟨by omega, by omega⟩ ⟨by omega, by omega⟩;simp only [Pq, if_neg (show ¬ (8 : Int) = 1 by omega), if_neg (show ¬ (8 : Int) = 2 by omega), if_neg (show ¬ (8 : Int) = 7 by omega), if_true, List.length_append, e, i1, jaK (show 0 ≤ page by omega) (by omega)];omega
theorem Yg {d : Uv} (h : O9 d = 0) : 13 ≤ (Pe d).length ∧ (Pe d).length ≤ 4111 := jbS h
theorem ja7 {d : Uv} (hf : Vv d) : QU (P8 d) = if O9 d = 0 then (true, d) else (false, SN) := by
 by_cases h : O9 d = 0
 ·rw [if_pos h, P9 h]
  unfold QU;rw [Yf h hf, if_pos ⟨h, rfl⟩]
 ·rw [if_neg h, show P8 d = [] from by unfold P8; rw [if_pos (by simpa using h)]]
  unfold QU;rw [if_neg];rintro ⟨h1, h2⟩;have := (Yg h1).1;rw [h2] at this;simp at this
theorem jcR {bs : List Int} (h : (QU bs).1 = true) : O9 (QU bs).2 = 0 ∧ Pe (QU bs).2 = bs := by
 unfold QU at h ⊢
 split at h
 ·rename_i hc
  rw [if_pos hc];exact hc
 ·cases h
theorem ZV {m : Nat} {u : Int} {T C : List Int} (hm : 13 ≤ m ∧ m ≤ 4111) (hu : 0 ≤ u ∧ u ≤ 4294967295) (hT : T.length = 12 + m) (l lo hi : Int) :
  QT (OW (20 + (m : Int)) 4 ++ (OW u 4 ++ (T ++ C))) l lo hi = if u ≠ Pp 0 T then Q9 2 else if Ps (T.take 8) ≠ l ∨ l < 0 then Q9 3 else if Ps ((T.drop 8).take 4) < lo ∨ hi < Ps ((T.drop 8).take 4) then Q9 4 else if (QU (T.drop 12)).1 = true then (0, ((20 + m : Nat) : Int), Ps ((T.drop 8).take 4), (QU (T.drop 12)).2) else Q9 5 := by
 have la : (OW (20 + (m : Int)) 4).length = 4 := VU (by omega) (by omega);have lb : (OW u 4).length = 4 := VU (by omega) (by omega);have ga : Ps (OW (20 + (m : Int)) 4) = 20 + (m : Int) := RQ (n := 4) (by omega) (by omega) (by omega) (by omega);have gb : Ps (OW u 4) = u := RQ (n := 4) (by omega) (by omega) (by omega) (by omega);have e4 : (OW (20 + (m : Int)) 4 ++ (OW u 4 ++ (T ++ C))).take 4 = OW (20 + (m : Int)) 4 := List.take_left' la;have d4 : (OW (20 + (m : Int)) 4 ++ (OW u 4 ++ (T ++ C))).drop 4 = OW u 4 ++ (T ++ C) := List.drop_left' la
 have d8 : (OW (20 + (m : Int)) 4 ++ (OW u 4 ++ (T ++ C))).drop 8 = T ++ C := by rw [show (8 : Nat) = 4 + 4 from rfl, ← List.drop_drop, d4, List.drop_left' lb]
 have Ng : (OW (20 + (m : Int)) 4 ++ (OW u 4 ++ (T ++ C))).drop 16 = T.drop 8 ++ C := by rw [show (16 : Nat) = 8 + 8 from rfl, ← List.drop_drop, d8, List.drop_append_of_le_length (by omega)]
 have Kj : (OW (20 + (m : Int)) 4 ++ (OW u 4 ++ (T ++ C))).drop 20 = T.drop 12 ++ C := by rw [show (20 : Nat) = 8 + 12 from rfl, ← List.drop_drop, d8, List.drop_append_of_le_length (by omega)]
 unfold QT;rw [if_pos (show Xc _ from ⟨by simp only [List.length_append]; omega, by rw [e4, ga]; omega, by rw [e4, ga]; omega, by rw [e4, ga]; simp only [List.length_append]; omega⟩), e4, ga];unfold ZU;rw [d4, d8, Ng, Kj, List.take_left' lb, gb]
 have hs : (20 + (m : Int)).toNat = 20 + m := by omega
 rw [hs, show (T ++ C).take (20 + m - 8) = T from List.take_left' (by omega), List.take_append_of_le_length (by omega), List.take_append_of_le_length (by rw [List.length_drop]; omega), show (T.drop 12 ++ C).take (20 + m - 20) = T.drop 12 from List.take_left' (by rw [List.length_drop]; omega)]
section
variable {lsn ep : Int} {R : List Int}
theorem jed (lsn ep : Int) (R C : List Int) : frB lsn ep R ++ C = OW (20 + (R.length : Int)) 4 ++ (OW (Pp 0 (QB lsn ep R)) 4 ++ (QB lsn ep R ++ C)) := by
 unfold frB;simp only [List.append_assoc]
theorem V4 (hl : 1 ≤ lsn ∧ lsn ≤ 1099511627776) (he : 1 ≤ ep ∧ ep ≤ 4294967295) : (QB lsn ep R).length = 12 + R.length := by
 unfold QB;simp only [List.length_append, len8 (show 0 ≤ lsn by omega) (by omega), VU (show 0 ≤ ep by omega) (by omega)]
theorem jaL (hl : 1 ≤ lsn ∧ lsn ≤ 1099511627776) (he : 1 ≤ ep ∧ ep ≤ 4294967295) (hR : 13 ≤ R.length ∧ R.length ≤ 4111) (hB : IsB R) : (frB lsn ep R).length = 20 + R.length := by
 have hc := R6 0 (QB lsn ep R) (by omega) (by omega) (Sz hB);unfold frB;simp only [List.length_append, V4 hl he, VU (show (0 : Int) ≤ 20 + (R.length : Int) by omega) (by omega), VU hc.1 (by omega)];omega
theorem V5 (hl : 1 ≤ lsn ∧ lsn ≤ 1099511627776) (he : 1 ≤ ep ∧ ep ≤ 4294967295) (hR : 13 ≤ R.length ∧ R.length ≤ 4111) (hB : IsB R) (C : List Int) (l lo hi : Int) :
  QT (frB lsn ep R ++ C) l lo hi = if lsn ≠ l ∨ l < 0 then Q9 3 else if ep < lo ∨ hi < ep then Q9 4 else if (QU R).1 = true then (0, ((20 + R.length : Nat) : Int), ep, (QU R).2) else Q9 5 := by
 have hc := R6 0 (QB lsn ep R) (by omega) (by omega) (Sz hB);have l8 : (OW lsn 8).length = 8 := len8 (by omega) (by omega);have l4 : (OW ep 4).length = 4 := VU (by omega) (by omega)
 have t8 : (QB lsn ep R).take 8 = OW lsn 8 := by unfold QB; rw [List.append_assoc]; exact List.take_left' l8
 have d8 : (QB lsn ep R).drop 8 = OW ep 4 ++ R := by unfold QB; rw [List.append_assoc]; exact List.drop_left' l8
 have dW : (QB lsn ep R).drop 12 = R := by unfold QB; exact List.drop_left' (by simp only [List.length_append, l8, l4])
 have g8 : Ps (OW lsn 8) = lsn := RQ (n := 8) (by omega) (by omega) (by omega) (by omega);have g4 : Ps (OW ep 4) = ep := RQ (n := 4) (by omega) (by omega) (by omega) (by omega);rw [jed, ZV hR hc (V4 hl he), if_neg (by simp), t8, d8, dW, List.take_left' l4, g8, g4]
theorem jcS (hl : 1 ≤ lsn ∧ lsn ≤ 1099511627776) (he : 1 ≤ ep ∧ ep ≤ 4294967295) (hR : 13 ≤ R.length ∧ R.length ≤ 4111) (hB : IsB R) (l lo hi : Int) :
  QT ((frB lsn ep R).take ((frB lsn ep R).length - 1)) l lo hi = Q9 1 := by
 have la : (OW (20 + (R.length : Int)) 4).length = 4 := VU (by omega) (by omega);have hL := jaL hl he hR hB;unfold QT;rw [if_neg];rintro ⟨h1, h2, h3, h4⟩;rw [List.take_take, List.length_take, hL, show min 4 (20 + R.length - 1) = 4 by omega] at h4;have e := jed lsn ep R [];rw [List.append_nil] at e;have g4 : Ps (OW (20 + (R.length : Int)) 4) = 20 + (R.length : Int) := RQ (n := 4) (by omega) (by omega) (by omega) (by omega);rw [e, List.take_left' la, g4] at h4;omega
theorem jbT (hl : 1 ≤ lsn ∧ lsn ≤ 1099511627776) (he : 1 ≤ ep ∧ ep ≤ 4294967295) (hR : 13 ≤ R.length ∧ R.length ≤ 4111) (hB : IsB R) (T : List Int) (from_ b : Nat) (hT : T.length = (QB lsn ep R).length) (hf : from_ ≤ 8 * (QB lsn ep R).length) (h : le T = le (QB lsn ep R) ^^^ 2 ^ from_ * b) (hb : b < 4294967296) (h0 : b ≠ 0) (l lo hi : Int) :
  QT (OW (20 + (R.length : Int)) 4 ++ (OW (Pp 0 (QB lsn ep R)) 4 ++ T)) l lo hi = Q9 2 := by
 have hc := R6 0 (QB lsn ep R) (by omega) (by omega) (Sz hB);have h1 := ZV (C := []) hR hc (by rw [hT, V4 hl he]) l lo hi (T := T);rw [List.append_nil] at h1;rw [h1, if_pos (fun e => jbv T (QB lsn ep R) from_ b hT hf h hb h0 e.symm)]
end
theorem Yh (va vb : Value) (xs bs : List Int) (w : World) (ha : IsB xs) (hb : IsB bs) (iG : Rd .u8 w va xs) (kh : Rd .u8 w vb bs) :
  Calls Tryz.prog 10 #[va, vb] w fun e w' => e = .returned (.bool (decide (xs = bs))) ∧ Same w w' := by
 have h1 := Td iG;have h2 := Td kh;clear iG kh
 have HE := (show Hid (((strOfNums xs).toList == (strOfNums bs).toList) = decide (xs = bs)) from by
  by_cases h : xs = bs
  ·subst h
   show _ = _
   simp
  ·rw [decide_eq_false h]
   refine beq_eq_false_iff_ne.2 (fun e => h (SS ha hb ?_));rw [ByteArray.toList_eq, ByteArray.toList_eq] at e
   exact ByteArray.ext (Array.ext' e))
 generalize strOfNums xs = s at *;generalize strOfNums bs = t at *;clear ha hb
 go_enter Tryz.func10, Tryz.ntmps10
 go_wp2;go_ret;exact ⟨by rw [← HE.out]; rfl, kZ0⟩
structure RowK (E : Type) where
 m : Nat
 cells : E → List Value
 len : ∀ p, (cells p).length = m
 v : E → Value
 bs : E → List Int
variable {E : Type}
def RowK.all (K : RowK E) : List E → List Value
 | [] => []
 | p :: ps => K.cells p ++ K.all ps
theorem RowK.all_length (K : RowK E) (ps : List E) : (K.all ps).length = ps.length * K.m := by
 induction ps with
 | nil => simp [RowK.all]
 | cons p ps ih => rw [RowK.all, List.length_append, K.len, ih, List.length_cons, Nat.add_mul, Nat.one_mul, Nat.add_comm]
theorem RowK.all_append (K : RowK E) (ps qs : List E) : K.all (ps ++ qs) = K.all ps ++ K.all qs := by
 induction ps with
 | nil => rfl
 | cons p ps ih => simp only [List.cons_append, RowK.all, ih, List.append_assoc]
theorem RowK.all_at (K : RowK E) (ps : List E) (j i : Nat) (h : j < ps.length) (hi : i < K.m) : (K.all ps)[j * K.m + i]? = (K.cells ps[j])[i]? := by
 induction ps generalizing j with
 | nil => simp at h
 | cons p ps ih =>
  cases j with
  | zero => rw [Nat.zero_mul, Nat.zero_add, RowK.all, List.getElem?_append_left (by rw [K.len]; exact hi)]; rfl
  | succ j =>
   rw [RowK.all, List.getElem?_append_right (by rw [K.len, Nat.add_mul]; omega), K.len, show (j + 1) * K.m + i - K.m = j * K.m + i from by rw [Nat.add_mul]; omega];exact ih j (by simpa using h)
structure OwnR (K : RowK E) (base : Nat) (tw tb : TypeId) (w : World) (v : Value) (ps : List E) : Prop where
 row : w.ownsRow base tw K.m v ps.length (K.all ps)
 data : ∀ p ∈ ps, Own base tb .u8 w (K.v p) (K.bs p)
 out : ∀ u ∈ ps.map K.v, Apart v u
 each : (ps.map K.v).Pairwise Apart
def jcT (K : RowK E) (v : Value) (ps : List E) (b : Nat) : Prop := v.ownBlock = some b ∨ ∃ p ∈ ps, (K.v p).ownBlock = some b
section
variable {K : RowK E} {base : Nat} {tw tb : TypeId} {w w' : World} {v : Value} {ps qs : List E}
theorem OwnR.form (h : OwnR K base tw tb w v ps) :
  (v = Q4 ∧ ps = []) ∨ ∃ g cap, v = Q3 g ps.length cap ∧ base ≤ g ∧ g < w.heap.size ∧ ps.length ≤ cap ∧ cap ≤ maxLen := by
 rcases h.row.2 with ⟨rfl, hn⟩ | ⟨g, cap, cur, rfl, hb, mm, hc, hm, _⟩
 ·exact .inl ⟨rfl, List.length_eq_zero_iff.1 hn⟩
 ·exact .inr ⟨g, cap, rfl, hb, (Array.getElem?_eq_some_iff.1 mm).1, hc, hm⟩
theorem OwnR.lt (h : OwnR K base tw tb w v ps) (b : Nat) (hb : jcT K v ps b) : base ≤ b ∧ b < w.heap.size := by
 rcases hb with hb | ⟨p, hp, hb⟩
 ·exact World.ownsRow.lt h.row b hb
 ·exact (h.data p hp).lt b hb
theorem OwnR.cell {g n cap : Nat} (h : OwnR K base tw tb w (Q3 g n cap) ps) (hn : n = ps.length) (j i : Nat) (hj : j < ps.length) (hi : i < K.m) :
  w.cell? ⟨g, j * K.m + i, none⟩ = (K.cells ps[j])[i]? := by
 subst hn;rw [World.ownsRow.cellAt h.row (j * K.m + i) (by have := Nat.mul_le_mul_right K.m (Nat.succ_le_of_lt hj); rw [Nat.succ_mul] at this; omega), K.all_at ps j i hj hi]
theorem OwnR.frozen {g n cap : Nat} (h : OwnR K base tw tb w (Q3 g n cap) ps) (hn : n = ps.length) (j : Nat) : w.frozen? ⟨g, j, none⟩ = false := by
 subst hn;exact World.ownsRow.frozenAt h.row j
theorem OwnR.kept {R : Nat → Prop} (h : OwnR K base tw tb w v ps) (hk : Kept R w w') (hr : ∀ b, jcT K v ps b → ¬ R b) : OwnR K base tw tb w' v ps :=
 ⟨hk.owns h.row (fun b hb => hr b (.inl hb)), fun p hp => (h.data p hp).kept hk (fun b hb => hr b (.inr ⟨p, hp, hb⟩)), h.out, h.each⟩
theorem OwnR.same (h : OwnR K base tw tb w v ps) (hk : Same w w') : OwnR K base tw tb w' v ps := h.kept hk (fun _ _ => id)
theorem OwnR.nil (K : RowK E) (base : Nat) (tw tb : TypeId) (w : World) : OwnR K base tw tb w (Q4) [] :=
 ⟨World.ownsRow_nil _ _ _ _, fun _ h => by simp at h, fun _ h => by simp at h, List.Pairwise.nil⟩
theorem OwnR.set {g n cap : Nat} {pre post : List E} {p p' : E} (h : OwnR K base tw tb w (Q3 g n cap) (pre ++ p :: post)) (hn : n = (pre ++ p :: post).length) (i : Nat) (u : Value) (hi : i < K.m)
  (hc : K.cells p' = (K.cells p).set i u) (hv : K.v p' = K.v p) (hb : K.bs p' = K.bs p) (j : Nat) (hj : j = pre.length * K.m + i) :
  OwnR K base tw tb (w.setCell ⟨g, j, none⟩ u) (Q3 g n cap) (pre ++ p' :: post) := by
 subst hn hj;have hk : Kept (fun b => b = g) w (w.setCell ⟨g, pre.length * K.m + i, none⟩ u) := Kept.setCell (Kept.refl (fun b => b = g) w) (p := ⟨g, pre.length * K.m + i, none⟩) (.inr rfl) _
 have yN : (pre ++ p' :: post).map K.v = (pre ++ p :: post).map K.v := by simp [hv]
 refine ⟨?_, fun q hq => ?_, by rw [yN]; exact h.out, by rw [yN]; exact h.each⟩
 ·have hs := (World.ownsRow.stored h.row (pre.length * K.m + i) u).1
  have e : K.all (pre ++ p' :: post) = (K.all (pre ++ p :: post)).set (pre.length * K.m + i) u := by
   rw [K.all_append, K.all_append, List.set_append_right (h := by rw [K.all_length]; omega), K.all_length, Nat.add_sub_cancel_left, RowK.all, RowK.all, List.set_append_left (h := by rw [K.len]; exact hi), hc]
  rw [e]
  simpa using hs
 ·have Nb : ∃ q' ∈ pre ++ p :: post, K.v q' = K.v q ∧ K.bs q' = K.bs q := by
   rcases List.mem_append.1 hq with hq | hq
   ·exact ⟨q, by simp [hq], rfl, rfl⟩
   ·rcases List.mem_cons.1 hq with rfl | hq
    ·exact ⟨p, by simp, hv.symm, hb.symm⟩
    ·exact ⟨q, by simp [hq], rfl, rfl⟩
  obtain ⟨q', hm, e1, e2⟩ := Nb;have hd := h.data q' hm;rw [e1, e2] at hd;refine hd.kept hk (fun b hb e => ?_);subst e;exact h.out (K.v q) (by rw [← e1]; exact List.mem_map_of_mem hm) b rfl hb
end
structure MarkK (K : RowK E) where
 on : Int → E → E
 sz : E → Nat
 v : ∀ k p, K.v (on k p) = K.v p
section
variable {K : RowK E} (M : MarkK K)
end
structure RdR (K : RowK E) (w : World) (v : Value) (ps : List E) : Prop where
 max : ps.length ≤ maxLen
 row : (ps = [] ∧ ∃ a c, v = .slice a 0 c) ∨ ∃ b off c, v = .slice (some ⟨b, off, none⟩) ps.length c ∧ ∀ j i, (h : j < ps.length) → i < K.m → w.cell? ⟨b, off + (j * K.m + i), none⟩ = (K.cells ps[j])[i]?
 data : ∀ p ∈ ps, Rd .u8 w (K.v p) (K.bs p)
section
variable {K : RowK E} {w w' : World} {v : Value} {ps : List E}
theorem RdR.kept {R : Nat → Prop} (h : RdR K w v ps) (hk : Kept R w w') (hr : ∀ b, jcT K v ps b → ¬ R b) : RdR K w' v ps := by
 refine ⟨h.max, ?_, fun p hp => (h.data p hp).kept hk (fun b hb => hr b (.inr ⟨p, hp, hb⟩))⟩
 rcases h.row with h | ⟨b, off, c, rfl, hc⟩
 ·exact .inl h
 ·refine .inr ⟨b, off, c, rfl, fun j i hj hi => ?_⟩
  have hl := K.len ps[j];rw [List.getElem?_eq_getElem (by omega)];exact hk.cellOf (by rw [hc j i hj hi, List.getElem?_eq_getElem (by omega)]) (hr b (.inl rfl))
theorem RdR.same (h : RdR K w v ps) (hk : Same w w') : RdR K w' v ps := h.kept hk (fun _ _ => id)
theorem RdR.form (h : RdR K w v ps) : ∃ a c, v = .slice a ps.length c := by
 rcases h.row with ⟨rfl, a, c, rfl⟩ | ⟨b, off, c, rfl, _⟩ <;> exact ⟨_, _, rfl⟩
theorem OwnR.rd {base : Nat} {tw tb : TypeId} (h : OwnR K base tw tb w v ps) : RdR K w v ps := by
 refine ⟨?_, ?_, fun p hp => (h.data p hp).rd⟩
 ·rcases h.form with ⟨rfl, rfl⟩ | ⟨g, cap, rfl, _, _, hc, hm⟩
  ·simp
  ·exact Nat.le_trans hc hm
 ·rcases h.form with ⟨rfl, rfl⟩ | ⟨g, cap, rfl, _, _, hc, hm⟩
  ·exact .inl ⟨rfl, _, _, rfl⟩
  ·exact .inr ⟨g, 0, cap, rfl, fun j i hj hi => by rw [Nat.zero_add]; exact h.cell rfl j i hj hi⟩
end
variable {E : Type}
theorem Uz {base : Nat} {e : TypeId} {size g n cap : Nat} : ∀ (vs : List Value) (o : Nat) {w : World} {xs : List Value}, w.ownsRow base e size (Q3 g n cap) n xs → o + vs.length ≤ xs.length → (w.setCells g o vs).ownsRow base e size (Q3 g n cap) n (lay xs o vs)
 | [], o, w, xs, h, _ => by rw [Yu]; exact h
 | v :: vs, o, w, xs, h, hl => by
  simp only [List.length_cons] at hl;have h1 := (World.ownsRow.stored h o v).1;have := Uz vs (o + 1) h1 (by rw [List.length_set]; omega);rw [Wy _ _ _ _ hl] at this;exact this
section
variable {K : RowK E} {base : Nat} {tw tb : TypeId} {w w' : World}
end
structure StLogFrame where
 lsn : Int
 epoch : Int
 record : StLogRecord
def StLogFrame.val (x : StLogFrame) : Value := .agg #[Q1 x.lsn, Q1 x.epoch, Q1 x.record.kind, Q1 x.record.txn, Q1 x.record.prev, Q1 x.record.page, Q1 x.record.slot, .bool x.record.before.used, x.record.before.data.v, .bool x.record.after.used, x.record.after.data.v, Q1 x.record.uN, Q1 x.record.nT, x.record.txns.v, x.record.dirty.v, x.record.image.v]
def StLogFrame.rows (x : StLogFrame) : List Row := x.record.rows
def StLogFrame.dat (x : StLogFrame) : Int × Int × (Int × Int × Int × Int × Int × (Bool × List Int) × (Bool × List Int) × Int × Int × List Int × List Int × List Int) := (x.lsn, x.epoch, x.record.dat)
def StLogFrame.size (x : StLogFrame) : Int := x.record.size
def StLogFrame.marked (x : StLogFrame) (k : Int) : StLogFrame := ⟨x.lsn, x.epoch, x.record.marked (k)⟩
def StLogFrame.rd (w : World) (x : StLogFrame) : Prop := StLogRecord.rd w x.record
theorem StLogFrame.rd.kept {R : Nat → Prop} {w w' : World} {x : StLogFrame} (h : StLogFrame.rd w x) (hk : Kept R w w') (hr : ∀ b, O6 x.rows b → ¬ R b) : StLogFrame.rd w' x :=
 StLogRecord.rd.kept (h) hk (fun b hb => hr b (hb))
theorem StLogFrame.rd.same {w w' : World} {x : StLogFrame} (h : StLogFrame.rd w x) (hk : Same w w') : StLogFrame.rd w' x := h.kept hk (fun _ _ => id)
theorem StLogFrame.own_rd {w : World} {x : StLogFrame} (h : OwnL w x.rows) : StLogFrame.rd w x :=
 (StLogRecord.own_rd h)
def StLogFrame.szs (x : StLogFrame) : Int := x.record.szs
def StLogFrame.cells (x : StLogFrame) : List Value := [Q1 x.lsn, Q1 x.epoch, Q1 x.record.kind, Q1 x.record.txn, Q1 x.record.prev, Q1 x.record.page, Q1 x.record.slot, .bool x.record.before.used, x.record.before.data.v, .bool x.record.after.used, x.record.after.data.v, Q1 x.record.uN, Q1 x.record.nT, x.record.txns.v, x.record.dirty.v, x.record.image.v]
def kFr : RowK StLogFrame := ⟨16, StLogFrame.cells, fun _ => rfl, fun _ => Q4, fun _ => []⟩
structure RdFr (w : World) (v : Value) (ps : List StLogFrame) : Prop where
 row : RdR kFr w v ps
 data : ∀ p ∈ ps, StLogFrame.rd w p
theorem RdFr.same {w w' : World} {v : Value} {ps : List StLogFrame} (h : RdFr w v ps) (hk : Same w w') : RdFr w' v ps := ⟨h.row.same hk, fun p hp => (h.data p hp).same hk⟩
theorem RdFr.form {w : World} {v : Value} {ps : List StLogFrame} (h : RdFr w v ps) : ∃ a c, v = .slice a ps.length c := h.row.form
structure StFrameResult where
 code : Int
 fsz : Int
 epoch : Int
 record : StLogRecord
def StFrameResult.val (x : StFrameResult) : Value := .agg #[Q1 x.code, Q1 x.fsz, Q1 x.epoch, Q1 x.record.kind, Q1 x.record.txn, Q1 x.record.prev, Q1 x.record.page, Q1 x.record.slot, .bool x.record.before.used, x.record.before.data.v, .bool x.record.after.used, x.record.after.data.v, Q1 x.record.uN, Q1 x.record.nT, x.record.txns.v, x.record.dirty.v, x.record.image.v]
def StFrameResult.rows (x : StFrameResult) : List Row := x.record.rows
def StFrameResult.dat (x : StFrameResult) : Int × Int × Int × (Int × Int × Int × Int × Int × (Bool × List Int) × (Bool × List Int) × Int × Int × List Int × List Int × List Int) := (x.code, x.fsz, x.epoch, x.record.dat)
def StFrameResult.size (x : StFrameResult) : Int := x.record.size
def StFrameResult.marked (x : StFrameResult) (k : Int) : StFrameResult := ⟨x.code, x.fsz, x.epoch, x.record.marked (k)⟩
def StFrameResult.rd (w : World) (x : StFrameResult) : Prop := StLogRecord.rd w x.record
theorem StFrameResult.rd.kept {R : Nat → Prop} {w w' : World} {x : StFrameResult} (h : StFrameResult.rd w x) (hk : Kept R w w') (hr : ∀ b, O6 x.rows b → ¬ R b) : StFrameResult.rd w' x :=
 StLogRecord.rd.kept (h) hk (fun b hb => hr b (hb))
theorem StFrameResult.rd.same {w w' : World} {x : StFrameResult} (h : StFrameResult.rd w x) (hk : Same w w') : StFrameResult.rd w' x := h.kept hk (fun _ _ => id)
theorem StFrameResult.own_rd {w : World} {x : StFrameResult} (h : OwnL w x.rows) : StFrameResult.rd w x :=
 (StLogRecord.own_rd h)
def StFrameResult.szs (x : StFrameResult) : Int := x.record.szs
structure UnB (w : World) (u : List Int) (g off cap : Nat) : Prop where
 le : u.length ≤ cap
 max : cap ≤ maxLen
 lt : g < w.heap.size
 there : ∀ j, j < cap → (w.cell? ⟨g, off + j, none⟩).isSome = true ∧ w.frozen? ⟨g, off + j, none⟩ = false
 cells : ∀ j, j < u.length → w.cell? ⟨g, off + j, none⟩ = some (.int .u8 (u.getD j 0))
def Un (lo : Nat) (w : World) (v : Value) (u : List Int) : Prop := (v = Q4 ∧ u = []) ∨ ∃ g off cap, v = .slice (some ⟨g, off, none⟩) u.length cap ∧ lo ≤ g ∧ UnB w u g off cap
theorem Un.nil (lo : Nat) (w : World) : Un lo w (Q4) [] := .inl ⟨rfl, rfl⟩
theorem Un.form {lo : Nat} {w : World} {v : Value} {u : List Int} (h : Un lo w v u) : ∃ a c, v = .slice a u.length c ∧ u.length ≤ c ∧ c ≤ maxLen ∧ (a = none → c = 0) := by
 rcases h with ⟨rfl, rfl⟩ | ⟨g, off, cap, rfl, _, h⟩
 ·exact ⟨none, 0, rfl, Nat.le_refl _, Nat.zero_le _, fun _ => rfl⟩
 ·exact ⟨_, cap, rfl, h.le, h.max, fun e => by cases e⟩
theorem Un.cap {lo : Nat} {w : World} {a : Option Addr} {n c : Nat} {u : List Int} (h : Un lo w (.slice a n c) u) : u.length ≤ c ∧ c ≤ maxLen := by
 obtain ⟨_, _, e, h1, h2, _⟩ := h.form;simp only [Value.slice.injEq] at e;rw [e.2.2];exact ⟨h1, h2⟩
theorem Un.rd {lo : Nat} {w : World} {v : Value} {u : List Int} (h : Un lo w v u) : Rd .u8 w v u := by
 rcases h with ⟨rfl, rfl⟩ | ⟨g, off, cap, rfl, _, h⟩
 ·exact ⟨Nat.zero_le _, .inl ⟨rfl, none, 0, rfl, fun _ => rfl⟩⟩
 ·exact ⟨Nat.le_trans h.le h.max, .inr ⟨g, off, cap, rfl, h.le, h.cells⟩⟩
theorem Un.kept {R : Nat → Prop} {lo : Nat} {w w' : World} {v : Value} {u : List Int} (h : Un lo w v u) (hk : Kept R w w') (hr : ∀ b, lo ≤ b → v.ownBlock = some b → (∃ j, (w.cell? ⟨b, j, none⟩).isSome = true) → ¬ R b) : Un lo w' v u := by
 rcases h with h | ⟨g, off, cap, rfl, hl, h⟩
 ·exact .inl h
 ·refine .inr ⟨g, off, cap, rfl, hl, h.le, h.max, Nat.lt_of_lt_of_le h.lt hk.size, fun j hj => ?_, fun j hj => ?_⟩
  ·have hn := hr g hl rfl ⟨_, (h.there j hj).1⟩
   rw [hk.cell (p := ⟨g, off + j, none⟩) h.lt hn, hk.frozen (p := ⟨g, off + j, none⟩) h.lt hn];exact h.there j hj
  ·have hn := hr g hl rfl ⟨_, (h.there j (Nat.lt_of_lt_of_le hj h.le)).1⟩
   rw [hk.cell (p := ⟨g, off + j, none⟩) h.lt hn];exact h.cells j hj
theorem Un.same {lo : Nat} {w w' : World} {v : Value} {u : List Int} (h : Un lo w v u) (hk : Same w w') : Un lo w' v u := h.kept hk (fun _ _ _ _ => id)
theorem Un.lt {lo : Nat} {w : World} {v : Value} {u : List Int} (h : Un lo w v u) (b : Nat) (hb : v.ownBlock = some b) : lo ≤ b ∧ b < w.heap.size := by
 rcases h with ⟨rfl, rfl⟩ | ⟨g, off, cap, rfl, hl, h⟩
 ·simp [Value.ownBlock] at hb
 ·have e : g = b := by simpa [Value.ownBlock] using hb
  subst e;exact ⟨hl, h.lt⟩
theorem Un.drop {lo : Nat} {w : World} {g off cap n : Nat} {u : List Int} (h : Un lo w (.slice (some ⟨g, off, none⟩) u.length cap) u) (hn : n ≤ u.length) : Un lo w (.slice (some ⟨g, off + n, none⟩) (u.length - n) (cap - n)) (u.drop n) := by
 rcases h with ⟨h, _⟩ | ⟨g', nx, vI, e, hl, h⟩
 ·simp at h
 ·simp only [Value.slice.injEq, Option.some.injEq, Addr.mk.injEq, and_true, true_and] at e
  obtain ⟨⟨rfl, rfl⟩, rfl⟩ := e;refine .inr ⟨g, off + n, cap - n, by rw [List.length_drop], hl, by rw [List.length_drop]; have := h.le; omega, by have := h.max; omega, h.lt, fun j hj => ?_, fun j hj => ?_⟩
  ·rw [Nat.add_assoc]
   exact h.there (n + j) (by omega)
  ·rw [List.length_drop] at hj
   rw [Nat.add_assoc, h.cells (n + j) (by omega)];simp [List.getD, List.getElem?_drop]
def StFrameResult.fr (y : StFrameResult) (lsn : Int) : StLogFrame := ⟨lsn, y.epoch, y.record⟩
section
variable {F : Fence} {n : Nat} {P : Program} {Q : Exit → Act → World → Prop} {a : Act} {w : World}
end
def StFrameResult.cls (x : StFrameResult) : List Value := [Q1 x.code, Q1 x.fsz, Q1 x.epoch, Q1 x.record.kind, Q1 x.record.txn, Q1 x.record.prev, Q1 x.record.page, Q1 x.record.slot, .bool x.record.before.used, x.record.before.data.v, .bool x.record.after.used, x.record.after.data.v, Q1 x.record.uN, Q1 x.record.nT, x.record.txns.v, x.record.dirty.v, x.record.image.v]
def FRs (wr wx : World) (D : Int × Int × Int × (Int × Int × Int × Int × Int × (Bool × List Int) × (Bool × List Int) × Int × Int × List Int × List Int × List Int)) (v : Value) : Prop := ∃ (Z : Nat) (y : StFrameResult), v = Q2 Z 0 ∧ y.dat = D ∧ wr.heap.size ≤ Z ∧ Blk wx Z 50 y.cls ∧ (∀ b, O6 y.rows b → wr.heap.size ≤ b ∧ ¬ b = Z) ∧ OwnL wx y.rows ∧ Same wr wx
theorem FRs.laid {wr wx : World} {Z : Nat} {y : StFrameResult} {D} {zs : List Value} (hd : y.dat = D) (hZ : wr.heap.size ≤ Z) (hb : Blk wx Z 50 zs) (Hw : zs.length = 17) (hf : ∀ b, O6 y.rows b → wr.heap.size ≤ b ∧ ¬ b = Z) (ho : OwnL wx y.rows) (hk : Same wr wx) : FRs wr (wx.setCells Z 0 y.cls) D (Q2 Z 0) := by
 have cA : Kept (fun b => b = Z) wx (wx.setCells Z 0 y.cls) := Kept.setCells (R := fun b => b = Z) (.inr rfl) _ _ kZ0;refine ⟨Z, y, rfl, hd, hZ, ?_, hf, ho.kept cA (fun b hb e => (hf b hb).2 e), hk.next cA (fun i hi e => by have e' : i = Z := e; omega)⟩;have h1 := hb.setCells y.cls 0 (by rw [Hw]; exact Nat.le_refl _)
 rwa [lay_all _ _ (by rw [Hw]; rfl)] at h1
structure Src (w : World) (B : Nat) (v : Value) (cs : List Int) (at_ : Nat) (size : Int) : Prop where
 blk : Blk w B 97 [v, Q1 at_, Q1 size]
 code : Rd .u8 w v cs
 bytes : IsB cs
 few : cs.length ≤ 1048577
 little : 0 ≤ size ∧ size ≤ 12
theorem Src.kept {R : Nat → Prop} {w w' : World} {B : Nat} {v : Value} {cs : List Int} {at_ : Nat} {size : Int} (h : Src w B v cs at_ size) (hk : Kept R w w') (hB : ¬ R B) (hv : Rd .u8 w' v cs) : Src w' B v cs at_ size :=
 ⟨h.blk.kept hk hB, hv, h.bytes, h.few, h.little⟩
theorem Src.same {w w' : World} {B : Nat} {v : Value} {cs : List Int} {at_ : Nat} {size : Int} (h : Src w B v cs at_ size) (hk : Same w w') : Src w' B v cs at_ size :=
 ⟨h.blk.same hk, h.code.same hk, h.bytes, h.few, h.little⟩
theorem jaM (v : Value) (cs : List Int) (w : World) (hb : IsB cs) (hn : cs.length ≤ 1048577) (hv : Rd .u8 w v cs) :
  Calls Tryz.prog 21 #[v] w fun e w' => ∃ B size, e = .returned (Q2 B 0) ∧ w.heap.size ≤ B ∧ Src w' B v cs 0 size ∧ Same w w' := by
 obtain ⟨a, c, rfl⟩ := hv.form
 by_cases h : 12 < (cs.length : Int) / 16
 ·go_enter Tryz.func21, Tryz.ntmps21
  go_wp2;go_ret;exact ⟨_, 12, rfl, Nat.le_refl _, ⟨Blk.new _ _ _, hv.same (kZ0.alloc _), hb, hn, by omega, by omega⟩, kZ0.alloc _⟩
 ·go_enter Tryz.func21, Tryz.ntmps21
  go_wp2;go_ret;exact ⟨_, rfl, Nat.le_refl _, ⟨_, Blk.new _ _ _, hv.same (kZ0.alloc _), hb, hn, by omega, by omega⟩, kZ0.alloc _⟩
def jee (n r : Int) : Prop := (n < 1 → r = 0) ∧ (1 ≤ n → 0 ≤ r ∧ r < n)
theorem jcU (B : Nat) (v : Value) (cs : List Int) (k : Nat) (size n : Int) (w : World) (hs : Src w B v cs k size) (hR : ∀ w', Kept (fun b => b = B) w w' → Rd .u8 w' v cs) (hk : k ≤ 1073741824) (hn : IsI n) :
  Calls Tryz.prog 23 #[Q2 B 0, Q1 n] w fun e w' => ∃ r, e = .returned (Q1 r) ∧ jee n r ∧ Src w' B v cs (k + 1) size ∧ Kept (fun b => b = B) w w' := by
 obtain ⟨a, c, rfl⟩ := hs.code.form
 have c0 : w.cell? ⟨B, 0, none⟩ = some (.slice a cs.length c) := hs.blk.cell _
 have c1 : w.cell? ⟨B, 1, none⟩ = some (Q1 k) := hs.blk.cell _
 have f1 := hs.blk.frozen 1;have ai : Kept (fun b => b = B) w (w.setCell ⟨B, 1, none⟩ (Q1 ((k : Int) + 1))) := Kept.setCell (R := fun b => b = B) kZ0 (.inr rfl) _
 have jW : Src (w.setCell ⟨B, 1, none⟩ (Q1 ((k : Int) + 1))) B (.slice a cs.length c) cs (k + 1) size :=
  ⟨by have := hs.blk.stored 1 (Q1 ((k : Int) + 1)); exact this, hR _ ai, hs.bytes, hs.few, hs.little⟩
 have HS : Hid (Src (w.setCell ⟨B, 1, none⟩ (Q1 ((k : Int) + 1))) B (.slice a cs.length c) cs (k + 1) size) := jW;have HK : Hid (Kept (fun b => b = B) w (w.setCell ⟨B, 1, none⟩ (Q1 ((k : Int) + 1)))) := ai;have Bv := hs.few;obtain ⟨mK, rB⟩ := hn;clear hs hR jW ai
 by_cases h1 : n < 1
 ·go_enter Tryz.func23, Tryz.ntmps23
  go_wp2;go_ret;exact ⟨0, rfl, ⟨fun _ => rfl, fun h => by omega⟩, HS.out, HK.out⟩
 ·by_cases h2 : cs.length = 0
  ·have e0 : ((cs.length : Nat) : Int) = 0 := by omega
   rw [h2] at c0
   go_enter Tryz.func23, Tryz.ntmps23
   go_wp2;go_ret;refine ⟨_, rfl, ⟨fun h => by omega, fun h => ⟨Int.emod_nonneg _ (by omega), Int.emod_lt_of_pos _ (by omega)⟩⟩, ?_, HK.out⟩;have := HS.out;rw [h2] at this;exact this
  ·obtain ⟨b, off, rfl, hc⟩ : ∃ b off, a = some ⟨b, off, none⟩ ∧ ∀ i, i < cs.length → (w.setCell ⟨B, 1, none⟩ (Q1 ((k : Int) + 1))).cell? ⟨b, off + i, none⟩ = some (.int .u8 (cs.getD i 0)) := by
    rcases HS.out.code.2 with ⟨ik, _⟩ | ⟨b, off, c', h, _, hc⟩
    ·rw [ik] at h2
     simp at h2
    ·cases h
     exact ⟨b, off, rfl, hc⟩
   have q1 := hc (k % cs.length) (Nat.mod_lt _ (by omega));have q2 := hc ((k + 1) % cs.length) (Nat.mod_lt _ (by omega));have x1 := HS.out.bytes.at (k % cs.length) (Nat.mod_lt _ (by omega));have x2 := HS.out.bytes.at ((k + 1) % cs.length) (Nat.mod_lt _ (by omega));clear hc
   have m1 : (k : Int) % (cs.length : Int) = ((k % cs.length : Nat) : Int) := by simp
   have m2 : ((k : Int) + 1) % (cs.length : Int) = (((k + 1) % cs.length : Nat) : Int) := by simp
   have l1 := Nat.mod_lt k (y := cs.length) (by omega);have l2 := Nat.mod_lt (k + 1) (y := cs.length) (by omega)
   have d1 : (k : Int) / (cs.length : Int) = ((k / cs.length : Nat) : Int) := by simp
   have d2 : k / cs.length ≤ k := Nat.div_le_self _ _;generalize cs.getD (k % cs.length) 0 = x at *;generalize cs.getD ((k + 1) % cs.length) 0 = y at *;generalize k % cs.length = i1 at *;generalize (k + 1) % cs.length = i2 at *;generalize k / cs.length = j1 at *;generalize hl : cs.length = len at *
   have pK : (0 : Int) < (len : Int) := by omega
   have oI : ¬ (len : Int) = 0 := by omega
   have Lz : (i1 : Int) < (len : Int) := by omega
   have Kl : (i2 : Int) < (len : Int) := by omega
   by_cases h3 : 200 < n
   ·go_enter Tryz.func23, Tryz.ntmps23
    go_wp2
    go_quiet (fail)
    go_wp2
    go_quiet (fail)
    go_wp2;go_ret;refine ⟨_, rfl, ⟨fun h => by omega, fun h => ⟨Int.emod_nonneg _ (by omega), Int.emod_lt_of_pos _ (by omega)⟩⟩, ?_, ?_⟩
    ·exact HS.out.same (kZ0.drewN _)
    ·exact HK.out.drewN _
   ·go_enter Tryz.func23, Tryz.ntmps23
    go_wp2
    go_quiet (fail)
    go_wp2;go_ret;refine ⟨_, rfl, ⟨fun h => by omega, fun h => ⟨Int.emod_nonneg _ (by omega), Int.emod_lt_of_pos _ (by omega)⟩⟩, ?_, ?_⟩
    ·exact HS.out.same (kZ0.drewN _)
    ·exact HK.out.drewN _
theorem Src.lt {w : World} {B : Nat} {v : Value} {cs : List Int} {at_ : Nat} {size : Int} (h : Src w B v cs at_ size) : B < w.heap.size := h.blk.lt
structure SrcR (w0 w : World) (B : Nat) (v : Value) (cs : List Int) (k : Nat) (size : Int) : Prop where
 src : Src w B v cs k size
 kept : Kept (fun b => b = B) w0 w
 rd : ∀ w', Kept (fun b => b = B) w0 w' → Rd .u8 w' v cs
theorem jbU (v : Value) (cs : List Int) (w : World) (hb : IsB cs) (hn : cs.length ≤ 1048577) (hv : Rd .u8 w v cs) :
  Calls Tryz.prog 21 #[v] w fun e w' => ∃ B size, e = .returned (Q2 B 0) ∧ w.heap.size ≤ B ∧ SrcR w' w' B v cs 0 size ∧ Same w w' := by
 refine (jaM v cs w hb hn hv).mono ?_;rintro e w' ⟨B, size, rfl, hB, hs, hk⟩;exact ⟨B, size, rfl, hB, ⟨hs, kZ0, fun w2 h => hv.same (hk.next h (fun i hi e => by omega))⟩, hk⟩
theorem Xd (v : Value) (cs : List Int) (w : World) (hb : IsB cs) (hn : cs.length ≤ 1048576) (hv : Rd .u8 w v cs) :
  Calls Tryz.prog 21 #[v] w fun e w' => ∃ B size, e = .returned (Q2 B 0) ∧ w.heap.size ≤ B ∧ SrcR w' w' B v cs 0 size ∧ Same w w' := jbU v cs w hb (by omega) hv
theorem Yi (r : Nat) (h : r < 63) : 1 ≤ (2 : Int) ^ r ∧ (2 : Int) ^ r ≤ 4611686018427387904 := by
 have h1 : 1 ≤ 2 ^ r := Nat.one_le_two_pow;have h2 : 2 ^ r ≤ 2 ^ 62 := Nat.pow_le_pow_right (by decide) (by omega)
 have e : ((2 ^ r : Nat) : Int) = (2 : Int) ^ r := by simp
 rw [← e];omega
theorem SrcR.lt {w0 w : World} {B : Nat} {v : Value} {cs : List Int} {k : Nat} {size : Int} (h : SrcR w0 w B v cs k size) : B < w.heap.size := h.src.lt
theorem SrcR.on {R : Nat → Prop} {w0 w w' : World} {B : Nat} {v : Value} {cs : List Int} {k : Nat} {size : Int} (h : SrcR w0 w B v cs k size) (hk : Kept R w w') (hB : ¬ R B) (hR : ∀ i, i < w0.heap.size → ¬ R i) : SrcR w0 w' B v cs k size := by
 have aQ : Kept (fun b => b = B) w0 w' := h.kept.next hk (fun i hi e => absurd e (hR i hi));exact ⟨h.src.kept hk hB (h.rd w' aQ), aQ, h.rd⟩
theorem SrcR.same {w0 w w' : World} {B : Nat} {v : Value} {cs : List Int} {k : Nat} {size : Int} (h : SrcR w0 w B v cs k size) (hk : Same w w') : SrcR w0 w' B v cs k size := h.on hk id (fun _ _ => id)
theorem Pd {w0 w : World} {B : Nat} {v : Value} {cs : List Int} {k : Nat} {size : Int} (n : Int) (h : SrcR w0 w B v cs k size) (hk : k ≤ 1073741824) (hn : IsI n) :
  Calls Tryz.prog 23 #[Q2 B 0, Q1 n] w fun e w' => ∃ r, e = .returned (Q1 r) ∧ jee n r ∧ SrcR w0 w' B v cs (k + 1) size ∧ Kept (fun b => b = B) w w' := by
 refine (jcU B v cs k size n w h.src (fun w' hw => h.rd w' (h.kept.trans hw)) hk hn).mono ?_;rintro e w' ⟨r, rfl, hd, hs, aQ⟩;exact ⟨r, rfl, hd, ⟨hs, h.kept.trans aQ, h.rd⟩, aQ⟩
theorem SA {w0 w : World} {B : Nat} {v : Value} {cs : List Int} {k : Nat} {size : Int} (n : Int) (h : SrcR w0 w B v cs k size) (hk : k ≤ 1073741824) (hn : IsI n) :
  Calls Tryz.prog 39 #[Q2 B 0, Q1 n] w fun e w' => ∃ b, e = .returned (.bool b) ∧ SrcR w0 w' B v cs (k + 1) size ∧ Kept (fun b => b = B) w w' := by
 have k0 := Pd n h hk hn;clear h
 go_enter Tryz.func39, Tryz.ntmps39
 go_wp2_with fail
 refine k0.mono ?_;rintro e w1 ⟨r, rfl, hd, hs, ah⟩;have HS := hid hs;have HK := hid ah;clear k0 hs ah;go_wp2;go_ret;exact ⟨_, rfl, HS.out, HK.out⟩
theorem TS {w0 w : World} {B : Nat} {v : Value} {cs : List Int} {k : Nat} {size : Int} (h : SrcR w0 w B v cs k size) (hk : k ≤ 1073741824) :
  Calls Tryz.prog 22 #[Q2 B 0] w fun e w' => ∃ r, e = .returned (Q1 r) ∧ 512 ≤ r ∧ r < 60512 ∧ SrcR w0 w' B v cs (k + 1) size ∧ Kept (fun b => b = B) w w' := by
 have k0 := Pd 60000 h hk (by constructor <;> decide);clear h
 go_enter Tryz.func22, Tryz.ntmps22
 go_wp2_with fail
 refine k0.mono ?_;rintro e w1 ⟨r, rfl, hd, hs, ah⟩;have HS := hid hs;have HK := hid ah;obtain ⟨du, aS⟩ := hd.2 (by decide);clear k0 hs hd ah;go_wp2;go_ret;exact ⟨_, rfl, by omega, by omega, HS.out, HK.out⟩
theorem R3 (x : Int) : 0 ≤ IntKind.u8.wrap x ∧ IntKind.u8.wrap x ≤ 255 := by
 simp [IntKind.wrap, IntKind.bits, IntKind.signed];omega
theorem Uc {w0 w : World} {B : Nat} {v : Value} {cs : List Int} {k : Nat} {size : Int} (N : Nat) (h : SrcR w0 w B v cs k size) (hk : k ≤ 1073741821) (hN : N ≤ 4096) :
  Calls Tryz.prog 95 #[Q2 B 0, Q1 (N : Int)] w fun e w' => ∃ (g : Nat) (bs : List Int), e = .returned (Q3 g N N) ∧ bs.length = N ∧ IsB bs ∧ Own w0.heap.size 5 .u8 w' (Q3 g N N) bs ∧ g ≠ B ∧ SrcR w0 w' B v cs (k + 2) size ∧ w.heap.size ≤ g ∧ Kept (fun b => b = B) w w' := by
 obtain ⟨i0, hi, b8, cE, cP⟩ := info_parts Tryz.infoByte';have k0 := Pd 256 h (by omega) (by constructor <;> decide);clear h
 go_enter Tryz.func95, Tryz.ntmps95
 go_wp2_with fail
 refine k0.mono ?_;rintro e w1 ⟨a, rfl, hd, hs, ah⟩;have aN := hid ah;have iH := hid hs;clear k0 hs ah hd
 go_wp2_with fail
 refine (Pd 5 iH.out (by omega) (by constructor <;> decide)).mono ?_;rintro e w2 ⟨b, rfl, hd, eL, aj⟩;have aO := hid (aN.out.trans aj);have fW := hid eL;have fQ := eL.kept.size;have ud := eL.lt;have MJ := aO.out.size;clear eL aj hd;obtain ⟨a', LY⟩ : ∃ x, IntKind.u8.wrap a = x := ⟨_, rfl⟩;obtain ⟨b', iu⟩ : ∃ x, IntKind.u8.wrap b = x := ⟨_, rfl⟩
 go_wp2_with (at_make; refine wpList_make_full _ rfl (.tmp 15) (.tmp 15) 22 rfl w0.heap.size 5 i0 (.int .u8 0) 1 Tryz.underlying22 hi b8 cE .i64 .i64 _ _ N rfl rfl (by simp) (by simp) (by rw [cP]; omega) (by unfold maxLen; omega) fQ ?_; intro w3 bm aV; have HO : Hid (∃ bs : List Int, bs.length = N ∧ IsB bs ∧ Own w0.heap.size 5 .u8 w3 (.slice (some ⟨w2.heap.size, 0, none⟩) N N) bs) := ⟨List.replicate N 0, List.length_replicate, fun y hy => by rw [List.eq_of_mem_replicate hy]; omega, Tc (by simpa using bm)⟩; have kY := hid (fW.out.same (Kept.of_grown aV (fun k e => by cases e))); have bo := hid (aO.out.trans ((Kept.of_grown aV (fun k e => by cases e) : Same w2 w3).mono (fun _ _ e => e.elim))); clear bm aV)
 go_loopw [8] (fun i wr => ∃ (j : Nat), j ≤ N ∧ i = Q1 (j : Int) ∧ Hid (∃ bs : List Int, bs.length = N ∧ IsB bs ∧ Own w0.heap.size 5 .u8 wr (.slice (some ⟨w2.heap.size, 0, none⟩) N N) bs) ∧ Hid (SrcR w0 wr B v cs (k + 2) size) ∧ Hid (Kept (fun b => b = B) w wr)) (fun i _ => N - (intOf i).toNat)
 case atStart => exact ⟨0, Nat.zero_le _, rfl, HO, kY, bo⟩
 case round =>
  obtain ⟨j, hj, rfl, GA, G1, uL⟩ := hrel
  by_cases bg : j < N
  ·obtain ⟨bs, eC, bk, ho⟩ := GA.out
   have hc := ho.cell eC.symm j (by omega);have hf := ho.frozen eC.symm j;have cG := hid ho;clear ho
   go_wp2_with fail
   go_roundw
   case rel =>
    refine ⟨j + 1, by omega, by go_num, ⟨_, by rw [List.length_set, eC], ?_, cG.out.stored eC.symm j _⟩, G1.out.on (Kept.setCell (R := fun b => b = w2.heap.size) kZ0 (p := ⟨w2.heap.size, j, none⟩) (.inr rfl) _) (by omega) (fun i hi => by omega), uL.out.setCell (p := ⟨w2.heap.size, j, none⟩) (.inl (by omega)) _⟩;intro y hy
    rcases List.mem_or_eq_of_mem_set hy with hy | rfl
    ·exact bk y hy
    ·exact R3 _
   case measure => simp [intOf]; omega
  ·go_wp2
   go_ret;obtain ⟨bs, eC, bk, ho⟩ := GA.out;exact ⟨w2.heap.size, bs, rfl, eC, bk, ho, by omega, G1.out, by omega, uL.out⟩
end Go.Proofs.YtapdfgkbhaoelaaGreatDoor
