import Derived.Test.YtapdfgkbhaoelaaGreatDoorRecSpecG
import Derived.Test.YtapdfgkbhaoelaaGreatDoorTables
import Derived.Test.YtapdfgkbhaoelaaGreatDoorG11
namespace Go.Proofs.YtapdfgkbhaoelaaGreatDoor
set_option maxRecDepth 100000
set_option maxHeartbeats 8000000
set_option linter.unusedVariables false
set_option linter.unusedSimpArgs false
open Go.RowKit
theorem dz (x : Int) : decide (0 = x) = (x == 0) := by
 by_cases h : x = 0
 ·subst h; rfl
 ·rw [decide_eq_false (fun e => h e.symm)]; simp [h]
theorem jaD (x : Int) : Ul x = inB x 0 31 := by
 unfold Ul inB;rw [show decide (x < 32) = decide (x ≤ 31) from decide_eq_decide.2 (by omega)]
theorem empty_eq (u : Bool) (n : Nat) : (false == u && decide (n = 0)) = Qn u n := by cases u <;> rfl
theorem len_eq (b : List Int) : decide ([] = b) = decide (b.length = 0) := by cases b <;> simp
theorem jdI {u : Bool} {n : Nat} (h : Qn u n = true) : QN u n = true ∧ u = false := by
 unfold Qn at h;simp only [Bool.and_eq_true, Bool.not_eq_true', decide_eq_true_eq] at h;obtain ⟨rfl, rfl⟩ := h;exact ⟨rfl, rfl⟩
theorem jdJ {x b : Int} (h : (x == 0) = true) (hb : 0 ≤ b) : inB x 0 b = true := by
 have e : x = 0 := by simpa using h
 subst e;simp [inB, hb]
theorem jew (k t p g s u n : Int) (bu au : Bool) (bb ab tb db ib : List Int) (tn dn : Nat) (PF : Int) (e1 : tb.length / 4 = tn) (e2 : db.length / 2 = dn) (e3 : k = 8 → PF = Pm ib g) :
  spB k bu au (inB k 1 8) (exB (decide (1 ≤ k) && decide (k ≤ 5)) (k == 1) (k == 2) (k == 7) (k == 8) (t == 0) (p == 0) (g == 0) (s == 0) (u == 0) (n == 0) (Qn bu bb.length) (Qn au ab.length) (decide (tn = 0)) (decide (dn = 0)) (decide (ib.length = 0))) (inB t 1 2147483647) (inB p 0 1099511627776) (inB g 0 15) (inB s 0 31) (QN bu bb.length) (QN au ab.length) (inB u 0 1099511627776) (inB n 1 2147483648 && PY tb tn && PE db dn) PF = Pw k t p g s bu bb au ab u n tb db ib := by
 by_cases hk : 1 ≤ k ∧ k ≤ 8
 ·have hF : ∀ {u : Bool} {n : Nat}, Qn u n = true → QN u n = true := fun h => (jdI h).1
  have tX : ∀ x, SX x = inB x 1 2147483647 := fun _ => rfl;have lX : ∀ x, QM x = inB x 0 1099511627776 := fun _ => rfl;have nX : (decide (1 ≤ n) && decide (n ≤ 2147483648)) = inB n 1 2147483648 := rfl;have qP := @jdJ p 1099511627776
  have q8 : (k == 8) = true → (if Pm ib g ≠ 0 then (9 : Int) else 0) = if (!(PF == 0)) = true then 9 else 0 := fun h => by
   rw [← e3 (by simpa using h)]
   by_cases h0 : PF = 0 <;> simp [h0]
  obtain rfl | rfl | rfl | rfl | rfl | rfl | rfl | rfl : k = 1 ∨ k = 2 ∨ k = 3 ∨ k = 4 ∨ k = 5 ∨ k = 6 ∨ k = 7 ∨ k = 8 := by omega
  all_goals
   unfold Pw spB exB;simp only [Vk, Vl, Vm, Vn, Vo, UG, UH, UI, orF, PO, Px, Zx, Zy, jbD, jbC, dz, empty_eq, len_eq, e1, e2, jaD, Xq, tX, lX, nX];have hb := @hF bu bb.length;have ha := @hF au ab.length;clear hF tX lX nX e1 e2 e3 hk
  ·rw [show inB 1 1 8 = true from rfl]
   cases xu : (u == 0)
   ·simp
   cases xn : (n == 0)
   ·simp
   cases xzt : (decide (tn = 0))
   ·simp
   cases xzd : (decide (dn = 0))
   ·simp
   cases xzi : (decide (ib.length = 0))
   ·simp
   clear qP q8;clear hb;clear ha;generalize inB t 1 2147483647 = g0;generalize inB p 0 1099511627776 = g1;generalize inB g 0 15 = g2;generalize inB s 0 31 = g3;generalize QN bu bb.length = g4;generalize QN au ab.length = g5
   cases g0 <;> cases g1 <;> cases g2 <;> cases g3 <;> cases g4 <;> cases g5 <;> cases bu <;> cases au <;> simp
  ·rw [show inB 2 1 8 = true from rfl]
   cases xeb : (Qn bu bb.length)
   ·simp
   cases xn : (n == 0)
   ·simp
   cases xzt : (decide (tn = 0))
   ·simp
   cases xzd : (decide (dn = 0))
   ·simp
   cases xzi : (decide (ib.length = 0))
   ·simp
   have hb := hb xeb;clear qP q8;clear ha;rw [hb];generalize inB t 1 2147483647 = g0;generalize inB p 0 1099511627776 = g1;generalize inB g 0 15 = g2;generalize inB s 0 31 = g3;generalize QN au ab.length = g4;generalize inB u 0 1099511627776 = g5
   cases g0 <;> cases g1 <;> cases g2 <;> cases g3 <;> cases g4 <;> cases g5 <;> simp
  ·rw [show inB 3 1 8 = true from rfl]
   cases xg : (g == 0)
   ·simp
   cases xs : (s == 0)
   ·simp
   cases xeb : (Qn bu bb.length)
   ·simp
   cases xea : (Qn au ab.length)
   ·simp
   cases xu : (u == 0)
   ·simp
   cases xn : (n == 0)
   ·simp
   cases xzt : (decide (tn = 0))
   ·simp
   cases xzd : (decide (dn = 0))
   ·simp
   cases xzi : (decide (ib.length = 0))
   ·simp
   have hb := hb xeb;have ha := ha xea;clear qP q8;rw [hb];rw [ha];generalize inB t 1 2147483647 = g0;generalize inB p 0 1099511627776 = g1
   cases g0 <;> cases g1 <;> simp
  ·rw [show inB 4 1 8 = true from rfl]
   cases xg : (g == 0)
   ·simp
   cases xs : (s == 0)
   ·simp
   cases xeb : (Qn bu bb.length)
   ·simp
   cases xea : (Qn au ab.length)
   ·simp
   cases xu : (u == 0)
   ·simp
   cases xn : (n == 0)
   ·simp
   cases xzt : (decide (tn = 0))
   ·simp
   cases xzd : (decide (dn = 0))
   ·simp
   cases xzi : (decide (ib.length = 0))
   ·simp
   have hb := hb xeb;have ha := ha xea;clear qP q8;rw [hb];rw [ha];generalize inB t 1 2147483647 = g0;generalize inB p 0 1099511627776 = g1
   cases g0 <;> cases g1 <;> simp
  ·rw [show inB 5 1 8 = true from rfl]
   cases xg : (g == 0)
   ·simp
   cases xs : (s == 0)
   ·simp
   cases xeb : (Qn bu bb.length)
   ·simp
   cases xea : (Qn au ab.length)
   ·simp
   cases xu : (u == 0)
   ·simp
   cases xn : (n == 0)
   ·simp
   cases xzt : (decide (tn = 0))
   ·simp
   cases xzd : (decide (dn = 0))
   ·simp
   cases xzi : (decide (ib.length = 0))
   ·simp
   have hb := hb xeb;have ha := ha xea;clear qP q8;rw [hb];rw [ha];generalize inB t 1 2147483647 = g0;generalize inB p 0 1099511627776 = g1
   cases g0 <;> cases g1 <;> simp
  ·rw [show inB 6 1 8 = true from rfl]
   cases xt : (t == 0)
   ·simp
   cases xp : (p == 0)
   ·simp
   cases xg : (g == 0)
   ·simp
   cases xs : (s == 0)
   ·simp
   cases xeb : (Qn bu bb.length)
   ·simp
   cases xea : (Qn au ab.length)
   ·simp
   cases xu : (u == 0)
   ·simp
   cases xn : (n == 0)
   ·simp
   cases xzt : (decide (tn = 0))
   ·simp
   cases xzd : (decide (dn = 0))
   ·simp
   cases xzi : (decide (ib.length = 0))
   ·simp
   have hb := hb xeb;have ha := ha xea;have hp := qP xp (by omega);clear qP q8;rw [hb];rw [ha];rw [hp];simp
  ·rw [show inB 7 1 8 = true from rfl]
   cases xt : (t == 0)
   ·simp
   cases xp : (p == 0)
   ·simp
   cases xg : (g == 0)
   ·simp
   cases xs : (s == 0)
   ·simp
   cases xeb : (Qn bu bb.length)
   ·simp
   cases xea : (Qn au ab.length)
   ·simp
   cases xu : (u == 0)
   ·simp
   cases xzi : (decide (ib.length = 0))
   ·simp
   have hb := hb xeb;have ha := ha xea;have hp := qP xp (by omega);clear qP q8;rw [hb];rw [ha];rw [hp];generalize inB n 1 2147483648 = g0;generalize PY tb tn = g1;generalize PE db dn = g2
   cases g0 <;> cases g1 <;> cases g2 <;> simp
  ·rw [show inB 8 1 8 = true from rfl]
   cases xt : (t == 0)
   ·simp
   cases xp : (p == 0)
   ·simp
   cases xs : (s == 0)
   ·simp
   cases xeb : (Qn bu bb.length)
   ·simp
   cases xea : (Qn au ab.length)
   ·simp
   cases xu : (u == 0)
   ·simp
   cases xn : (n == 0)
   ·simp
   cases xzt : (decide (tn = 0))
   ·simp
   cases xzd : (decide (dn = 0))
   ·simp
   have hb := hb xeb;have ha := ha xea;have hp := qP xp (by omega);clear qP;rw [q8 rfl];clear q8;generalize (PF == 0) = pz;rw [hb];rw [ha];rw [hp];generalize inB g 0 15 = g0
   cases g0 <;> cases pz <;> simp
 ·have h : ∀ i : Int, 1 ≤ i ∧ i ≤ 8 → ¬ k = i := fun i hi e => hk (by omega)
  have hi : inB k 1 8 = false := by unfold inB; by_cases h1 : 1 ≤ k <;> simp [h1]; omega
  unfold Pw spB;rw [hi, if_neg (h 1 (by omega)), if_neg (h 2 (by omega)), if_neg (h 3 (by omega)), if_neg (h 4 (by omega)), if_neg (h 5 (by omega)), if_neg (h 6 (by omega)), if_neg (h 7 (by omega)), if_neg (h 8 (by omega))];rfl
abbrev Uv : Type := Int × Int × Int × Int × Int × (Bool × List Int) × (Bool × List Int) × Int × Int × List Int × List Int × List Int
def QL (rs : List Int) (n : Nat) : List Int := rs.take n ++ List.replicate (n - rs.length) 0
def nS (rs : List Int) (n : Nat) : Int := Ps (QL rs n)
def nI (rs : List Int) (n : Nat) : Int := Ps (rs.take n)
section
variable (num : List Int → Nat → Int) (part : List Int → Nat → List Int)
def Qr (rs : List Int) : (Bool × List Int) × List Int :=
 if num rs 1 = 1 then ((true, part (rs.drop 3) (num (rs.drop 1) 2).toNat), (rs.drop 3).drop (num (rs.drop 1) 2).toNat) else ((false, []), rs.drop 1)
def txE (rs : List Int) (i : Nat) : List Int := [num (rs.drop (21 * i)) 4, num (rs.drop (21 * i + 4)) 1, num (rs.drop (21 * i + 5)) 8, num (rs.drop (21 * i + 13)) 8]
def txL (rs : List Int) (n : Nat) : List Int := (List.range n).flatMap (txE num rs)
def dyE (rs : List Int) (i : Nat) : List Int := [num (rs.drop (10 * i)) 2, num (rs.drop (10 * i + 2)) 8]
def dyL (rs : List Int) (n : Nat) : List Int := (List.range n).flatMap (dyE num rs)
def Pt (k txn prev : Int) (r : List Int) : Uv :=
 if k = 1 then (k, txn, prev, num r 2, num (r.drop 2) 2, (Qr num part (r.drop 4)).1, (Qr num part (Qr num part (r.drop 4)).2).1, 0, 0, [], [], [])
 else if k = 2 then (k, txn, prev, num r 2, num (r.drop 2) 2, (false, []), (Qr num part (r.drop 4)).1, num (Qr num part (r.drop 4)).2 8, 0, [], [], [])
 else if k = 7 then (k, txn, prev, 0, 0, (false, []), (false, []), 0, num r 4, txL num (r.drop 5) (num (r.drop 4) 1).toNat, dyL num ((r.drop 5).drop (21 * (num (r.drop 4) 1).toNat + 1)) (num ((r.drop 5).drop (21 * (num (r.drop 4) 1).toNat)) 1).toNat, [])
 else if k = 8 then (k, txn, prev, num r 2, 0, (false, []), (false, []), 0, 0, [], [], part (r.drop 2) 4096)
 else (k, txn, prev, 0, 0, (false, []), (false, []), 0, 0, [], [], [])
end
def VS (bs : List Int) : Uv := Pt nS QL (nS bs 1) (nS (bs.drop 1) 4) (nS (bs.drop 5) 8) (bs.drop 13)
def Sy (bs : List Int) : Uv := Pt nI (fun rs n => rs.take n) (nI bs 1) (if nI bs 1 ≤ 5 then nI (bs.drop 1) 4 else 0) (if nI bs 1 ≤ 5 then nI (bs.drop 5) 8 else 0) (bs.drop 13)
def SN : Uv := (0, 0, 0, 0, 0, (false, []), (false, []), 0, 0, [], [], [])
theorem Rh {f : Nat → List Int} {m : Nat} (h : ∀ i, (f i).length = m) : ∀ n, ((List.range n).flatMap f).length = m * n
 | 0 => rfl
 | n + 1 => by rw [List.range_succ, List.flatMap_append, List.length_append, Rh h n]; simp [h]; rw [Nat.mul_succ]
theorem Rd.cut {w : World} {b off c : Nat} {raw : List Int} (h : Rd .u8 w (.slice (some ⟨b, off, none⟩) raw.length c) raw) (x y : Nat) (oP : x + y ≤ raw.length) :
  Rd .u8 w (.slice (some (if c = x then ⟨b, off, none⟩ else ⟨b, off + x, none⟩)) y (c - x)) ((raw.drop x).take y) := by
 have hl : ((raw.drop x).take y).length = y := by simp; omega
 rcases h.2 with ⟨rfl, _⟩ | ⟨b', nx, c', he, ji, hc⟩
 ·simp at oP
  obtain ⟨rfl, rfl⟩ := oP;exact ⟨by simp, .inl ⟨by simp, _, _, rfl, fun h => by cases h⟩⟩
 ·injection he with h1 h2 h3
  injection h1 with h1
  injection h1 with h1 h4
  subst h1 h4 h3
  by_cases h0 : y = 0
  ·subst h0
   exact ⟨by rw [hl]; simp, .inl ⟨by simp, _, _, rfl, fun h => by cases h⟩⟩
  ·rw [if_neg (by omega)]
   refine ⟨by have := h.1; omega, .inr ⟨b, off + x, c - x, by rw [hl], by omega, fun i hi => ?_⟩⟩;rw [hl] at hi;rw [Nat.add_assoc, hc (x + i) (by omega)];simp [List.getD, List.getElem?_take, List.getElem?_drop, hi]
theorem Rd.part {k : IntKind} {w : World} {b off n c : Nat} {bs : List Int} (h : ∀ i, i < bs.length → w.cell? ⟨b, off + i, none⟩ = some (.int k (bs.getD i 0))) (lo m : Nat) (hm : lo + m ≤ bs.length) (hn : n = m) (hc : m ≤ c) (g7 : m ≤ maxLen) :
  Rd k w (.slice (some ⟨b, off + lo, none⟩) n c) ((bs.drop lo).take m) := by
 have hl : ((bs.drop lo).take m).length = m := by simp; omega
 refine ⟨by omega, .inr ⟨b, off + lo, c, by rw [hn, hl], by rw [hl]; exact hc, fun i hi => ?_⟩⟩;rw [hl] at hi;have h1 := h (lo + i) (by omega);rw [← Nat.add_assoc] at h1;rw [h1];simp [List.getD, hi]
structure RI (wx : World) (B0 P : Nat) (rs : List Int) : Prop where
 at_ : ∃ v, Blk wx P 118 [v] ∧ ∀ wy, Kept (fun b => B0 ≤ b) wx wy → Rd .u8 wy v rs
 le : B0 ≤ P
theorem RI.keep {F : Nat → Prop} {wx wy : World} {B0 P : Nat} {rs : List Int} (h : RI wx B0 P rs) (hk : Kept F wx wy) (hP : ¬ F P) (hF : ∀ b, b < wx.heap.size → F b → B0 ≤ b) : RI wy B0 P rs := by
 obtain ⟨⟨v, h1, h2⟩, h3⟩ := h;exact ⟨⟨v, h1.kept hk hP, fun wz hz => h2 wz ((hk.mono hF).trans hz)⟩, h3⟩
theorem RI.same {wx wy : World} {B0 P : Nat} {rs : List Int} (h : RI wx B0 P rs) (hk : Same wx wy) : RI wy B0 P rs := h.keep hk id (fun _ _ e => e.elim)
theorem RI.lt {wx : World} {B0 P : Nat} {rs : List Int} (h : RI wx B0 P rs) : P < wx.heap.size := by
 obtain ⟨⟨v, h1, h2⟩, h3⟩ := h;exact h1.lt
theorem Rd.headP {w : World} {b off c : Nat} {raw : List Int} (h : Rd .u8 w (.slice (some ⟨b, off, none⟩) raw.length c) raw) (m : Nat) (hm : m ≤ raw.length) : Rd .u8 w (.slice (some ⟨b, off, none⟩) m c) (raw.take m) := by
 have h1 := h.cut 0 m (by omega)
 have e : (if c = 0 then (⟨b, off, none⟩ : Addr) else ⟨b, off + 0, none⟩) = ⟨b, off, none⟩ := by split <;> rfl
 rw [e] at h1;exact h1
theorem Rd.restP {w : World} {b off c : Nat} {raw : List Int} (h : Rd .u8 w (.slice (some ⟨b, off, none⟩) raw.length c) raw) (m k o k2 : Nat) (hm : m ≤ raw.length) (hk : k = raw.length - m) (ho : o = if c = m then off else off + m) (h2 : k2 = c - m) : Rd .u8 w (.slice (some ⟨b, o, none⟩) k k2) (raw.drop m) := by
 have h1 := h.cut m (raw.length - m) (by omega);rw [List.take_of_length_le (by rw [List.length_drop]; omega)] at h1
 have e : (if c = m then (⟨b, off, none⟩ : Addr) else ⟨b, off + m, none⟩) = ⟨b, o, none⟩ := by rw [ho]; split <;> rfl
 rw [e, ← hk, ← h2] at h1;exact h1
theorem YP {w : World} {B0 P : Nat} {rs : List Int} (n : Int) (hn : -1 ≤ n ∧ n ≤ 65536) (hl : rs.length ≤ 1099511627776) (h : RI w B0 P rs) :
  Calls Tryz.prog 66 #[Q2 P 0, Q1 n] w fun e w' => ∃ a c, e = .returned (.slice a (rs.take n.toNat).length c) ∧ (∀ wy, Kept (fun b => B0 ≤ b) w' wy → Rd .u8 wy (.slice a (rs.take n.toNat).length c) (rs.take n.toNat)) ∧ RI w' B0 P (rs.drop n.toNat) ∧ Kept (fun b => b = P) w w' := by
 obtain ⟨⟨v, h1, h2⟩, h3⟩ := h;have cQ : ∀ x, Kept (fun b => b = P) w (w.setCell ⟨P, 0, none⟩ x) := fun x => (Kept.refl (fun b => b = P) w).setCell (p := ⟨P, 0, none⟩) (.inr rfl) _
 have Iy : ∀ x wy, Kept (fun b => B0 ≤ b) (w.setCell ⟨P, 0, none⟩ x) wy → Kept (fun b => B0 ≤ b) w wy := fun x wy hy => ((cQ x).mono (fun b _ e => by omega)).trans hy
 have ju := hid cQ;have fD := hid Iy;have HB := hid h1;have c0 := h1.c0;have fb := h1.frozen;have bg := h1.lt;obtain ⟨m, hm⟩ : ∃ m : Nat, min n.toNat rs.length = m := ⟨_, rfl⟩
 have i6 : m ≤ rs.length := by omega
 have e1 : rs.take n.toNat = rs.take m := by rw [← hm, List.take_eq_take_iff]; omega
 have e2 : rs.drop n.toNat = rs.drop m := by rw [← hm]; by_cases h : n.toNat ≤ rs.length; rw [Nat.min_eq_left h]; rw [Nat.min_eq_right (by omega), List.drop_length, List.drop_eq_nil_of_le (by omega)]
 have el : (rs.take m).length = m := by rw [List.length_take]; omega
 rw [e1, e2, el];have HV := hid h2;clear cQ h1 h2 Iy e1 e2 el
 rcases (HV.out w kZ0).2 with ⟨rfl, a, c, rfl, ml⟩ | ⟨b, off, c, rfl, ji, hx⟩
 ·obtain rfl : m = 0 := by simpa using i6
  have tf : max 0 (min n 0) = 0 := by omega
  rcases a with _ | a
  ·obtain rfl : c = 0 := by first | exact ml rfl | simpa using ml
   go_enter Tryz.func66, Tryz.ntmps66
   go_wp2
   all_goals refine bodyPost_ret (v := Q4) (by simp [results, Tryz.results66, go_sem]) rfl ⟨_, _, rfl, fun wy hy => ?_, ⟨⟨_, HB.out.stored 0 _, fun wy hy => ?_⟩, h3⟩, ju.out _⟩
   all_goals exact HV.out wy (fD.out _ wy hy)
  ·go_enter Tryz.func66, Tryz.ntmps66
   go_wp2
   all_goals refine bodyPost_ret (v := .slice (some a) 0 c) (by simp [results, Tryz.results66, go_sem]) rfl ⟨_, _, rfl, fun wy hy => ?_, ⟨⟨_, HB.out.stored 0 _, fun wy hy => ?_⟩, h3⟩, ju.out _⟩
   all_goals exact HV.out wy (fD.out _ wy hy)
 ·clear hx
  by_cases tf : n < 0
  ·obtain rfl : m = 0 := by omega
   go_enter Tryz.func66, Tryz.ntmps66
   go_wp2
   all_goals refine bodyPost_ret (v := .slice (some ⟨b, off, none⟩) 0 c) (by simp [results, Tryz.results66, go_sem]) rfl ⟨_, _, rfl, fun wy hy => (HV.out wy (fD.out _ wy hy)).headP 0 (by omega), ⟨⟨_, HB.out.stored 0 _, fun wy hy => HV.out wy (fD.out _ wy hy)⟩, h3⟩, ju.out _⟩
  by_cases yM : m = 0
  ·subst yM
   have hz : max 0 (min n rs.length) = 0 := by omega
   go_enter Tryz.func66, Tryz.ntmps66
   go_wp2
   all_goals refine bodyPost_ret (v := .slice (some ⟨b, off, none⟩) 0 c) (by simp [results, Tryz.results66, go_sem]) rfl ⟨_, _, rfl, fun wy hy => (HV.out wy (fD.out _ wy hy)).headP 0 (by omega), ⟨⟨_, HB.out.stored 0 _, fun wy hy => ?_⟩, h3⟩, ju.out _⟩
   all_goals exact HV.out wy (fD.out _ wy hy)
  by_cases mK : n ≤ rs.length
  ·obtain rfl : n = (m : Int) := by omega
   by_cases hcm : c = m
   ·subst hcm
    go_enter Tryz.func66, Tryz.ntmps66
    go_wp2;refine bodyPost_ret (v := .slice (some ⟨b, off, none⟩) c c) (by simp [results, Tryz.results66, go_sem]) rfl ⟨_, _, rfl, fun wy hy => (HV.out wy (fD.out _ wy hy)).headP c i6, ⟨⟨_, HB.out.stored 0 _, fun wy hy => ?_⟩, h3⟩, ju.out _⟩;exact (HV.out wy (fD.out _ wy hy)).restP c _ _ _ i6 (by omega) (by split <;> omega) (by omega)
   ·have BV : ¬ m = c := fun e => hcm e.symm
    go_enter Tryz.func66, Tryz.ntmps66
    go_wp2;refine bodyPost_ret (v := .slice (some ⟨b, off, none⟩) m c) (by simp [results, Tryz.results66, go_sem]) rfl ⟨_, _, rfl, fun wy hy => (HV.out wy (fD.out _ wy hy)).headP m i6, ⟨⟨_, HB.out.stored 0 _, fun wy hy => ?_⟩, h3⟩, ju.out _⟩;exact (HV.out wy (fD.out _ wy hy)).restP m _ _ _ i6 (by omega) (by split <;> omega) (by omega)
  ·have C2 : m = rs.length := by omega
   have MG : (rs.length : Int) < n := by omega
   rw [← C2] at MG;clear mK;obtain ⟨L, hL⟩ : ∃ L, rs.length = L := ⟨_, rfl⟩;rw [hL] at C2 c0 HB ji;subst C2
   by_cases hcm : c = m
   ·subst hcm
    go_enter Tryz.func66, Tryz.ntmps66
    go_wp2;refine bodyPost_ret (v := .slice (some ⟨b, off, none⟩) c c) (by simp [results, Tryz.results66, go_sem]) rfl ⟨_, _, rfl, fun wy hy => (HV.out wy (fD.out _ wy hy)).headP c i6, ⟨⟨_, HB.out.stored 0 _, fun wy hy => ?_⟩, h3⟩, ju.out _⟩;exact (HV.out wy (fD.out _ wy hy)).restP c _ _ _ i6 (by omega) (by split <;> omega) (by omega)
   ·have BV : ¬ m = c := fun e => hcm e.symm
    go_enter Tryz.func66, Tryz.ntmps66
    go_wp2;refine bodyPost_ret (v := .slice (some ⟨b, off, none⟩) m c) (by simp [results, Tryz.results66, go_sem]) rfl ⟨_, _, rfl, fun wy hy => (HV.out wy (fD.out _ wy hy)).headP m i6, ⟨⟨_, HB.out.stored 0 _, fun wy hy => ?_⟩, h3⟩, ju.out _⟩;exact (HV.out wy (fD.out _ wy hy)).restP m _ _ _ i6 (by omega) (by split <;> omega) (by omega)
theorem RI.isB {wx : World} {B0 P : Nat} {rs : List Int} (hB : IsB rs) (n : Nat) : IsB (rs.take n) ∧ IsB (rs.drop n) := ⟨fun y hy => hB y (List.mem_of_mem_take hy), fun y hy => hB y (List.mem_of_mem_drop hy)⟩
theorem PZ {w : World} {B0 P : Nat} {rs : List Int} (n : Nat) (hn : n ≤ 8) (hB : IsB rs) (hl : rs.length ≤ 1099511627776) (h : RI w B0 P rs) :
  Calls Tryz.prog 61 #[Q2 P 0, Q1 n] w fun e w' => e = .returned (Q1 (nI rs n)) ∧ RI w' B0 P (rs.drop n) ∧ Kept (fun b => b = P) w w' := by
 have k1 := YP (n : Int) (by omega) hl h;rw [Int.toNat_natCast] at k1
 go_enter Tryz.func61, Tryz.ntmps61
 go_wp2_with fail
 refine k1.mono ?_;rintro e w1 ⟨a, c, rfl, hv, hr, hk⟩;clear k1;generalize Value.slice a (rs.take n).length c = V at hv ⊢;have HV := hid hv;have HR := hid hr;have HK := hid hk;clear hv hr hk h
 go_wp2_with fail
 refine (Rw _ (rs.take n) w1 (fun y hy => hB y (List.mem_of_mem_take hy)) (by rw [List.length_take]; omega) (HV.out w1 kZ0)).mono ?_;rintro e w2 ⟨rfl, aj⟩;have aO := hid aj;clear aj
 go_wp2_with fail
 exact bodyPost_ret (v := Q1 (nI rs n)) (by simp [results, Tryz.results61, go_sem, nI]) rfl ⟨rfl, HR.out.same aO.out, HK.out.next aO.out (fun _ _ e => e.elim)⟩
theorem ZI {w : World} {B0 P : Nat} {rs : List Int} (hB : IsB rs) (hl : rs.length ≤ 1099511627776) (h : RI w B0 P rs) :
  Calls Tryz.prog 62 #[Q2 P 0] w fun e w' => e = .returned (.agg #[Q1 (nI rs 2), Q1 (nI (rs.drop 2) 2)]) ∧ RI w' B0 P (rs.drop 4) ∧ Kept (fun b => b = P) w w' := by
 have Av := h.lt;have aW : Same w (w.alloc (.cells #[Q1 0, Q1 0] 102)) := kZ0.alloc _;have dO := hid (Blk.newL w [Q1 0, Q1 0] 102);have aP := hid aW;have H0 := hid (h.same aW)
 have er : ¬ w.heap.size = P := by omega
 clear h aW
 go_enter Tryz.func62, Tryz.ntmps62
 go_wp2_with fail
 refine (PZ 2 (by omega) hB hl H0.out).mono ?_;rintro e w1 ⟨rfl, du, ah⟩;have bQ := hid (dO.out.kept ah er);have dU := hid du;have aN : Hid (Kept (fun b => b = P) w w1) := (aP.out.mono (fun _ _ e => e.elim)).trans ah;clear du ah H0 aP dO
 go_wp2_with fail
 refine (PZ 2 (by omega) (fun y hy => hB y (List.mem_of_mem_drop hy)) (by rw [List.length_drop]; omega) dU.out).mono ?_;rintro e w2 ⟨rfl, aS, aj⟩;have eI := hid (bQ.out.kept aj er);have gi := hid aS;have aO := hid (aN.out.trans aj);clear aS aj bQ dU aN;obtain ⟨c0, c1⟩ := eI.out.all2;have fb := eI.out.frozen;obtain ⟨x, hx⟩ : ∃ x, nI rs 2 = x := ⟨_, rfl⟩;obtain ⟨y, hy⟩ : ∃ x, nI (rs.drop 2) 2 = x := ⟨_, rfl⟩;rw [hx, hy];have cQ : Kept (fun b => b = w.heap.size) w2 ((w2.setCell ⟨w.heap.size, 0, none⟩ (Q1 x)).setCell ⟨w.heap.size, 1, none⟩ (Q1 y)) := ((Kept.refl (fun b => b = w.heap.size) w2).setCell (.inr rfl) _).setCell (.inr rfl) _;have ju := hid cQ;have ji := gi.out.le;have HX := hid hx;have HY := hid hy;clear cQ hx hy
 go_wp2_with fail
 refine bodyPost_ret (v := .agg #[Q1 x, Q1 y]) (by simp [results, Tryz.results62, go_sem, c0, c1]) rfl ⟨by rw [HX.out, HY.out], ?_, ?_⟩
 ·have h := gi.out.keep ju.out (fun e => er e.symm) (fun b _ e => by have := aO.out.size; omega)
  rw [List.drop_drop] at h;exact h
 ·exact aO.out.next ju.out (fun i hi e => by omega)
theorem jcI {rs : List Int} (hB : IsB rs) : -1 ≤ nI rs 2 ∧ nI rs 2 ≤ 65535 := by
 have hb : IsB (rs.take 2) := fun x hx => hB x (List.mem_of_mem_take hx)
 have hl : (rs.take 2).length ≤ 2 := by rw [List.length_take]; omega
 unfold nI
 match hm : rs.take 2, hl with
 | [], _ => unfold Ps; simp
 | [a], _ =>
  have ha := hb a (by rw [hm]; simp)
  have hn : num [a] = a := by simp [num]
  unfold Ps;rw [hn, if_neg (by simp only [List.length_cons, List.length_nil]; omega)];omega
 | [a, b], _ =>
  have ha := hb a (by rw [hm]; simp);have iu := hb b (by rw [hm]; simp)
  have hn : num [a, b] = a * 256 + b := by simp [num]
  unfold Ps;rw [hn, if_neg (by simp only [List.length_cons, List.length_nil]; omega)];omega
theorem YQ {rs : List Int} (hB : IsB rs) : -1 ≤ nI rs 1 ∧ nI rs 1 ≤ 255 := by
 have hb : IsB (rs.take 1) := fun x hx => hB x (List.mem_of_mem_take hx)
 have hl : (rs.take 1).length ≤ 1 := by rw [List.length_take]; omega
 unfold nI
 match hm : rs.take 1, hl with
 | [], _ => unfold Ps; simp
 | [a], _ =>
  have ha := hb a (by rw [hm]; simp)
  have hn : num [a] = a := by simp [num]
  unfold Ps;rw [hn, if_neg (by simp only [List.length_cons, List.length_nil]; omega)];omega
def slI (rs : List Int) : (Bool × List Int) × List Int := Qr nI (fun rs n => rs.take n) rs
theorem IsB.dropI {xs : List Int} (n : Nat) (h : IsB xs) : IsB (xs.drop n) := fun x hx => h x (List.mem_of_mem_drop hx)
theorem Vs {rs : List Int} (h : IsB rs) : IsB (slI rs).1.2 ∧ IsB (slI rs).2 ∧ (slI rs).1.2.length ≤ 65535 ∧ (slI rs).2.length ≤ rs.length := by
 unfold slI Qr
 split
 ·have h2 := jcI (h.dropI 1)
  refine ⟨fun x hx => h.dropI 3 x (List.mem_of_mem_take hx), (h.dropI 3).dropI _, ?_, ?_⟩
  ·simp only [List.length_take]; omega
  ·simp only [List.length_drop]; omega
 ·exact ⟨fun x hx => by simp at hx, h.dropI 1, by simp, by simp only [List.length_drop]; omega⟩
def Low (B0 : Nat) (w : World) (v : Value) (bs : List Int) : Prop := ∀ wy, Kept (fun b => B0 ≤ b) w wy → Rd .u8 wy v bs
theorem Low.keep {F : Nat → Prop} {B0 : Nat} {w wy : World} {v : Value} {bs : List Int} (h : Low B0 w v bs) (hk : Kept F w wy) (hF : ∀ b, b < w.heap.size → F b → B0 ≤ b) : Low B0 wy v bs := fun wz hz => h wz ((hk.mono hF).trans hz)
theorem Low.rd {B0 : Nat} {w : World} {v : Value} {bs : List Int} (h : Low B0 w v bs) : Rd .u8 w v bs := h w kZ0
theorem YR {w : World} {B0 P : Nat} {rs : List Int} (hB : IsB rs) (hl : rs.length ≤ 1099511627776) (eT : B0 ≤ w.heap.size) (h : RI w B0 P rs) :
  Calls Tryz.prog 63 #[Q2 P 0] w fun e w' => ∃ y : StPageRecord, e = .returned y.val ∧ y.dat = (slI rs).1 ∧ Low B0 w' y.data.v y.data.bs ∧ RI w' B0 P (slI rs).2 ∧ Kept (fun b => b = P) w w' := by
 have Av := h.lt;have qh := h.le;have aW : Same w (w.alloc (.cells #[.bool false, Q4] 24)) := kZ0.alloc _;have dO := hid (Blk.newL w [.bool false, Q4] 24);have aP := hid aW;have H0 := hid (h.same aW);clear h aW
 go_enter Tryz.func63, Tryz.ntmps63
 go_wp2_with fail
 refine (PZ 1 (by omega) hB hl H0.out).mono ?_;rintro e w1 ⟨rfl, du, ah⟩
 have er : ¬ w.heap.size = P := by omega
 have bQ := hid (dO.out.kept ah er);have dU := hid du;have aN : Hid (Kept (fun b => b = P) w w1) := (aP.out.mono (fun _ _ e => e.elim)).trans ah;obtain ⟨x, hx⟩ : ∃ x, nI rs 1 = x := ⟨_, rfl⟩;rw [hx];clear du ah H0 aP dO
 by_cases h1 : x = 1
 ·subst h1
  obtain ⟨n, hn⟩ : ∃ n, nI (rs.drop 1) 2 = n := ⟨_, rfl⟩;have wI := jcI (hB.dropI 1);have HE := (show Hid (slI rs = ((true, (rs.drop 3).take n.toNat), (rs.drop 3).drop n.toNat)) from by unfold Hid slI Qr; rw [if_pos hx, hn]);have k2 := PZ 2 (by omega) (hB.dropI 1) (by rw [List.length_drop]; omega) dU.out;rw [hn, List.drop_drop] at k2;rw [hn] at wI;clear hx hn
  go_wp2_with fail
  refine k2.mono ?_;rintro e w2 ⟨rfl, aS, aj⟩;have eI := hid (bQ.out.kept aj er);have gi := hid aS;have aO := hid (aN.out.trans aj);clear aS aj k2 bQ dU aN
  go_wp2_with fail
  refine (YP n ⟨wI.1, by omega⟩ (by rw [List.length_drop]; omega) gi.out).mono ?_;rintro e w3 ⟨a, c, rfl, sC, nP, aZ⟩;obtain ⟨db, IW⟩ : ∃ x, (rs.drop 3).take n.toNat = x := ⟨_, rfl⟩;rw [IW] at HE sC ⊢;have dJ := eI.out.lt;have lU := hid (eI.out.kept aZ er);have cQ : Kept (fun b => b = w.heap.size) w3 ((w3.setCell ⟨w.heap.size, 0, none⟩ (.bool true)).setCell ⟨w.heap.size, 1, none⟩ (.slice a db.length c)) := ((Kept.refl (fun b => b = w.heap.size) w3).setCell (p := ⟨w.heap.size, 0, none⟩) (.inr rfl) _).setCell (p := ⟨w.heap.size, 1, none⟩) (.inr rfl) _;have Ln : Hid (Low B0 ((w3.setCell ⟨w.heap.size, 0, none⟩ (.bool true)).setCell ⟨w.heap.size, 1, none⟩ (.slice a db.length c)) (.slice a db.length c) db) := Low.keep sC cQ (fun b _ e => by omega);have gC : Hid (RI ((w3.setCell ⟨w.heap.size, 0, none⟩ (.bool true)).setCell ⟨w.heap.size, 1, none⟩ (.slice a db.length c)) B0 P ((rs.drop 3).drop n.toNat)) := nP.keep cQ (fun e => er e.symm) (fun b _ e => by omega);have bp := hid ((aO.out.trans aZ).next cQ (fun i hi e => by omega));obtain ⟨c0, c1⟩ := lU.out.all2;have fb := lU.out.frozen;clear sC nP aZ cQ lU eI gi aO IW
  go_wp2_with fail
  refine bodyPost_ret (v := .agg #[.bool true, .slice a db.length c]) (by simp [results, Tryz.results63, go_sem, c0, c1]) rfl ?_;rw [HE.out];exact ⟨⟨true, ⟨5, a, c, db⟩⟩, rfl, rfl, Ln.out, gC.out, bp.out⟩
 ·have t7 : (x != 1) = true := bne_iff_ne.2 h1
  have HE : Hid (slI rs = ((false, []), rs.drop 1)) := if_neg (by rw [hx]; exact h1);obtain ⟨c0, c1⟩ := bQ.out.all2;have fb := bQ.out.frozen;have cQ : ∀ v0 v1, Kept (fun b => b = w.heap.size) w1 ((w1.setCell ⟨w.heap.size, 0, none⟩ v0).setCell ⟨w.heap.size, 1, none⟩ v1) := fun _ _ => ((Kept.refl (fun b => b = w.heap.size) w1).setCell (.inr rfl) _).setCell (.inr rfl) _;have ju := hid cQ;clear cQ hx
  go_wp2_with fail
  refine bodyPost_ret (v := .agg #[.bool false, Q4]) (by simp [results, Tryz.results63, go_sem, c0, c1]) rfl ?_;rw [HE.out];refine ⟨⟨false, ⟨0, none, 0, []⟩⟩, rfl, rfl, fun wy hy => (Own.nil 0 0 .u8 wy).rd, ?_, ?_⟩
  ·first
   | exact dU.out
   | exact dU.out.keep (ju.out (.bool false) (.slice none 0 0)) (fun e => er e.symm) (fun b _ e => by omega)
  ·first | exact aN.out | exact aN.out.next (ju.out _ _) (fun i hi e => by omega)
theorem jbG {e : TypeId} {w : World} {g n c : Nat} {bs : List Int} {x y z u : Int} (h : w.ownsRow 0 e 4 (Q3 g n c) n (vals .i64 bs ++ [Q1 x, Q1 y, Q1 z, Q1 u])) : OwnL w (FR.rows 4 ⟨e, some ⟨g, 0, none⟩, n, c, bs ++ [x, y, z, u]⟩) :=
 OwnF.out (by
  have e1 : vals .i64 bs ++ [Q1 x, Q1 y, Q1 z, Q1 u] = vals .i64 (bs ++ [x, y, z, u]) := by simp [vals]
  rw [e1] at h
  exact h)
theorem jbH {e : TypeId} {w : World} {g n c : Nat} {bs : List Int} {x y : Int} (h : w.ownsRow 0 e 2 (Q3 g n c) n (vals .i64 bs ++ [Q1 x, Q1 y])) : OwnL w (FR.rows 2 ⟨e, some ⟨g, 0, none⟩, n, c, bs ++ [x, y]⟩) :=
 OwnF.out (by
  have e1 : vals .i64 bs ++ [Q1 x, Q1 y] = vals .i64 (bs ++ [x, y]) := by simp [vals]
  rw [e1] at h
  exact h)
theorem jbI (num : List Int → Nat → Int) (r : List Int) (j : Nat) : txL num r (j + 1) = txL num r j ++ txE num r j := by unfold txL; rw [List.range_succ, List.flatMap_append]; simp
theorem jbJ (num : List Int → Nat → Int) (r : List Int) (j : Nat) : dyL num r (j + 1) = dyL num r j ++ dyE num r j := by unfold dyL; rw [List.range_succ, List.flatMap_append]; simp
theorem RH (m : Nat) (e : TypeId) (w : World) : OwnL w (FR.rows m ⟨e, none, 0, 0, []⟩) :=
 ⟨fun r hr => by rw [List.mem_singleton.1 hr]; exact ⟨by simp [vals], .inl ⟨rfl, rfl⟩⟩, List.pairwise_singleton _ _⟩
theorem ZJ : (Tryz.prog.info? 79).map (fun i => (i.zero, i.size, i.bytes)) = some (some (.agg #[Q1 0, Q1 0, Q1 0, Q1 0]), 4, 32) := by kernel_rfl
theorem WW : (Tryz.prog.info? 81).map (fun i => (i.zero, i.size, i.bytes)) = some (some (.agg #[Q1 0, Q1 0]), 2, 16) := by kernel_rfl
theorem jdK {w : World} {B0 P : Nat} {rs : List Int} (hB : IsB rs) (hl : rs.length ≤ 1099511627776) (eT : B0 ≤ w.heap.size) (h : RI w B0 P rs) :
  Calls Tryz.prog 64 #[Q2 P 0] w fun e w' => ∃ a n c, e = .returned (.slice a n c) ∧ n = (nI rs 1).toNat ∧ OwnL w' (FR.rows 4 ⟨79, a, n, c, txL nI (rs.drop 1) n⟩) ∧ (∀ b, (Value.slice a n c).ownBlock = some b → w.heap.size ≤ b) ∧ RI w' B0 P ((rs.drop 1).drop (21 * n)) ∧ Kept (fun b => b = P) w w' := by
 have Av := h.lt;have qh := h.le;have k1 := PZ 1 (by omega) hB hl h;obtain ⟨i0, hi, cE, cP, oS⟩ := info_parts ZJ;have hx := YQ hB;obtain ⟨x, qk⟩ : ∃ x, nI rs 1 = x := ⟨_, rfl⟩;rw [qk] at hx k1 ⊢;obtain ⟨N, hN⟩ : ∃ N, x.toNat = N := ⟨_, rfl⟩;have Ly := hid hN
 have JR : N ≤ 255 := by omega
 have nU : ∀ j : Nat, (j : Int) < x ↔ j < N := fun j => by omega
 have vM := hid nU;obtain ⟨r1, hr⟩ : ∃ r1, rs.drop 1 = r1 := ⟨_, rfl⟩;have bQ : Hid (IsB r1) := hr ▸ hB.dropI 1
 have oI : r1.length ≤ 1099511627776 := by rw [← hr, List.length_drop]; omega
 rw [hr] at k1 ⊢;rw [hN];clear qk hN hr hB hl nU h
 go_enter Tryz.func64, Tryz.ntmps64
 go_wp2_with fail
 refine k1.mono ?_;rintro e w1 ⟨rfl, du, ah⟩;have dU := hid du;have aN := hid ah;clear du ah k1
 go_wp2_with fail
 go_loopw [3, 6] (fun sv iv wr => ∃ (j : Nat) (a : Option Addr) (c : Nat), j ≤ N ∧ sv = .slice a j c ∧ iv = Q1 j ∧ Hid (OwnL wr (FR.rows 4 ⟨79, a, j, c, txL nI r1 j⟩)) ∧ Hid (∀ b, (Value.slice a j c).ownBlock = some b → w.heap.size ≤ b) ∧ Hid (RI wr B0 P (r1.drop (21 * j))) ∧ Hid (Kept (fun b => b = P) w wr)) (fun _ iv _ => N - (intOf iv).toNat)
 case atStart => exact ⟨0, none, 0, Nat.zero_le _, rfl, rfl, RH _ _ _, fun b hb => by simp [Value.ownBlock] at hb, dU, aN⟩
 case round =>
  obtain ⟨j, a, c, hj, rfl, rfl, HO, HF, HR, HK⟩ := hrel;have l5 := hx
  by_cases bg : j < N
  ·have Bw : (j : Int) < x := (vM.out j).2 bg
   clear hx
   go_wp2_with fail
   refine (PZ 4 (by omega) (bQ.out.dropI _) (by simp only [List.length_drop]; omega) HR.out).mono ?_;rintro e v0 ⟨rfl, aS, aj⟩;obtain ⟨y0, fI⟩ : ∃ y, nI (r1.drop (21 * j)) 4 = y := ⟨_, rfl⟩;rw [fI];have vf := (show Hid (RI v0 B0 P ((r1.drop (21 * j)).drop 4)) from by have h := aS; simp only [List.drop_drop] at h ⊢; exact h);have aP := hid (HK.out.trans aj);have jE := hid (HO.out.kept aj (fun b hb e => by have := HF.out b ((PD _ _).1 hb); omega));clear aS aj HR HK HO
   go_wp2_with fail
   refine (PZ 1 (by omega) ((bQ.out.dropI _).dropI _) (by simp only [List.length_drop]; omega) vf.out).mono ?_;rintro e v1 ⟨rfl, aS, aj⟩;obtain ⟨y1, dM⟩ : ∃ y, nI ((r1.drop (21 * j)).drop 4) 1 = y := ⟨_, rfl⟩;rw [dM];have dU := (show Hid (RI v1 B0 P ((r1.drop (21 * j)).drop 5)) from by have h := aS; simp only [List.drop_drop] at h ⊢; exact h);have aN := hid (aP.out.trans aj);have dS := hid (jE.out.kept aj (fun b hb e => by have := HF.out b ((PD _ _).1 hb); omega));clear aS aj vf aP jE
   go_wp2_with fail
   refine (PZ 8 (by omega) ((bQ.out.dropI _).dropI _) (by simp only [List.length_drop]; omega) dU.out).mono ?_;rintro e v2 ⟨rfl, aS, aj⟩;obtain ⟨y2, mh⟩ : ∃ y, nI ((r1.drop (21 * j)).drop 5) 8 = y := ⟨_, rfl⟩;rw [mh];have gi := (show Hid (RI v2 B0 P ((r1.drop (21 * j)).drop 13)) from by have h := aS; simp only [List.drop_drop] at h ⊢; exact h);have aO := hid (aN.out.trans aj);have cG := hid (dS.out.kept aj (fun b hb e => by have := HF.out b ((PD _ _).1 hb); omega));clear aS aj dU aN dS
   go_wp2_with fail
   refine (PZ 8 (by omega) ((bQ.out.dropI _).dropI _) (by simp only [List.length_drop]; omega) gi.out).mono ?_;rintro e v3 ⟨rfl, aS, aj⟩;obtain ⟨y3, uP⟩ : ∃ y, nI ((r1.drop (21 * j)).drop 13) 8 = y := ⟨_, rfl⟩;rw [uP];have s8 := (show Hid (RI v3 B0 P ((r1.drop (21 * j)).drop 21)) from by have h := aS; simp only [List.drop_drop] at h ⊢; exact h);have bo := hid (aO.out.trans aj);have cI := hid (cG.out.kept aj (fun b hb e => by have := HF.out b ((PD _ _).1 hb); omega));clear aS aj gi aO cG;have HA : Hid (Same v3 (v3.alloc (.cells #[Q1 y0, Q1 y1, Q1 y2, Q1 y3] 79))) := kZ0.alloc _;have m5 := hid ((cI.out.same HA.out).1 _ (List.mem_singleton.2 rfl));have kx : Hid (Blk (v3.alloc (.cells #[Q1 y0, Q1 y1, Q1 y2, Q1 y3] 79)) v3.heap.size 79 [Q1 y0, Q1 y1, Q1 y2, Q1 y3]) := Blk.newL v3 [Q1 y0, Q1 y1, Q1 y2, Q1 y3] 79;have fQ := bo.out.size
   go_wp2_with (at_builtin; go_loud (refine wpList_append_lies _ rfl (.tmp 8) (.tmp 18) 25 rfl 0 79 i0 _ 4 32 Tryz.underlying25 hi cE cP oS rfl (by omega) (.slice a j c) j (vals .i64 (txL nI r1 j)) rfl (by exact m5.out) ⟨v3.heap.size, 0, none⟩ 1 1 [Q1 y0, Q1 y1, Q1 y2, Q1 y3] rfl rfl (World.news_of_block (cs := #[Q1 y0, Q1 y1, Q1 y2, Q1 y3]) (t := 79) (fr := (0, 0)) (by exact kx.out)) (by simp [Value.oneCell']) (by omega) (by unfold maxLen; omega) (by omega) (Nat.zero_le _) (v3.heap.size + 1) (by simp) ?_); intro g5 nN w9 dm bZ gQ sD; have zB : Hid (Kept (fun k => (Value.slice a j c).ownBlock = some k) (v3.alloc (.cells #[Q1 y0, Q1 y1, Q1 y2, Q1 y3] 79)) w9) := Kept.of_grown bZ (fun k e => e); have jw := hid (jbG dm); have gp := hid gQ; clear dm bZ gQ)
   go_roundw
   case rel =>
    refine ⟨j + 1, _, _, by omega, rfl, by go_num, ?_, ?_, ?_, ?_⟩
    ·have e9 : txL nI r1 (j + 1) = txL nI r1 j ++ [y0, y1, y2, y3] := by
      rw [jbI]
      congr 1
      simp only [List.drop_drop] at fI dM mh uP;unfold txE;rw [fI, dM, mh, uP]
     rw [e9];exact jw
    ·intro b hb
     have e : g5 = b := by simpa [Value.ownBlock] using hb
     subst e;exact gp.out.elim (HF.out _) (fun h => by omega)
    ·have h := (s8.out.same HA.out).keep zB.out (fun e => by have := HF.out P e; omega) (fun b _ e => by have := HF.out b e; omega)
     rw [List.drop_drop, show 21 * j + 21 = 21 * (j + 1) from by omega] at h;exact h
    ·exact (bo.out.next HA.out (fun _ _ e => e.elim)).next zB.out (fun i hi e => by have := HF.out i e; omega)
   case measure => simp [intOf]; omega
  ·obtain rfl : N = j := by omega
   have Bw : ¬ (N : Int) < x := fun h => bg ((vM.out N).1 h);clear bg hj hx
   go_wp2_with fail
   go_ret;exact ⟨_, _, _, rfl, rfl, HO.out, HF.out, HR.out, HK.out⟩
theorem jcJ {w : World} {B0 P : Nat} {rs : List Int} (hB : IsB rs) (hl : rs.length ≤ 1099511627776) (eT : B0 ≤ w.heap.size) (h : RI w B0 P rs) :
  Calls Tryz.prog 65 #[Q2 P 0] w fun e w' => ∃ a n c, e = .returned (.slice a n c) ∧ n = (nI rs 1).toNat ∧ OwnL w' (FR.rows 2 ⟨81, a, n, c, dyL nI (rs.drop 1) n⟩) ∧ (∀ b, (Value.slice a n c).ownBlock = some b → w.heap.size ≤ b) ∧ RI w' B0 P ((rs.drop 1).drop (10 * n)) ∧ Kept (fun b => b = P) w w' := by
 have Av := h.lt;have qh := h.le;have k1 := PZ 1 (by omega) hB hl h;obtain ⟨i0, hi, cE, cP, oS⟩ := info_parts WW;have hx := YQ hB;obtain ⟨x, qk⟩ : ∃ x, nI rs 1 = x := ⟨_, rfl⟩;rw [qk] at hx k1 ⊢;obtain ⟨N, hN⟩ : ∃ N, x.toNat = N := ⟨_, rfl⟩;have Ly := hid hN
 have JR : N ≤ 255 := by omega
 have nU : ∀ j : Nat, (j : Int) < x ↔ j < N := fun j => by omega
 have vM := hid nU;obtain ⟨r1, hr⟩ : ∃ r1, rs.drop 1 = r1 := ⟨_, rfl⟩;have bQ : Hid (IsB r1) := hr ▸ hB.dropI 1
 have oI : r1.length ≤ 1099511627776 := by rw [← hr, List.length_drop]; omega
 rw [hr] at k1 ⊢;rw [hN];clear qk hN hr hB hl nU h
 go_enter Tryz.func65, Tryz.ntmps65
 go_wp2_with fail
 refine k1.mono ?_;rintro e w1 ⟨rfl, du, ah⟩;have dU := hid du;have aN := hid ah;clear du ah k1
 go_wp2_with fail
 go_loopw [3, 6] (fun sv iv wr => ∃ (j : Nat) (a : Option Addr) (c : Nat), j ≤ N ∧ sv = .slice a j c ∧ iv = Q1 j ∧ Hid (OwnL wr (FR.rows 2 ⟨81, a, j, c, dyL nI r1 j⟩)) ∧ Hid (∀ b, (Value.slice a j c).ownBlock = some b → w.heap.size ≤ b) ∧ Hid (RI wr B0 P (r1.drop (10 * j))) ∧ Hid (Kept (fun b => b = P) w wr)) (fun _ iv _ => N - (intOf iv).toNat)
 case atStart => exact ⟨0, none, 0, Nat.zero_le _, rfl, rfl, RH _ _ _, fun b hb => by simp [Value.ownBlock] at hb, dU, aN⟩
 case round =>
  obtain ⟨j, a, c, hj, rfl, rfl, HO, HF, HR, HK⟩ := hrel;have l5 := hx
  by_cases bg : j < N
  ·have Bw : (j : Int) < x := (vM.out j).2 bg
   clear hx
   go_wp2_with fail
   refine (PZ 2 (by omega) (bQ.out.dropI _) (by simp only [List.length_drop]; omega) HR.out).mono ?_;rintro e v0 ⟨rfl, aS, aj⟩;obtain ⟨y0, fI⟩ : ∃ y, nI (r1.drop (10 * j)) 2 = y := ⟨_, rfl⟩;rw [fI];have vf := (show Hid (RI v0 B0 P ((r1.drop (10 * j)).drop 2)) from by have h := aS; simp only [List.drop_drop] at h ⊢; exact h);have aP := hid (HK.out.trans aj);have jE := hid (HO.out.kept aj (fun b hb e => by have := HF.out b ((PD _ _).1 hb); omega));clear aS aj HR HK HO
   go_wp2_with fail
   refine (PZ 8 (by omega) ((bQ.out.dropI _).dropI _) (by simp only [List.length_drop]; omega) vf.out).mono ?_;rintro e v1 ⟨rfl, aS, aj⟩;obtain ⟨y1, dM⟩ : ∃ y, nI ((r1.drop (10 * j)).drop 2) 8 = y := ⟨_, rfl⟩;rw [dM];have dU := (show Hid (RI v1 B0 P ((r1.drop (10 * j)).drop 10)) from by have h := aS; simp only [List.drop_drop] at h ⊢; exact h);have aN := hid (aP.out.trans aj);have dS := hid (jE.out.kept aj (fun b hb e => by have := HF.out b ((PD _ _).1 hb); omega));clear aS aj vf aP jE;have HA : Hid (Same v1 (v1.alloc (.cells #[Q1 y0, Q1 y1] 81))) := kZ0.alloc _;have m5 := hid ((dS.out.same HA.out).1 _ (List.mem_singleton.2 rfl));have kx : Hid (Blk (v1.alloc (.cells #[Q1 y0, Q1 y1] 81)) v1.heap.size 81 [Q1 y0, Q1 y1]) := Blk.newL v1 [Q1 y0, Q1 y1] 81;have fQ := aN.out.size
   go_wp2_with (at_builtin; go_loud (refine wpList_append_lies _ rfl (.tmp 8) (.tmp 14) 26 rfl 0 81 i0 _ 2 16 Tryz.underlying26 hi cE cP oS rfl (by omega) (.slice a j c) j (vals .i64 (dyL nI r1 j)) rfl (by exact m5.out) ⟨v1.heap.size, 0, none⟩ 1 1 [Q1 y0, Q1 y1] rfl rfl (World.news_of_block (cs := #[Q1 y0, Q1 y1]) (t := 81) (fr := (0, 0)) (by exact kx.out)) (by simp [Value.oneCell']) (by omega) (by unfold maxLen; omega) (by omega) (Nat.zero_le _) (v1.heap.size + 1) (by simp) ?_); intro g5 nN w9 dm bZ gQ sD; have zB : Hid (Kept (fun k => (Value.slice a j c).ownBlock = some k) (v1.alloc (.cells #[Q1 y0, Q1 y1] 81)) w9) := Kept.of_grown bZ (fun k e => e); have jw := hid (jbH dm); have gp := hid gQ; clear dm bZ gQ)
   go_roundw
   case rel =>
    refine ⟨j + 1, _, _, by omega, rfl, by go_num, ?_, ?_, ?_, ?_⟩
    ·have e9 : dyL nI r1 (j + 1) = dyL nI r1 j ++ [y0, y1] := by
      rw [jbJ]
      congr 1
      simp only [List.drop_drop] at fI dM;unfold dyE;rw [fI, dM]
     rw [e9];exact jw
    ·intro b hb
     have e : g5 = b := by simpa [Value.ownBlock] using hb
     subst e;exact gp.out.elim (HF.out _) (fun h => by omega)
    ·have h := (dU.out.same HA.out).keep zB.out (fun e => by have := HF.out P e; omega) (fun b _ e => by have := HF.out b e; omega)
     rw [List.drop_drop, show 10 * j + 10 = 10 * (j + 1) from by omega] at h;exact h
    ·exact (aN.out.next HA.out (fun _ _ e => e.elim)).next zB.out (fun i hi e => by have := HF.out i e; omega)
   case measure => simp [intOf]; omega
  ·obtain rfl : N = j := by omega
   have Bw : ¬ (N : Int) < x := fun h => bg ((vM.out N).1 h);clear bg hj hx
   go_wp2_with fail
   go_ret;exact ⟨_, _, _, rfl, rfl, HO.out, HF.out, HR.out, HK.out⟩
end Go.Proofs.YtapdfgkbhaoelaaGreatDoor
