import Derived.Test.YtdbpaadndaoihaaGreatDoorG09
import Derived.Test.YtdbpaadndaoihaaGreatDoorG10
import Derived.Test.YtdbpaadndaoihaaGreatDoorSetS
import Derived.Test.YtdbpaadndaoihaaGreatDoorG01
import Derived.Test.YtdbpaadndaoihaaGreatDoorG00
import Derived.Test.YtdbpaadndaoihaaGreatDoorG08
import Derived.Test.YtdbpaadndaoihaaGreatDoorG06
import Derived.Deep.DeepCutAuto
namespace Go.Proofs.YtdbpaadndaoihaaGreatDoor
set_option maxRecDepth 100000
set_option maxHeartbeats 16000000
set_option linter.unusedVariables false
set_option linter.unusedSimpArgs false
open Go.RowKit Go
def RdA (base lo B : Nat) (w : World) (v : Value) (bs : List Int) : Prop := ∀ w', Kept (fun b => b = B ∨ lo ≤ b ∨ b < base) w w' → Rd .u8 w' v bs
theorem RdA.rd {base lo B : Nat} {w : World} {v : Value} {bs : List Int} (h : RdA base lo B w v bs) : Rd .u8 w v bs := h w (Kept.refl _ _)
theorem RdA.on {base lo B : Nat} {w w' : World} {v : Value} {bs : List Int} (h : RdA base lo B w v bs) (hk : Kept (fun b => b = B ∨ lo ≤ b ∨ b < base) w w') : RdA base lo B w' v bs := fun w2 h2 => h w2 (hk.trans h2)
theorem RdA.same {base lo B : Nat} {w w' : World} {v : Value} {bs : List Int} (h : RdA base lo B w v bs) (hk : Same w w') : RdA base lo B w' v bs := h.on (hk.mono (fun _ _ e => e.elim))
theorem RdA.draw {base lo B : Nat} {w w' : World} {v : Value} {bs : List Int} (h : RdA base lo B w v bs) (hk : Kept (fun b => b = B) w w') : RdA base lo B w' v bs := h.on (hk.mono (fun _ _ e => .inl e))
theorem Own.rdA {b0 : Nat} {e : TypeId} {base lo B : Nat} {w : World} {v : Value} {bs : List Int} (h : Own b0 e .u8 w v bs) (hB : ∀ b, v.ownBlock = some b → ¬ b = B ∧ b < lo ∧ base ≤ b) : RdA base lo B w v bs := fun w' hk =>
 (h.kept hk (fun b hb e => by have := hB b hb; omega)).rd
def RecR (w0 w w' : World) (e : Ending) (B : Nat) (v : Value) (cs : List Int) (k : Nat) (size : Int) : Prop :=
 ∃ (u : Bool) (a : Option Addr) (c : Nat) (d : List Int) (k' : Nat), e = .returned (.agg #[.bool u, .slice a d.length c]) ∧ d.length ≤ 1000 ∧ IsB d ∧ RdA w0.heap.size w'.heap.size B w' (.slice a d.length c) d ∧ k' ≤ k + 8 ∧ SrcR w0 w' B v cs k' size ∧ Kept (fun b => b = B) w w'
theorem rec_k {w0 w : World} {B : Nat} {v : Value} {cs : List Int} {k : Nat} {size : Int} (h : SrcR w0 w B v cs k size) (hk : k ≤ 1073741800) :
  Calls Tryz.prog 36 #[.pointer (some ⟨B, 0, none⟩)] w fun e w' => RecR w0 w w' e B v cs k size := by
 have b0 := Blk.new w #[.bool false, .slice none 0 0] 34
 have hBw := h.lt
 have hw0 := h.kept.size
 have hk0 : Same w (w.alloc (.cells #[.bool false, .slice none 0 0] 34)) := (Kept.refl _ _).alloc _
 have HS0 := hid (h.same hk0)
 clear h
 go_enter Tryz.func36, Tryz.ntmps36
 go_upto_region 1 with fail
 obtain ⟨X, hX⟩ : ∃ X, w.heap.size = X := ⟨_, rfl⟩
 have HX := hid hX
 rw [hX] at b0 hBw hw0
 generalize hw1 : w.alloc (.cells #[.bool false, .slice none 0 0] 34) = w1 at *
 have HK0 := hid hk0
 have HB0 := hid b0
 rw [hX]
 clear hk0 b0 hX hw1
 go_wp2_with fail
 refine (next_k 10 HS0.out (by omega) (by constructor <;> decide)).mono ?_
 rintro e w2 ⟨z, rfl, hd, hs2, hk2⟩
 obtain ⟨hz1, hz2⟩ := hd.2 (by decide)
 have HS2 := hid hs2
 have HK2 := (show Hid (Kept (fun b => b = B) w w2) from (HK0.out.mono (fun _ _ e => e.elim)).trans hk2)
 have HB2 := hid (HB0.out.kept hk2 (fun e => by omega))
 clear hd hs2 hk2 HS0 HB0
 by_cases z0 : z = 0
 ·subst z0
  obtain ⟨r0, r1⟩ := HB2.out.all2
  have fr := HB2.out.frozen
  have lr := HB2.out.lt
  have hkr : Kept (fun b => b = X) w2 ((w2.setCell ⟨X, 0, none⟩ (.bool false)).setCell ⟨X, 1, none⟩ (.slice none 0 0)) := ((Kept.refl (fun b => b = X) w2).setCell (p := ⟨X, 0, none⟩) (.inr rfl) _).setCell (p := ⟨X, 1, none⟩) (.inr rfl) _
  have HEN := (show Hid (RecR w0 w ((w2.setCell ⟨X, 0, none⟩ (.bool false)).setCell ⟨X, 1, none⟩ (.slice none 0 0)) (.returned (.agg #[.bool false, .slice none 0 0])) B v cs k size) from ⟨false, none, 0, [], k + 1, rfl, by simp, fun x hx => by simp at hx, fun w3 _ => ⟨Nat.zero_le _, .inl ⟨rfl, none, 0, rfl, fun _ => rfl⟩⟩, by omega, HS2.out.on hkr (fun e => by omega) (fun i hi e => by omega), HK2.out.next hkr (fun i hi e => by have := HX.out; omega)⟩)
  have HBE := hid ((HB2.out.stored 0 (.bool false)).stored 1 (.slice none 0 0))
  clear hkr
  go_wp2
  generalize (w2.setCell ⟨X, 0, none⟩ (.bool false)).setCell ⟨X, 1, none⟩ (.slice none 0 0) = wz at *
  obtain ⟨x0, x1⟩ := HBE.out.all2
  exact bodyPost_ret (v := .agg #[.bool false, .slice none 0 0]) (by simp [results, Tryz.results36, go_sem, x0, x1]) rfl HEN.out
 have e0 : (z == 0) = false := by simp [z0]
 have HS := HS2
 have HB := HB2
 have HK := HK2
 clear HS2 HB2 HK2
 go_wp2_with fail
 refine (next_k 60 HS.out (by omega) (by constructor <;> decide)).mono ?_
 rintro e w3 ⟨n1, rfl, hd, hs', hk'⟩
 obtain ⟨hn11, hn12⟩ := hd.2 (by decide)
 have HB' := hid (HB.out.kept hk' (fun e => by omega))
 have HK' := hid (HK.out.trans hk')
 clear HS HB HK
 have HS := hid hs'
 have HB := HB'
 have HK := HK'
 clear hd hs' hk' HB' HK'
 obtain ⟨n1, rfl⟩ : ∃ m : Nat, n1 = (m : Int) := ⟨n1.toNat, by omega⟩
 by_cases z4 : z < 4
 ·have e4 : (z == 4) = false := by simp; omega
  go_wp2_with fail
  refine (next_k 3 HS.out (by omega) (by constructor <;> decide)).mono ?_
  rintro e w4 ⟨q, rfl, hd, hs', hk'⟩
  obtain ⟨hq1, hq2⟩ := hd.2 (by decide)
  have HB' := hid (HB.out.kept hk' (fun e => by omega))
  have HK' := hid (HK.out.trans hk')
  clear HS HB HK
  have HS := hid hs'
  have HB := HB'
  have HK := HK'
  clear hd hs' hk' HB' HK'
  go_wp2_with fail
  refine (next_k 200 HS.out (by omega) (by constructor <;> decide)).mono ?_
  rintro e w5 ⟨r, rfl, hd, hs', hk'⟩
  obtain ⟨hr1, hr2⟩ := hd.2 (by decide)
  have HB' := hid (HB.out.kept hk' (fun e => by omega))
  have HK' := hid (HK.out.trans hk')
  clear HS HB HK
  have HS := hid hs'
  have HB := HB'
  have HK := HK'
  clear hd hs' hk' HB' HK'
  obtain ⟨m, hm⟩ : ∃ m, q * r = m := ⟨_, rfl⟩
  have hm1 : 0 ≤ m := by rw [← hm]; exact Int.mul_nonneg (by omega) (by omega)
  have hm2 : m ≤ 398 := by
   have h := Int.mul_le_mul (show q ≤ 2 from by omega) (show r ≤ 199 from by omega) (by omega) (by omega)
   omega
  have q1 : IntKind.i64.wrap (q * r) = m := by rw [IntKind.wrap_i64, hm]; omega
  obtain ⟨N, hN⟩ : ∃ N : Nat, 1000 - m = (N : Int) := ⟨(1000 - m).toNat, by omega⟩
  have q2 : IntKind.i64.wrap (1000 - m) = (N : Int) := by rw [IntKind.wrap_i64, hN]; omega
  have hN2 : N ≤ 1000 := by omega
  clear hm hN
  go_wp2_with fail
  refine (fill_k N HS.out (by omega) (by omega)).mono ?_
  rintro e w9 ⟨g, bs, rfl, hbl, hbb, ho, hgB, hs, hgw, hk9⟩
  have HO := hid ho
  have HS9 := hid hs
  have HB9 := hid (HB.out.kept hk9 (fun e => by omega))
  have HK9 := hid (HK.out.trans hk9)
  have hgl := (ho.lt g rfl).2
  have hwX : X < w9.heap.size := HB9.out.lt
  have hgX : ¬ g = X := fun e => by have := HB.out.lt; omega
  clear ho hs hk9 HS HB HK hgw
  obtain ⟨r0, r1⟩ := HB9.out.all2
  have fr := HB9.out.frozen
  have hkr : Kept (fun b => b = X) w9 ((w9.setCell ⟨X, 0, none⟩ (.bool true)).setCell ⟨X, 1, none⟩ (.slice (some ⟨g, 0, none⟩) N N)) := ((Kept.refl (fun b => b = X) w9).setCell (p := ⟨X, 0, none⟩) (.inr rfl) _).setCell (p := ⟨X, 1, none⟩) (.inr rfl) _
  have HEN := (show Hid (RecR w0 w ((w9.setCell ⟨X, 0, none⟩ (.bool true)).setCell ⟨X, 1, none⟩ (.slice (some ⟨g, 0, none⟩) N N)) (.returned (.agg #[.bool true, .slice (some ⟨g, 0, none⟩) N N])) B v cs k size) from ⟨true, some ⟨g, 0, none⟩, N, bs, _, by rw [hbl], by omega, hbb, by
   rw [hbl]
   exact Own.rdA (HO.out.kept hkr (fun b hb e => by have e1 : g = b := (by simpa [Value.ownBlock] using hb); omega)) (fun b hb => by have e1 : g = b := (by simpa [Value.ownBlock] using hb); have h1 := hkr.size; have h2 := (HO.out.lt g rfl).1; omega), by omega, HS9.out.on hkr (fun e => by omega) (fun i hi e => by omega), HK9.out.next hkr (fun i hi e => by have := HX.out; omega)⟩)
  have HBE := hid ((HB9.out.stored 0 (.bool true)).stored 1 (.slice (some ⟨g, 0, none⟩) N N))
  clear hkr
  go_wp2
  generalize (w9.setCell ⟨X, 0, none⟩ (.bool true)).setCell ⟨X, 1, none⟩ (.slice (some ⟨g, 0, none⟩) N N) = wz at *
  obtain ⟨x0, x1⟩ := HBE.out.all2
  exact bodyPost_ret (v := .agg #[.bool true, .slice (some ⟨g, 0, none⟩) N N]) (by simp [results, Tryz.results36, go_sem, x0, x1]) rfl HEN.out
 by_cases z5 : z = 4
 ·subst z5
  go_wp2_with fail
  refine (fill_k 0 HS.out (by omega) (by omega)).mono ?_
  rintro e w9 ⟨g, bs, rfl, hbl, hbb, ho, hgB, hs, hgw, hk9⟩
  have HO := hid ho
  have HS9 := hid hs
  have HB9 := hid (HB.out.kept hk9 (fun e => by omega))
  have HK9 := hid (HK.out.trans hk9)
  have hgl := (ho.lt g rfl).2
  have hwX : X < w9.heap.size := HB9.out.lt
  have hgX : ¬ g = X := fun e => by have := HB.out.lt; omega
  clear ho hs hk9 HS HB HK hgw
  obtain ⟨r0, r1⟩ := HB9.out.all2
  have fr := HB9.out.frozen
  have hkr : Kept (fun b => b = X) w9 ((w9.setCell ⟨X, 0, none⟩ (.bool true)).setCell ⟨X, 1, none⟩ (.slice (some ⟨g, 0, none⟩) 0 0)) := ((Kept.refl (fun b => b = X) w9).setCell (p := ⟨X, 0, none⟩) (.inr rfl) _).setCell (p := ⟨X, 1, none⟩) (.inr rfl) _
  have HEN := (show Hid (RecR w0 w ((w9.setCell ⟨X, 0, none⟩ (.bool true)).setCell ⟨X, 1, none⟩ (.slice (some ⟨g, 0, none⟩) 0 0)) (.returned (.agg #[.bool true, .slice (some ⟨g, 0, none⟩) 0 0])) B v cs k size) from ⟨true, some ⟨g, 0, none⟩, 0, bs, _, by rw [hbl], by omega, hbb, by
   rw [hbl]
   exact Own.rdA (HO.out.kept hkr (fun b hb e => by have e1 : g = b := (by simpa [Value.ownBlock] using hb); omega)) (fun b hb => by have e1 : g = b := (by simpa [Value.ownBlock] using hb); have h1 := hkr.size; have h2 := (HO.out.lt g rfl).1; omega), by omega, HS9.out.on hkr (fun e => by omega) (fun i hi e => by omega), HK9.out.next hkr (fun i hi e => by have := HX.out; omega)⟩)
  have HBE := hid ((HB9.out.stored 0 (.bool true)).stored 1 (.slice (some ⟨g, 0, none⟩) 0 0))
  clear hkr
  go_wp2
  generalize (w9.setCell ⟨X, 0, none⟩ (.bool true)).setCell ⟨X, 1, none⟩ (.slice (some ⟨g, 0, none⟩) 0 0) = wz at *
  obtain ⟨x0, x1⟩ := HBE.out.all2
  exact bodyPost_ret (v := .agg #[.bool true, .slice (some ⟨g, 0, none⟩) 0 0]) (by simp [results, Tryz.results36, go_sem, x0, x1]) rfl HEN.out
 have e4 : (z == 4) = false := by simp [z5]
 have e4' : ¬ z < 4 := z4
 go_wp2_with fail
 refine (fill_k n1 HS.out (by omega) (by omega)).mono ?_
 rintro e w9 ⟨g, bs, rfl, hbl, hbb, ho, hgB, hs, hgw, hk9⟩
 have HO := hid ho
 have HS9 := hid hs
 have HB9 := hid (HB.out.kept hk9 (fun e => by omega))
 have HK9 := hid (HK.out.trans hk9)
 have hgl := (ho.lt g rfl).2
 have hwX : X < w9.heap.size := HB9.out.lt
 have hgX : ¬ g = X := fun e => by have := HB.out.lt; omega
 clear ho hs hk9 HS HB HK hgw
 obtain ⟨r0, r1⟩ := HB9.out.all2
 have fr := HB9.out.frozen
 have hkr : Kept (fun b => b = X) w9 ((w9.setCell ⟨X, 0, none⟩ (.bool true)).setCell ⟨X, 1, none⟩ (.slice (some ⟨g, 0, none⟩) n1 n1)) := ((Kept.refl (fun b => b = X) w9).setCell (p := ⟨X, 0, none⟩) (.inr rfl) _).setCell (p := ⟨X, 1, none⟩) (.inr rfl) _
 have HEN := (show Hid (RecR w0 w ((w9.setCell ⟨X, 0, none⟩ (.bool true)).setCell ⟨X, 1, none⟩ (.slice (some ⟨g, 0, none⟩) n1 n1)) (.returned (.agg #[.bool true, .slice (some ⟨g, 0, none⟩) n1 n1])) B v cs k size) from ⟨true, some ⟨g, 0, none⟩, n1, bs, _, by rw [hbl], by omega, hbb, by
  rw [hbl]
  exact Own.rdA (HO.out.kept hkr (fun b hb e => by have e1 : g = b := (by simpa [Value.ownBlock] using hb); omega)) (fun b hb => by have e1 : g = b := (by simpa [Value.ownBlock] using hb); have h1 := hkr.size; have h2 := (HO.out.lt g rfl).1; omega), by omega, HS9.out.on hkr (fun e => by omega) (fun i hi e => by omega), HK9.out.next hkr (fun i hi e => by have := HX.out; omega)⟩)
 have HBE := hid ((HB9.out.stored 0 (.bool true)).stored 1 (.slice (some ⟨g, 0, none⟩) n1 n1))
 clear hkr
 go_wp2
 generalize (w9.setCell ⟨X, 0, none⟩ (.bool true)).setCell ⟨X, 1, none⟩ (.slice (some ⟨g, 0, none⟩) n1 n1) = wz at *
 obtain ⟨x0, x1⟩ := HBE.out.all2
 exact bodyPost_ret (v := .agg #[.bool true, .slice (some ⟨g, 0, none⟩) n1 n1]) (by simp [results, Tryz.results36, go_sem, x0, x1]) rfl HEN.out
def GoodB (bs : List Int) : Prop := ownOK bs = true ∧ IsB bs
theorem GoodB.len {bs : List Int} (h : GoodB bs) : bs.length = 4096 := ownOK_len h.1
theorem set_cases {raw : List Int} (h : GoodB raw) (s : Int) (u : Bool) (d : List Int) (hd : IsB d) (lsn : Int) :
  (pageSet raw s u d lsn = (1, []) ∧ setBad raw s u d lsn = true) ∨ (setBad raw s u d lsn = false ∧ setFull raw s.toNat d ∧ pageSet raw s u d lsn = (2, [])) ∨
  (setBad raw s u d lsn = false ∧ ¬ setFull raw s.toNat d ∧ pageSet raw s u d lsn = (0, setB raw s.toNat u d lsn) ∧ Made raw (setB raw s.toNat u d lsn) lsn (usedN (slotsOf raw) 32 - (slotsOf raw).getD (2 * s.toNat + 1) 0 + d.length) (fun k => if k = s.toNat then (u, d) else pageGet raw (k : Int))) := by
 unfold pageSet
 by_cases h1 : setBad raw s u d lsn = true
 ·rw [if_pos h1]; exact .inl ⟨rfl, h1⟩
 ·rw [if_neg h1]
  have h1' : setBad raw s u d lsn = false := by simpa using h1
  by_cases h2 : setFull raw s.toNat d
  ·rw [if_pos h2]; exact .inr (.inl ⟨h1', h2, rfl⟩)
  ·rw [if_neg h2]
   refine .inr (.inr ⟨h1', h2, rfl, ?_⟩)
   simp [setBad] at h1
   obtain ⟨hok, g1, g2, g3, g4, g5, g6⟩ := h1
   exact set_made h.2 hok s.toNat (by omega) u d hd lsn (by simp [isLSN]; omega) (by omega) (fun e => by have := g6 e; exact this) h2
theorem set_two {raw : List Int} (h : GoodB raw) (s : Int) (u : Bool) (d : List Int) (hd : IsB d) (lsn : Int) :
  ∃ (x : Int) (ys : List Int), pageSet raw s u d lsn = (x, ys) ∧ (x = 0 → GoodB ys) := by
 rcases set_cases h s u d hd lsn with ⟨e, _⟩ | ⟨_, _, e⟩ | ⟨_, _, e, hm⟩
 ·exact ⟨1, [], e, fun h => by cases h⟩
 ·exact ⟨2, [], e, fun h => by cases h⟩
 ·exact ⟨0, _, e, fun _ => ⟨hm.own, hm.isB⟩⟩
theorem good_new (n : Int) (h0 : 0 ≤ n) (h1 : n < 16) : GoodB (pageNew n) := new_own n h0 h1
theorem good_comp {raw : List Int} (h : GoodB raw) : GoodB (pageCompact raw) := by
 have := (comp_made h.2 h.1).1
 rw [show pageCompact raw = compB raw from if_pos h.1]
 exact ⟨this.own, this.isB⟩
def PgR (w0 w w' : World) (e : Ending) (B : Nat) (v : Value) (cs : List Int) (k : Nat) (size : Int) : Prop :=
 ∃ (g c : Nat) (bs : List Int) (k' : Nat), e = .returned (.slice (some ⟨g, 0, none⟩) 4096 c) ∧ bs.length = 4096 ∧ IsB bs ∧ Own w0.heap.size 5 .u8 w' (.slice (some ⟨g, 0, none⟩) 4096 c) bs ∧ ¬ g = B ∧ k' ≤ k + 400 ∧ SrcR w0 w' B v cs k' size ∧ w.heap.size ≤ g ∧ Kept (fun b => b = B) w w'
structure PgI (w0 w wr : World) (B : Nat) (v : Value) (cs : List Int) (k : Nat) (size : Int) (g c : Nat) (bs : List Int) : Prop where
 src : SrcR w0 wr B v cs k size
 own : Own 0 5 .u8 wr (.slice (some ⟨g, 0, none⟩) 4096 c) bs
 new : w.heap.size ≤ g
 kept : Kept (fun b => b = B) w wr
 good : GoodB bs
section
variable {w0 w wr wx : World} {B : Nat} {v : Value} {cs : List Int} {k k' : Nat} {size : Int} {g c : Nat} {bs : List Int}
theorem PgI.same (h : PgI w0 w wr B v cs k size g c bs) (hk : Same wr wx) : PgI w0 w wx B v cs k size g c bs :=
 ⟨h.src.same hk, h.own.same hk, h.new, h.kept.trans (hk.mono (fun _ _ e => e.elim)), h.good⟩
theorem PgI.draw (h : PgI w0 w wr B v cs k size g c bs) (hB : B < w.heap.size) (hs : SrcR w0 wx B v cs k' size) (hk : Kept (fun b => b = B) wr wx) : PgI w0 w wx B v cs k' size g c bs :=
 ⟨hs, h.own.kept hk (fun b hb e => by have e1 : g = b := (by simpa [Value.ownBlock] using hb); have := h.new; omega), h.new, h.kept.trans hk, h.good⟩
theorem PgI.other {a : Option Addr} {c' : Nat} {ys : List Int} (h : PgI w0 w wr B v cs k size g c bs) (hk : Same wr wx) (ho : Own 0 5 .u8 wx (.slice a ys.length c') ys) (hf : ∀ b, (Value.slice a ys.length c').ownBlock = some b → wr.heap.size ≤ b) (hg : GoodB ys) : ∃ g', a = some ⟨g', 0, none⟩ ∧ PgI w0 w wx B v cs k size g' c' ys := by
 obtain ⟨g', rfl⟩ := own_some ho (by rw [hg.len]; decide)
 rw [hg.len] at ho
 exact ⟨g', rfl, h.src.same hk, ho, Nat.le_trans h.kept.size (hf g' rfl), h.kept.trans (hk.mono (fun _ _ e => e.elim)), hg⟩
end
theorem pg_k {w0 w : World} {B : Nat} {v : Value} {cs : List Int} {k : Nat} {size : Int} (number : Int) (h0 : 0 ≤ number) (h1 : number < 16) (h : SrcR w0 w B v cs k size) (hk : k ≤ 1073741000) :
  Calls Tryz.prog 65 #[.pointer (some ⟨B, 0, none⟩), .int .i64 number] w fun e w' => PgR w0 w w' e B v cs k size := by
 have hBw := h.lt
 have hw0 := h.kept.size
 have hsz := h.src.little
 have kN := specNew_any number w
 have HS := hid h
 clear h
 go_enter Tryz.func65, Tryz.ntmps65
 go_wp2_with fail
 refine kN.mono ?_
 rintro e w1 ⟨a, c, rfl, hf, ho, hk1⟩
 have hgd := good_new number h0 h1
 obtain ⟨g, rfl⟩ := own_some ho (by rw [hgd.len]; decide)
 have hgl := hgd.len
 have HI := (show Hid (PgI w0 w w1 B v cs k size g c (pageNew number)) from ⟨HS.out.same hk1, by rw [hgl] at ho; exact ho, hf g rfl, hk1.mono (fun _ _ e => e.elim), hgd⟩)
 rw [hgl]
 clear hf ho hk1 kN HS hgd hgl
 generalize pageNew number = bs at HI
 obtain ⟨_, _, s2⟩ := HI.out.src.src.blk.all3
 have q0 : IntKind.i64.wrap (8 + size) = 8 + size := by rw [IntKind.wrap_i64]; omega
 go_wp2_with fail
 refine (next_k (8 + size) HI.out.src (by omega) (by constructor <;> omega)).mono ?_
 rintro e w2 ⟨n, rfl, hd, hs2, hk2⟩
 obtain ⟨hn1, hn2⟩ := hd.2 (by omega)
 have HI2 := hid (HI.out.draw hBw hs2 hk2)
 obtain ⟨N, rfl⟩ : ∃ N : Nat, n = (N : Int) := ⟨n.toNat, by omega⟩
 have hN : N ≤ 20 := by omega
 clear hd hs2 hk2 HI s2 q0 hn1 hn2
 go_wp2_with fail
 go_loopw [5, 6] (fun p i wr => ∃ (j k' g c : Nat) (bs : List Int), j ≤ N ∧ p = .slice (some ⟨g, 0, none⟩) 4096 c ∧ i = .int .i64 (j : Int) ∧ k' ≤ k + 1 + 12 * (N - j) ∧ Hid (PgI w0 w wr B v cs k' size g c bs)) (fun _ i _ => (intOf i).toNat)
 case atStart => exact ⟨N, k + 1, g, c, bs, Nat.le_refl _, rfl, rfl, by omega, HI2⟩
 case round =>
  obtain ⟨j, k', g, c, bs, hj, rfl, rfl, hk', HI⟩ := hrel
  cases j with
  | succ j =>
   go_wp2_with fail
   refine (next_k 6 HI.out.src (by omega) (by constructor <;> decide)).mono ?_
   rintro e w3 ⟨q, rfl, hd, hs3, hk3⟩
   obtain ⟨hq1, hq2⟩ := hd.2 (by decide)
   have HI3 := hid (HI.out.draw hBw hs3 hk3)
   clear hd hs3 hk3
   go_wp2_with fail
   refine (next_k 7 HI3.out.src (by omega) (by constructor <;> decide)).mono ?_
   rintro e w4 ⟨r, rfl, hd, hs4, hk4⟩
   obtain ⟨hr1, hr2⟩ := hd.2 (by decide)
   have HI4 := hid (HI3.out.draw hBw hs4 hk4)
   clear hd hs4 hk4
   obtain ⟨m, hm⟩ : ∃ m, q * r = m := ⟨_, rfl⟩
   have hm1 : 0 ≤ m := by rw [← hm]; exact Int.mul_nonneg (by omega) (by omega)
   have hm2 : m ≤ 30 := by
    have h := Int.mul_le_mul (show q ≤ 5 from by omega) (show r ≤ 6 from by omega) (by omega) (by omega)
    omega
   have q1 : IntKind.i64.wrap (q * r) = m := by rw [IntKind.wrap_i64, hm]; omega
   clear hm
   go_wp2_with fail
   refine (rec_k HI4.out.src (by omega)).mono ?_
   rintro e w5 ⟨u, ra, rc, d, k5, rfl, hd1, hd2, hd3, hk5, hs5, hkk5⟩
   have HI5 := hid (HI4.out.draw hBw hs5 hkk5)
   have HD2 := hid hd2
   have HD3 := hid hd3
   clear hd2 hd3 hs5 hkk5
   go_wp2_with fail
   refine (next_k 100000 HI5.out.src (by omega) (by constructor <;> decide)).mono ?_
   rintro e w6 ⟨l, rfl, hd, hs6, hk6⟩
   obtain ⟨hl1, hl2⟩ := hd.2 (by decide)
   have HI6 := hid (HI5.out.draw hBw hs6 hk6)
   have HD6 := hid (HD3.out.draw hk6).rd
   clear hd hs6 hk6
   have kS := fun s lsn => specSet_any (.slice (some ⟨g, 0, none⟩) 4096 c) bs s u ra rc d lsn w6 HI6.out.good.2 (by rw [HI6.out.good.len]; decide) HI6.out.own.rd (by omega) HD6.out
   have HC := (show Hid (∀ s lsn, ∃ (x : Int) (ys : List Int), pageSet bs s u d lsn = (x, ys) ∧ (x = 0 → GoodB ys)) from fun s lsn => set_two HI6.out.good s u d HD2.out lsn)
   go_wp2_with fail
   refine (kS _ _).mono ?_
   rintro e w7 ⟨a, c7, rfl, hf, ho, hk7⟩
   obtain ⟨x, ys, hxy, hgd⟩ := HC.out _ _
   rw [hxy] at hf ho ⊢
   dsimp only at hf ho ⊢
   have HI7 := hid (HI6.out.same hk7)
   have HX := (show Hid (∀ o, x = 0 → ∃ g', a = some ⟨g', 0, none⟩ ∧ ys.length = 4096 ∧ PgI w0 w (w7.alloc o) B v cs (k5 + 1) size g' c7 ys) from fun o hx => by
    obtain ⟨g', e, h⟩ := HI6.out.other hk7 ho hf (hgd hx)
    exact ⟨g', e, (hgd hx).len, h.same ((Kept.refl _ _).alloc _)⟩)
   clear hf ho hk7 hgd hxy kS HC HI6 HI5 HI4 HI3 HI
   by_cases hx : x = 0
   ·subst hx
    obtain ⟨g', rfl, hyl, hP⟩ := HX.out (.cells #[.int .i64 0, .slice a ys.length c7] 38) rfl
    rw [hyl] at hP ⊢
    have HP := hid hP
    clear hP HX hyl HI7
    go_wp2_with fail
    go_roundw
    case rel => exact ⟨j, k5 + 1, g', c7, ys, by omega, rfl, by go_num, by omega, HP⟩
    case measure => simp [intOf]
   ·have ex : (x == 0) = false := by simp [hx]
    have HP := hid (HI7.out.same ((Kept.refl _ _).alloc (.cells #[.int .i64 x, .slice a ys.length c7] 38)))
    clear HX HI7
    go_wp2_with fail
    go_roundw
    case rel => exact ⟨j, k5 + 1, g, c, bs, by omega, rfl, by go_num, by omega, HP⟩
    case measure => simp [intOf]
  | zero =>
   have hkk : k' ≤ k + 241 := by omega
   go_wp2_with fail
   refine (chance_k 8 HI.out.src (by omega) (by constructor <;> decide)).mono ?_
   rintro e w3 ⟨b, rfl, hs3, hk3⟩
   have HI3 := hid (HI.out.draw hBw hs3 hk3)
   clear hs3 hk3 HI
   have fin : ∀ (w4 w5 : World) (g c : Nat) (bs : List Int) (a : Option Addr) (c5 : Nat), PgI w0 w w4 B v cs (k' + 1) size g c bs → (∀ b, (Value.slice a (pageSeal bs).length c5).ownBlock = some b → w4.heap.size ≤ b) → Own 0 5 .u8 w5 (.slice a (pageSeal bs).length c5) (pageSeal bs) → Same w4 w5 → PgR w0 w w5 (.returned (.slice a (pageSeal bs).length c5)) B v cs k size := by
    intro w4 w5 g c bs a c5 hI hf ho hk
    obtain ⟨e1, e2, e3, _⟩ := seal_two hI.good.len hI.good.2
    rw [e1] at hf ho ⊢
    rw [e3] at hf ho ⊢
    obtain ⟨g', rfl⟩ := own_some ho (by rw [e3]; decide)
    have h1 := hf g' rfl
    have h2 := hI.kept.size
    exact ⟨g', c5, _, k' + 1, rfl, e3, e2, ho.mono (fun b hb => by have := hf b hb; omega), by omega, by omega, hI.src.same hk, by omega, hI.kept.trans (hk.mono (fun _ _ e => e.elim))⟩
   have kL := fun g c bs (wx : World) (hI : PgI w0 w wx B v cs (k' + 1) size g c bs) => specSeal_any (.slice (some ⟨g, 0, none⟩) 4096 c) bs wx hI.good.2 (by rw [hI.good.len]; decide) hI.own.rd
   cases b
   ·go_wp2_with fail
    refine (kL _ _ _ _ HI3.out).mono ?_
    rintro e w5 ⟨a, c5, rfl, hf, ho, hk5⟩
    have HE := hid (fin _ _ _ _ _ _ _ HI3.out hf ho hk5)
    clear fin kL hf ho hk5
    go_wp2
    go_ret
    exact HE.out
   ·have kC := specComp_any (.slice (some ⟨g, 0, none⟩) 4096 c) bs w3 HI3.out.good.2 (by rw [HI3.out.good.len]; decide) HI3.out.own.rd
    go_wp2_with fail
    refine kC.mono ?_
    rintro e w4 ⟨a4, c4, rfl, hf4, ho4, hk4⟩
    have hg4 := good_comp HI3.out.good
    obtain ⟨g4, rfl, hI4⟩ := HI3.out.other hk4 ho4 hf4 hg4
    rw [hg4.len]
    have HI4 := hid hI4
    clear hI4 hf4 ho4 hk4 hg4 kC
    go_wp2_with fail
    refine (kL _ _ _ _ HI4.out).mono ?_
    rintro e w5 ⟨a, c5, rfl, hf, ho, hk5⟩
    have HE := hid (fin _ _ _ _ _ _ _ HI4.out hf ho hk5)
    clear fin kL hf ho hk5
    go_wp2
    go_ret
    exact HE.out
theorem redoL_skip {number frm : Int} {raw : List Int} : ∀ {ds : List FrD}, (∀ d ∈ ds, skipF raw number frm d) → redoL number frm raw ds = (0, raw)
 | [], _ => rfl
 | d :: ds, h => by
  rw [redoL, if_pos (h d (List.mem_cons_self ..))]
  exact redoL_skip (fun x hx => h x (List.mem_cons_of_mem _ hx))
theorem redoL_append {number frm : Int} : ∀ (xs ys : List FrD) (raw : List Int), redoL number frm raw (xs ++ ys) = if (redoL number frm raw xs).1 = 0 then redoL number frm (redoL number frm raw xs).2 ys else (2, [])
 | [], ys, raw => by simp [redoL]
 | d :: xs, ys, raw => by
  rw [List.cons_append, redoL, redoL]
  by_cases hs : skipF raw number frm d
  ·rw [if_pos hs, if_pos hs]
   exact redoL_append xs ys raw
  ·rw [if_neg hs, if_neg hs]
   by_cases hc : (redoOne raw d).1 = 0
   ·rw [if_pos hc, if_pos hc]
    exact redoL_append xs ys _
   ·rw [if_neg hc, if_neg hc]
    simp
structure Sim (P Q : List Int) : Prop where
 p : GoodB P
 q : GoodB Q
 num : numAt P 12 4 = numAt Q 12 4
 lsn : pageLSN P = pageLSN Q
 get : ∀ k : Nat, k < 32 → pageGet P (k : Int) = pageGet Q (k : Int)
theorem Sim.refl {P : List Int} (h : GoodB P) : Sim P P := ⟨h, h, rfl, rfl, fun _ _ => rfl⟩
theorem Sim.symm {P Q : List Int} (h : Sim P Q) : Sim Q P := ⟨h.q, h.p, h.num.symm, h.lsn.symm, fun k hk => (h.get k hk).symm⟩
theorem Sim.trans {P Q R : List Int} (h : Sim P Q) (h' : Sim Q R) : Sim P R := ⟨h.p, h'.q, h.num.trans h'.num, h.lsn.trans h'.lsn, fun k hk => (h.get k hk).trans (h'.get k hk)⟩
theorem fault_num {C : List Int} {n : Int} (h : pageFault C n = 0) : numAt C 12 4 = n := (fault0.1 h).2
theorem lens_sim {P Q : List Int} (h : Sim P Q) (k : Nat) (hk : k < 32) : (slotsOf P).getD (2 * k + 1) 0 = (slotsOf Q).getD (2 * k + 1) 0 := by
 rw [← get_length h.p.2 h.p.1 k hk, ← get_length h.q.2 h.q.1 k hk, h.get k hk]
theorem full_sim {P Q : List Int} (h : Sim P Q) (s : Nat) (hs : s < 32) (d : List Int) : setFull P s d ↔ setFull Q s d := by
 unfold setFull
 rw [usedN_congr (fun k hk => lens_sim h k hk) 32 (Nat.le_refl _), lens_sim h s hs]
theorem isLSN_of {l : Int} (h0 : 0 ≤ l) (h1 : l ≤ 1099511627776) : isLSN l = true := by
 unfold isLSN
 simp
 omega
theorem set_sim {P Q : List Int} (h : Sim P Q) (s : Int) (u : Bool) (d : List Int) (hd : IsB d) (lsn : Int) : (pageSet P s u d lsn).1 = (pageSet Q s u d lsn).1 ∧ ((pageSet P s u d lsn).1 = 0 → Sim (pageSet P s u d lsn).2 (pageSet Q s u d lsn).2 ∧ pageLSN (pageSet P s u d lsn).2 = lsn ∧ numAt (pageSet P s u d lsn).2 12 4 = numAt P 12 4) := by
 have hbad : setBad P s u d lsn = setBad Q s u d lsn := by unfold setBad; rw [h.p.1, h.q.1]
 unfold pageSet
 rw [hbad]
 by_cases hb : setBad Q s u d lsn = true
 ·rw [if_pos hb, if_pos hb]
  exact ⟨rfl, fun e => by simp at e⟩
 ·rw [if_neg hb, if_neg hb]
  unfold setBad at hb
  rw [h.q.1] at hb
  simp only [Bool.not_true, Bool.false_or, Bool.or_eq_true, decide_eq_true_eq, Bool.and_eq_true, Bool.not_eq_true', not_or, not_and] at hb
  obtain ⟨hs0, hs1, hl0, hl1, hd1, hu⟩ := hb
  obtain ⟨n, rfl⟩ : ∃ m : Nat, s = (m : Int) := ⟨s.toNat, by omega⟩
  have hn : n < 32 := by omega
  have hu' : u = false → d = [] := fun e => by
   have := hu e
   exact List.length_eq_zero_iff.1 (by omega)
  have hf := full_sim h n hn d
  simp only [Int.toNat_natCast]
  by_cases hfull : setFull Q n d
  ·rw [if_pos (hf.2 hfull), if_pos hfull]
   exact ⟨rfl, fun e => by simp at e⟩
  ·rw [if_neg (fun e => hfull (hf.1 e)), if_neg hfull]
   refine ⟨rfl, fun _ => ?_⟩
   have m1 := set_made h.p.2 h.p.1 n hn u d hd lsn (isLSN_of (by omega) (by omega)) (by omega) hu' (fun e => hfull (hf.1 e))
   have m2 := set_made h.q.2 h.q.1 n hn u d hd lsn (isLSN_of (by omega) (by omega)) (by omega) hu' hfull
   refine ⟨⟨⟨m1.own, m1.isB⟩, ⟨m2.own, m2.isB⟩, ?_, ?_, fun k hk => ?_⟩, m1.lsn, fault_num m1.fault⟩
   ·rw [fault_num m1.fault, fault_num m2.fault, h.num]
   ·rw [m1.lsn, m2.lsn]
   ·rw [m1.get k hk, m2.get k hk]
    by_cases e : k = n
    ·rw [if_pos e, if_pos e]
    ·rw [if_neg e, if_neg e, h.get k hk]
theorem seal_sim {P : List Int} (h : GoodB P) : Sim P (pageSeal P) := by
 obtain ⟨e1, e2, e3, _⟩ := seal_two h.len h.2
 rw [e1]
 have hl := h.len
 obtain ⟨henc, hL⟩ := own_enc h.1
 obtain ⟨p1, p2, p3, p4⟩ := ownOK_parts h.1
 have n12 := numAt_in P h.2 12 4 (by decide) (by decide) (by omega)
 have hLs := isLSN_spec hL
 have hsl := slotsOf_small P h.2 hl
 have mk : ∀ sum : List Int, sum.length = 4 → EncOK sum (numAt P 4 8) (numAt P 12 4) (numAt P 16 2) (slotsOf P) P := fun sum hs => ⟨hs, slotsOf_length P, hl, hLs, by omega, by omega, fun x hx => by have := hsl x hx; omega⟩
 have k0 := mk (P.take 4) (by rw [List.length_take]; omega)
 have k1 := mk (lows (crcOn 0 (P.drop 4)) 4) (lows_length _ _)
 have hseal : sealB P = encB (lows (crcOn 0 (P.drop 4)) 4) (numAt P 4 8) (numAt P 12 4) (numAt P 16 2) (slotsOf P) P := by
  rw [k1.flat]
  unfold sealB
  congr 1
  have h1 := k0.flat
  rw [henc] at h1
  conv => lhs; rw [h1]
  rw [List.drop_append, List.drop_of_length_le (by rw [List.length_take]; omega), List.length_take]
  simp [hl]
 have hown := k1.own hL ⟨p1, p2⟩ p3 p4
 rw [← hseal] at hown
 obtain ⟨d1, d2, d3⟩ := k1.dec
 refine ⟨h, ⟨hown, e2⟩, ?_, ?_, fun k hk => ?_⟩
 ·rw [hseal, d2]
 ·unfold pageLSN
  rw [if_pos h.1, if_pos hown, hseal, d1]
 ·have hs := slOK_of h.2 h.1
  have g1 := k1.get (by rw [← hseal]; exact hown) hs k hk
  rw [hseal, g1, own_get h.1 k hk]
structure Leads (number : Int) (Bg : List Int) (D : List FrD) (P : List Int) : Prop where
 good : GoodB Bg
 num : numAt Bg 12 4 = number
 code : (redoL number 0 Bg D).1 = 0
 sim : Sim (redoL number 0 Bg D).2 P
theorem Leads.start {number : Int} {Bg P : List Int} (h : Sim Bg P) (hn : numAt Bg 12 4 = number) : Leads number Bg [] P := ⟨h.p, hn, rfl, h⟩
theorem Leads.skip {number : Int} {Bg P : List Int} {D : List FrD} (h : Leads number Bg D P) (d : FrD) (hd : ¬ fKind d = 1 ∧ ¬ fKind d = 2) : Leads number Bg (D ++ [d]) P := by
 have e := redoL_append (number := number) (frm := 0) D [d] Bg
 rw [if_pos h.code] at e
 have e2 : redoL number 0 (redoL number 0 Bg D).2 [d] = (0, (redoL number 0 Bg D).2) := redoL_skip (fun x hx => by rw [List.mem_singleton.1 hx]; exact .inl hd)
 rw [e2] at e
 exact ⟨h.good, h.num, by rw [e], by rw [e]; exact h.sim⟩
theorem Leads.more {number : Int} {Bg P : List Int} {D : List FrD} (h : Leads number Bg D P) (d : FrD) (hk : fKind d = 1) (hp : fPage d = number) (hl0 : 0 ≤ fLsn d) (hl : pageLSN P < fLsn d) (hB : IsB (fAft d).2) (h0 : (redoOne P d).1 = 0) : Leads number Bg (D ++ [d]) (redoOne P d).2 ∧ pageLSN (redoOne P d).2 = fLsn d := by
 have e := redoL_append (number := number) (frm := 0) D [d] Bg
 rw [if_pos h.code] at e
 obtain ⟨s1, s2⟩ := set_sim h.sim (fSlot d) (fAft d).1 (fAft d).2 hB (fLsn d)
 have h0' : (redoOne (redoL number 0 Bg D).2 d).1 = 0 := by unfold redoOne; rw [s1]; exact h0
 have hns : ¬ skipF (redoL number 0 Bg D).2 number 0 d := by
  unfold skipF
  rw [h.sim.lsn]
  omega
 have e2 : redoL number 0 (redoL number 0 Bg D).2 [d] = (0, (redoOne (redoL number 0 Bg D).2 d).2) := by
  simp only [redoL]
  rw [if_neg hns, if_pos h0']
 rw [e2] at e
 obtain ⟨t1, t2, t3⟩ := s2 h0'
 refine ⟨⟨h.good, h.num, by rw [e], by rw [e]; exact t1⟩, ?_⟩
 have := t1.lsn
 unfold redoOne
 rw [← this]
 exact t2
theorem Leads.all {number : Int} {Bg P : List Int} {D : List FrD} (h : Leads number Bg D P) : (redoD Bg number D 0).1 = 0 ∧ pageLSN (redoD Bg number D 0).2 = pageLSN P ∧ GoodB (redoD Bg number D 0).2 ∧ ∀ k : Nat, k < 32 → pageGet (redoD Bg number D 0).2 (k : Int) = pageGet P (k : Int) := by
 have hf : pageFault Bg number = 0 := fault0.2 ⟨h.good.1, h.num⟩
 have e : redoD Bg number D 0 = redoL number 0 Bg D := by unfold redoD; rw [if_pos hf]
 rw [e]
 exact ⟨h.code, h.sim.lsn, h.sim.p, h.sim.get⟩
theorem Tryz.infoByte : (Tryz.prog.info? 5).map (fun i => (i.zero, i.size, i.bytes)) = some (some (.int .u8 0), 1, 1) := by kernel_rfl
theorem newDisk_yes (s : Int) (w : World) (h1 : 1 ≤ s) (h2 : s ≤ 1024) :
  Calls Tryz.prog 24 #[.int .i64 s] w fun e w' => ∃ g, e = .returned (.agg #[.slice (some ⟨g, 0, none⟩) (s.toNat * 512) (s.toNat * 512), .slice none 0 0]) ∧ w.heap.size ≤ g ∧
   Own 0 5 .u8 w' (.slice (some ⟨g, 0, none⟩) (s.toNat * 512) (s.toNat * 512)) (List.replicate (s.toNat * 512) 0) ∧ Same w w' := by
 obtain ⟨n, rfl⟩ : ∃ n : Nat, s = n := ⟨s.toNat, by omega⟩
 obtain ⟨i0, hi, hz0, hz1, hz2⟩ := info_parts Tryz.infoByte
 have h1' : ¬ (n : Int) < 1 := by omega
 go_enter Tryz.func24, Tryz.ntmps24
 go_wp2_with (at_make; refine wpList_make_full _ rfl (.tmp 11) (.tmp 11) 22 rfl 0 5 i0 (.int .u8 0) 1 Tryz.underlying22 hi hz0 hz1 .i64 .i64 _ _ (n * 512) rfl rfl (by simp) (by simp) (by rw [hz2]; omega) (by unfold maxLen; omega) (Nat.zero_le _) ?_; intro w1 hown1 hgrow1; have HO : Hid (Own 0 5 .u8 w1 (.slice (some ⟨w.heap.size + 1, 0, none⟩) (n * 512) (n * 512)) (List.replicate (n * 512) 0)) := own_made (by simpa using hown1); have HK : Hid (Same w w1) := ((Kept.refl _ _).alloc _).grown hgrow1 (fun k e => by cases e); obtain ⟨q1, q2, q3, q4, q5⟩ := kept_two (Kept.of_grown (R := fun _ => False) hgrow1 (fun k e => by cases e)) id; clear hown1 hgrow1)
 refine bodyPost_ret (v := .agg #[.slice (some ⟨w.heap.size + 1, 0, none⟩) (n * 512) (n * 512), .slice none 0 0]) (by simp [results, Tryz.results24, go_sem, q1, q2]) rfl ⟨w.heap.size + 1, by simp, by omega, ?_, ?_⟩
 ·exact HO.out.kept (R := fun b => b = w.heap.size) ((Kept.refl (fun b => b = w.heap.size) _).setTwo (.inr rfl) _ _) (fun b hb e => by simp [Value.ownBlock] at hb; omega)
 ·exact HK.out.setTwo (.inl (Nat.le_refl _)) _ _
def minLog (p : Int) : Int := if inB p 1 16 = true then 9 * p + 24 else -1
def geoF (p f l : Int) : Int := if inB p 1 16 = false then 1 else if inB f 3 16 = false then 2 else if inB l (minLog p) 800 = false then 3 else 0
theorem inB_yes {v a b : Int} (h : inB v a b = true) : a ≤ v ∧ v ≤ b := by simpa [inB] using h
theorem RdF.some {m : Nat} {w : World} {x : FR} (h : RdF m w x) (h0 : 0 < x.n) : ∃ b off, x.a = some ⟨b, off, none⟩ ∧ x.n ≤ x.c := by
 rcases h.2.2 with h1 | ⟨b, off, he, hle, _⟩
 ·omega
 ·exact ⟨b, off, he, hle⟩
theorem Rd.at {w : World} {a : Option Addr} {n c : Nat} {zs : List Int} (h : Rd .i64 w (.slice a n c) zs) {k : Nat} (hk : k < zs.length) : ∃ b off, a = some ⟨b, off, none⟩ ∧ w.cell? ⟨b, off + k, none⟩ = some (.int .i64 (zs.getD k 0)) := by
 rcases h.2 with ⟨hnil, _⟩ | ⟨b, off, c', h, _, hc⟩
 ·rw [hnil] at hk; simp at hk
 ·cases h; exact ⟨b, off, rfl, hc k hk⟩
theorem pageCount_any (x : Int) (w : World) : Calls Tryz.prog 57 #[.int .i64 x] w fun e w' => e = .returned (.bool (inB x 1 16)) ∧ w' = w := by
 unfold inB
 by_cases h : 1 ≤ x
 ·by_cases h2 : x ≤ 16
  ·go_enter Tryz.func57, Tryz.ntmps57
   go_wp2
   go_ret
   exact ⟨by simp [h, h2], rfl⟩
  ·go_enter Tryz.func57, Tryz.ntmps57
   go_wp2
   go_ret
   exact ⟨by simp [h]; try omega, rfl⟩
 ·go_enter Tryz.func57, Tryz.ntmps57
  go_wp2
  go_ret
  exact ⟨by rw [show decide (1 ≤ x) = false from by simp; omega]; rfl, rfl⟩
theorem implMinLog_any (p : Int) (w : World) : Calls Tryz.prog 58 #[.int .i64 p] w fun e w' => e = .returned (.int .i64 (minLog p)) ∧ Same w w' := by
 have k1 := fun wx => pageCount_any p wx
 unfold minLog
 cases h : inB p 1 16 with
 | false =>
  rw [h] at k1
  go_enter Tryz.func58, Tryz.ntmps58
  go_wp2_with fail
  refine (k1 _).mono ?_
  rintro e w1 ⟨rfl, rfl⟩
  go_wp2
  go_ret
  exact ⟨rfl, Kept.refl _ _⟩
 | true =>
  rw [h] at k1
  obtain ⟨h1, h2⟩ := inB_yes h
  have hw1 : IntKind.i64.wrap (9 * p) = 9 * p := by rw [IntKind.wrap_i64]; omega
  have hw2 : IntKind.i64.wrap (9 * p + 24) = 9 * p + 24 := by rw [IntKind.wrap_i64]; omega
  go_enter Tryz.func58, Tryz.ntmps58
  go_wp2_with fail
  refine (k1 _).mono ?_
  rintro e w1 ⟨rfl, rfl⟩
  go_wp2
  go_ret
  exact ⟨by first | rfl | trivial, Kept.refl _ _⟩
theorem implGeo_any (p f l : Int) (w : World) : Calls Tryz.prog 23 #[.agg #[.int .i64 p, .int .i64 f, .int .i64 l]] w fun e w' => e = .returned (.int .i64 (geoF p f l)) ∧ Same w w' := by
 have HK0 := hid (sameA w [.int .i64 p, .int .i64 f, .int .i64 l] 24)
 have b0 := Blk.newL w [.int .i64 p, .int .i64 f, .int .i64 l] 24
 have k1 := fun wx => pageCount_any p wx
 have k3 := fun wx => implMinLog_any p wx
 obtain ⟨R, hR⟩ : ∃ R, geoF p f l = R := ⟨_, rfl⟩
 rw [hR]
 unfold geoF at hR
 generalize minLog p = ml at k3 hR
 cases h1 : inB p 1 16 with
 | false =>
  rw [h1] at k1 hR
  rw [if_pos rfl] at hR
  subst hR
  go_enter Tryz.func23, Tryz.ntmps23
  go_wp2_with fail
  refine (k1 _).mono ?_
  rintro e w1 ⟨rfl, rfl⟩
  go_wp2
  go_ret
  exact ⟨rfl, HK0.out⟩
 | true =>
  rw [h1] at k1 hR
  rw [if_neg (by simp)] at hR
  obtain ⟨c0, c1, c2⟩ := b0.all3
  by_cases h2 : f < 3
  ·rw [if_pos (by simp [inB]; omega)] at hR
   subst hR
   go_enter Tryz.func23, Tryz.ntmps23
   go_wp2_with fail
   refine (k1 _).mono ?_
   rintro e w1 ⟨rfl, rfl⟩
   go_wp2
   go_ret
   exact ⟨rfl, HK0.out⟩
  by_cases h3 : 16 < f
  ·rw [if_pos (by simp [inB]; omega)] at hR
   subst hR
   go_enter Tryz.func23, Tryz.ntmps23
   go_wp2_with fail
   refine (k1 _).mono ?_
   rintro e w1 ⟨rfl, rfl⟩
   go_wp2
   go_ret
   exact ⟨rfl, HK0.out⟩
  rw [if_neg (by simp [inB]; omega)] at hR
  go_enter Tryz.func23, Tryz.ntmps23
  go_wp2_with fail
  refine (k1 _).mono ?_
  rintro e w1 ⟨rfl, rfl⟩
  generalize w.alloc (.cells #[.int .i64 p, .int .i64 f, .int .i64 l] 24) = wa at c0 c1 c2 HK0 ⊢
  clear b0
  go_wp2_with fail
  let Y1 : World → Prop := fun wx : World => wx.cell? ⟨w.heap.size, 0, none⟩ = some (.int .i64 p) ∧ wx.cell? ⟨w.heap.size, 2, none⟩ = some (.int .i64 l)
  have hS : Y1 wa.drew := ⟨c0, c2⟩
  refine wp_region_V Y1 99 12 rfl (by kernel_rfl) ?_
  refine tk 0 18 hS ?_
  refine tk 1 19 hS ?_
  refine tk 2 20 hS ?_
  refine tk 3 21 hS ?_
  refine wpAnyV_one (i := 4) (by kernel_rfl) rfl (fun K hK => ?_)
  go_simp
  refine (k3 _).mono ?_
  rintro e w3 ⟨rfl, hk3⟩
  have HK23 : Hid (Same wa w3) := (Kept.refl _ _).drew.trans hk3
  have HK3 := hid (HK0.out.trans HK23.out)
  have hS : Y1 w3 := ⟨HK23.out.cellOf c0 id, HK23.out.cellOf c2 id⟩
  refine hK.out _ _ (fun _ => hS) ?_
  clear hK K hk3
  try simp only [Act.put, sA, s0, sS]
  by_cases h4 : l < ml
  ·rw [if_pos (by simp [inB]; omega)] at hR
   subst hR
   refine tkV 5 23 (.bool true) hS ?_
   refine tk 6 24 hS ?_
   refine tkS 7 25 hS ?_
   refine tkS 8 26 hS ?_
   refine tkS 9 27 hS ?_
   refine tk 10 28 hS ?_
   refine tk 11 17 hS ?_
   refine wpAnyV_done (by kernel_rfl) ?_
   go_wp2
   go_ret
   exact ⟨rfl, HK3.out⟩
  ·by_cases h5 : 800 < l
   ·rw [if_pos (by simp [inB]; omega)] at hR
    subst hR
    refine tkV 5 23 (.bool false) hS ?_
    refine tk 6 24 hS ?_
    refine tk 7 25 hS ?_
    refine tk 8 26 hS ?_
    refine tkV 9 27 (.bool true) hS ?_
    refine tk 10 28 hS ?_
    refine tk 11 17 hS ?_
    refine wpAnyV_done (by kernel_rfl) ?_
    go_wp2
    go_ret
    exact ⟨rfl, HK3.out⟩
   ·rw [if_neg (by simp [inB]; omega)] at hR
    subst hR
    refine tkV 5 23 (.bool false) hS ?_
    refine tk 6 24 hS ?_
    refine tk 7 25 hS ?_
    refine tk 8 26 hS ?_
    refine tkV 9 27 (.bool false) hS ?_
    refine tk 10 28 hS ?_
    refine tk 11 17 hS ?_
    refine wpAnyV_done (by kernel_rfl) ?_
    go_wp2
    go_ret
    exact ⟨rfl, HK3.out⟩
def dskN (p f l : Int) : Int := if geoF p f l = 0 then 2 + l + p * 8 else -1
def pgSec (p f l g : Int) : Int := if geoF p f l = 0 then (if inB g 0 (p - 1) = true then 2 + l + g * 8 else -1) else -1
theorem geo_good {p f l : Int} (hq : geoF p f l = 0) : 1 ≤ p ∧ p ≤ 16 ∧ 9 * p + 24 ≤ l ∧ l ≤ 800 := by
 unfold geoF at hq
 cases h1 : inB p 1 16 with
 | false => rw [h1, if_pos rfl] at hq; cases hq
 | true =>
  rw [h1, if_neg (by simp)] at hq
  cases h2 : inB f 3 16 with
  | false => rw [h2, if_pos rfl] at hq; cases hq
  | true =>
   rw [h2, if_neg (by simp)] at hq
   cases h3 : inB l (minLog p) 800 with
   | false => rw [h3, if_pos rfl] at hq; cases hq
   | true =>
    obtain ⟨a, b⟩ := inB_yes h1
    obtain ⟨c, d⟩ := inB_yes h3
    have hml : minLog p = 9 * p + 24 := if_pos h1
    rw [hml] at c
    exact ⟨a, b, c, d⟩
theorem pgSec_yes {p f l g : Int} (hq : geoF p f l = 0) (h1 : 0 ≤ g) (h2 : g < p) : pgSec p f l g = 2 + l + g * 8 := by
 unfold pgSec
 rw [if_pos hq, if_pos (by simp [inB]; omega)]
theorem pgSec_cases (p f l g : Int) : (pgSec p f l g = -1) ∨ (geoF p f l = 0 ∧ 0 ≤ g ∧ g < p ∧ pgSec p f l g = 2 + l + g * 8) := by
 by_cases hq : geoF p f l = 0
 ·by_cases h : 0 ≤ g ∧ g < p
  ·exact .inr ⟨hq, h.1, h.2, pgSec_yes hq h.1 h.2⟩
  ·refine .inl ?_
   unfold pgSec
   rw [if_pos hq, if_neg (by simp [inB]; omega)]
 ·exact .inl (if_neg hq)
theorem firstSec_any (p f l : Int) (hl : 0 ≤ l ∧ l ≤ 800) (w : World) : Calls Tryz.prog 59 #[.agg #[.int .i64 p, .int .i64 f, .int .i64 l]] w fun e w' => e = .returned (.int .i64 (2 + l)) ∧ Same w w' := by
 have HK0 := hid (sameA w [.int .i64 p, .int .i64 f, .int .i64 l] 24)
 have b0 := Blk.newL w [.int .i64 p, .int .i64 f, .int .i64 l] 24
 obtain ⟨c0, c1, c2⟩ := b0.all3
 obtain ⟨h1, h2⟩ := hl
 have q1 : IntKind.i64.wrap (2 + l) = 2 + l := by rw [IntKind.wrap_i64]; omega
 go_enter Tryz.func59, Tryz.ntmps59
 go_wp2
 go_ret
 exact ⟨rfl, HK0.out⟩
theorem implDskN_any (p f l : Int) (w : World) : Calls Tryz.prog 25 #[.agg #[.int .i64 p, .int .i64 f, .int .i64 l]] w fun e w' => e = .returned (.int .i64 (dskN p f l)) ∧ Same w w' := by
 have HK0 := hid (sameA w [.int .i64 p, .int .i64 f, .int .i64 l] 24)
 have b0 := Blk.newL w [.int .i64 p, .int .i64 f, .int .i64 l] 24
 have k0 := fun wx => implGeo_any p f l wx
 obtain ⟨R, hR⟩ : ∃ R, dskN p f l = R := ⟨_, rfl⟩
 rw [hR]
 unfold dskN at hR
 obtain ⟨q, hq⟩ : ∃ q, geoF p f l = q := ⟨_, rfl⟩
 rw [hq] at k0 hR
 by_cases h0 : q = 0
 case neg =>
  rw [if_neg h0] at hR
  subst hR
  clear hq
  go_enter Tryz.func25, Tryz.ntmps25
  go_wp2_with fail
  refine (k0 _).mono ?_
  rintro e w1 ⟨rfl, hk1⟩
  go_wp2
  go_ret
  exact ⟨rfl, HK0.out.trans hk1⟩
 subst h0
 rw [if_pos rfl] at hR
 obtain ⟨h1, h2, h3, h4⟩ := geo_good hq
 clear hq
 have q2 : IntKind.i64.wrap (p * 8) = p * 8 := by rw [IntKind.wrap_i64]; omega
 have q3 : IntKind.i64.wrap (2 + l + p * 8) = 2 + l + p * 8 := by rw [IntKind.wrap_i64]; omega
 have k1 := fun wx => firstSec_any p f l ⟨by omega, h4⟩ wx
 subst hR
 go_enter Tryz.func25, Tryz.ntmps25
 go_wp2_with fail
 refine (k0 _).mono ?_
 rintro e w1 ⟨rfl, hk1⟩
 have HK1 := hid (HK0.out.trans hk1)
 obtain ⟨d0, d1, d2⟩ := (b0.same hk1).all3
 clear hk1
 go_wp2_with fail
 let Y1 : World → Prop := fun wx : World => wx.cell? ⟨w.heap.size, 0, none⟩ = some (.int .i64 p) ∧ wx.cell? ⟨w.heap.size, 1, none⟩ = some (.int .i64 f) ∧ wx.cell? ⟨w.heap.size, 2, none⟩ = some (.int .i64 l)
 have hS : Y1 w1.drew := ⟨d0, d1, d2⟩
 refine wp_region_V Y1 99 7 rfl (by kernel_rfl) ?_
 refine tk 0 6 hS ?_
 refine tk 2 8 hS ?_
 refine tk 3 9 hS ?_
 refine tk 4 10 hS ?_
 refine wpAnyV_one (i := 1) (by kernel_rfl) rfl (fun K hK => ?_)
 go_simp
 refine (k1 _).mono ?_
 rintro e w2 ⟨rfl, hk2⟩
 have HK2 := hid (HK1.out.trans ((Kept.refl _ _).drew.trans hk2))
 have hS : Y1 w2 := ⟨hk2.cellOf d0 id, hk2.cellOf d1 id, hk2.cellOf d2 id⟩
 refine hK.out _ _ (fun _ => hS) ?_
 clear hK K hk2
 try simp only [Act.put, sA, s0, sS]
 refine tk 5 11 hS ?_
 refine tk 6 2 hS ?_
 refine wpAnyV_done (by kernel_rfl) ?_
 go_wp2
 go_ret
 exact ⟨rfl, HK2.out⟩
theorem implPgSec_any (p f l g : Int) (w : World) : Calls Tryz.prog 28 #[.agg #[.int .i64 p, .int .i64 f, .int .i64 l], .int .i64 g] w fun e w' => e = .returned (.int .i64 (pgSec p f l g)) ∧ Same w w' := by
 have HK0 := hid (sameA w [.int .i64 p, .int .i64 f, .int .i64 l] 24)
 have b0 := Blk.newL w [.int .i64 p, .int .i64 f, .int .i64 l] 24
 have k0 := fun wx => implGeo_any p f l wx
 obtain ⟨R, hR⟩ : ∃ R, pgSec p f l g = R := ⟨_, rfl⟩
 rw [hR]
 unfold pgSec at hR
 obtain ⟨q, hq⟩ : ∃ q, geoF p f l = q := ⟨_, rfl⟩
 rw [hq] at k0 hR
 by_cases h0 : q = 0
 case neg =>
  rw [if_neg h0] at hR
  subst hR
  clear hq
  go_enter Tryz.func28, Tryz.ntmps28
  go_wp2_with fail
  refine (k0 _).mono ?_
  rintro e w1 ⟨rfl, hk1⟩
  go_wp2
  go_ret
  exact ⟨rfl, HK0.out.trans hk1⟩
 subst h0
 rw [if_pos rfl] at hR
 obtain ⟨h1, h2, h3, h4⟩ := geo_good hq
 clear hq
 by_cases g1 : g < 0
 ·rw [if_neg (by simp [inB]; omega)] at hR
  subst hR
  go_enter Tryz.func28, Tryz.ntmps28
  go_wp2_with fail
  refine (k0 _).mono ?_
  rintro e w1 ⟨rfl, hk1⟩
  have HK1 := hid (HK0.out.trans hk1)
  obtain ⟨d0, d1, d2⟩ := (b0.same hk1).all3
  clear hk1
  go_wp2
  go_ret
  exact ⟨rfl, HK1.out⟩
 by_cases g2 : p ≤ g
 ·rw [if_neg (by simp [inB]; omega)] at hR
  subst hR
  go_enter Tryz.func28, Tryz.ntmps28
  go_wp2_with fail
  refine (k0 _).mono ?_
  rintro e w1 ⟨rfl, hk1⟩
  have HK1 := hid (HK0.out.trans hk1)
  obtain ⟨d0, d1, d2⟩ := (b0.same hk1).all3
  clear hk1
  go_wp2
  go_ret
  exact ⟨rfl, HK1.out⟩
 rw [if_pos (by simp [inB]; omega)] at hR
 have q2 : IntKind.i64.wrap (g * 8) = g * 8 := by rw [IntKind.wrap_i64]; omega
 have q3 : IntKind.i64.wrap (2 + l + g * 8) = 2 + l + g * 8 := by rw [IntKind.wrap_i64]; omega
 have k1 := fun wx => firstSec_any p f l ⟨by omega, h4⟩ wx
 subst hR
 go_enter Tryz.func28, Tryz.ntmps28
 go_wp2_with fail
 refine (k0 _).mono ?_
 rintro e w1 ⟨rfl, hk1⟩
 have HK1 := hid (HK0.out.trans hk1)
 obtain ⟨d0, d1, d2⟩ := (b0.same hk1).all3
 clear hk1
 go_wp2_with fail
 refine (k1 _).mono ?_
 rintro e w2 ⟨rfl, hk2⟩
 have HK2 := hid (HK1.out.trans hk2)
 clear hk2
 go_wp2
 go_ret
 exact ⟨rfl, HK2.out⟩
structure StLog where
 sectors : Int
 epoch : Int
 stop : Int
 flushed : Int
 tail : BS
def StLog.val (x : StLog) : Value := .agg #[.int .i64 x.sectors, .int .i64 x.epoch, .int .i64 x.stop, .int .i64 x.flushed, x.tail.v]
def StLog.rows (x : StLog) : List Row := x.tail.rows
def StLog.dat (x : StLog) : Int × Int × Int × Int × List Int := (x.sectors, x.epoch, x.stop, x.flushed, x.tail.bs)
def StLog.size (x : StLog) : Int := (x.tail.bs.length : Int)
def StLog.marked (x : StLog) (k : Int) : StLog := ⟨x.sectors, x.epoch, x.stop, x.flushed, x.tail.marked (k)⟩
def StLog.rd (w : World) (x : StLog) : Prop := Rd .u8 w x.tail.v x.tail.bs
theorem StLog.rd.kept {R : Nat → Prop} {w w' : World} {x : StLog} (h : StLog.rd w x) (hk : Kept R w w') (hr : ∀ b, FootL x.rows b → ¬ R b) : StLog.rd w' x :=
 Rd.kept (h) hk (fun b hb => hr b (((footL_ints _ _ _ _ _).2 hb)))
theorem StLog.rd.same {w w' : World} {x : StLog} (h : StLog.rd w x) (hk : Same w w') : StLog.rd w' x := h.kept hk (fun _ _ => id)
theorem StLog.own_rd {w : World} {x : StLog} (h : OwnL w x.rows) : StLog.rd w x :=
 (OwnL.of_one h).rd
def StLog.szs (x : StLog) : Int := (x.tail.bs.length : Int)
theorem StLog.szs_le (x : StLog) : 0 ≤ x.szs := by
 unfold StLog.szs
 omega
def StLog.isB (x : StLog) : Prop := IsB x.tail.bs
end Go.Proofs.YtdbpaadndaoihaaGreatDoor
