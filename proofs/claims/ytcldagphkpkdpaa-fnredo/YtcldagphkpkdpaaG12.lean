import Derived.Test.YtcldagphkpkdpaaSetS
namespace Go.Proofs.Ytcldagphkpkdpaa
set_option maxRecDepth 100000
set_option maxHeartbeats 8000000
set_option linter.unusedVariables false
set_option linter.unusedSimpArgs false
open Go.RowKit
def RdA (base lo B : Nat) (w : World) (v : Value) (bs : List Int) : Prop := ∀ w', Kept (fun b => b = B ∨ lo ≤ b ∨ b < base) w w' → Rd .u8 w' v bs
theorem RdA.rd {base lo B : Nat} {w : World} {v : Value} {bs : List Int} (h : RdA base lo B w v bs) : Rd .u8 w v bs := h w (Kept.refl _ _)
theorem RdA.on {base lo B : Nat} {w w' : World} {v : Value} {bs : List Int} (h : RdA base lo B w v bs) (hk : Kept (fun b => b = B ∨ lo ≤ b ∨ b < base) w w') : RdA base lo B w' v bs := fun w2 h2 => h w2 (hk.trans h2)
theorem RdA.same {base lo B : Nat} {w w' : World} {v : Value} {bs : List Int} (h : RdA base lo B w v bs) (hk : Same w w') : RdA base lo B w' v bs := h.on (hk.mono (fun _ _ e => e.elim))
theorem RdA.draw {base lo B : Nat} {w w' : World} {v : Value} {bs : List Int} (h : RdA base lo B w v bs) (hk : Kept (fun b => b = B) w w') : RdA base lo B w' v bs := h.on (hk.mono (fun _ _ e => .inl e))
theorem Own.rdA {b0 : Nat} {e : TypeId} {base lo B : Nat} {w : World} {v : Value} {bs : List Int} (h : Own b0 e .u8 w v bs) (hB : ∀ b, v.ownBlock = some b → ¬ b = B ∧ b < lo ∧ base ≤ b) : RdA base lo B w v bs := fun w' hk =>
 (h.kept hk (fun b hb e => by have := hB b hb; omega)).rd
def RecR (w0 w w' : World) (e : Ending) (B : Nat) (v : Value) (cs : List Int) (k : Nat) (size : Int) : Prop :=
 ∃ (u : Bool) (a : Option Addr) (c : Nat) (d : List Int) (k' : Nat), e = .returned (.agg #[.bool u, .slice a d.length c]) ∧ d.length ≤ 1000 ∧ IsB d ∧ RdA w0.heap.size w'.heap.size B w' (.slice a d.length c) d ∧ k' ≤ k + 8 ∧ SrcR w0 w' B v cs k' size ∧ Kept (fun b => b = B) w w'
theorem rec_k {w0 w : World} {B : Nat} {v : Value} {cs : List Int} {k : Nat} {size : Int} (h : SrcR w0 w B v cs k size) (hk : k ≤ 1073741800) :
  Calls Try.prog 35 #[.pointer (some ⟨B, 0, none⟩)] w fun e w' => RecR w0 w w' e B v cs k size := by
 have b0 := Blk.new w #[.bool false, .slice none 0 0] 44
 have hBw := h.lt
 have hw0 := h.kept.size
 have hk0 : Same w (w.alloc (.cells #[.bool false, .slice none 0 0] 44)) := (Kept.refl _ _).alloc _
 have HS0 := hid (h.same hk0)
 clear h
 go_enter Try.func35, Try.ntmps35
 go_upto_region 1 with fail
 obtain ⟨X, hX⟩ : ∃ X, w.heap.size = X := ⟨_, rfl⟩
 have HX := hid hX
 rw [hX] at b0 hBw hw0
 generalize hw1 : w.alloc (.cells #[.bool false, .slice none 0 0] 44) = w1 at *
 have HK0 := hid hk0
 have HB0 := hid b0
 rw [hX]
 clear hk0 b0 hX hw1
 go_wp2_with fail
 refine (next_k 10 HS0.out (by omega) (by constructor <;> decide)).mono ?_
 rintro e w2 ⟨z, rfl, hd, hs2, hk2⟩
 obtain ⟨hz1, hz2⟩ := hd.2 (by decide)
 have HS2 := hid hs2
 have HK2 := (show Hid (Kept (fun b => b = B) w w2) from (HK0.out.mono (fun _ _ e => e.elim)).trans hk2)
 have HB2 := hid (HB0.out.kept hk2 (fun e => by omega))
 clear hd hs2 hk2 HS0 HB0
 by_cases z0 : z = 0
 ·subst z0
  obtain ⟨r0, r1⟩ := HB2.out.all2
  have fr := HB2.out.frozen
  have lr := HB2.out.lt
  have hkr : Kept (fun b => b = X) w2 ((w2.setCell ⟨X, 0, none⟩ (.bool false)).setCell ⟨X, 1, none⟩ (.slice none 0 0)) := ((Kept.refl (fun b => b = X) w2).setCell (p := ⟨X, 0, none⟩) (.inr rfl) _).setCell (p := ⟨X, 1, none⟩) (.inr rfl) _
  have HEN := (show Hid (RecR w0 w ((w2.setCell ⟨X, 0, none⟩ (.bool false)).setCell ⟨X, 1, none⟩ (.slice none 0 0)) (.returned (.agg #[.bool false, .slice none 0 0])) B v cs k size) from ⟨false, none, 0, [], k + 1, rfl, by simp, fun x hx => by simp at hx, fun w3 _ => ⟨Nat.zero_le _, .inl ⟨rfl, none, 0, rfl, fun _ => rfl⟩⟩, by omega, HS2.out.on hkr (fun e => by omega) (fun i hi e => by omega), HK2.out.next hkr (fun i hi e => by have := HX.out; omega)⟩)
  have HBE := hid ((HB2.out.stored 0 (.bool false)).stored 1 (.slice none 0 0))
  clear hkr
  go_wp2
  generalize (w2.setCell ⟨X, 0, none⟩ (.bool false)).setCell ⟨X, 1, none⟩ (.slice none 0 0) = wz at *
  obtain ⟨x0, x1⟩ := HBE.out.all2
  exact bodyPost_ret (v := .agg #[.bool false, .slice none 0 0]) (by simp [results, Try.results35, go_sem, x0, x1]) rfl HEN.out
 have e0 : (z == 0) = false := by simp [z0]
 have HS := HS2
 have HB := HB2
 have HK := HK2
 clear HS2 HB2 HK2
 go_wp2_with fail
 refine (next_k 60 HS.out (by omega) (by constructor <;> decide)).mono ?_
 rintro e w3 ⟨n1, rfl, hd, hs', hk'⟩
 obtain ⟨hn11, hn12⟩ := hd.2 (by decide)
 have HB' := hid (HB.out.kept hk' (fun e => by omega))
 have HK' := hid (HK.out.trans hk')
 clear HS HB HK
 have HS := hid hs'
 have HB := HB'
 have HK := HK'
 clear hd hs' hk' HB' HK'
 obtain ⟨n1, rfl⟩ : ∃ m : Nat, n1 = (m : Int) := ⟨n1.toNat, by omega⟩
 by_cases z4 : z < 4
 ·have e4 : (z == 4) = false := by simp; omega
  go_wp2_with fail
  refine (next_k 3 HS.out (by omega) (by constructor <;> decide)).mono ?_
  rintro e w4 ⟨q, rfl, hd, hs', hk'⟩
  obtain ⟨hq1, hq2⟩ := hd.2 (by decide)
  have HB' := hid (HB.out.kept hk' (fun e => by omega))
  have HK' := hid (HK.out.trans hk')
  clear HS HB HK
  have HS := hid hs'
  have HB := HB'
  have HK := HK'
  clear hd hs' hk' HB' HK'
  go_wp2_with fail
  refine (next_k 200 HS.out (by omega) (by constructor <;> decide)).mono ?_
  rintro e w5 ⟨r, rfl, hd, hs', hk'⟩
  obtain ⟨hr1, hr2⟩ := hd.2 (by decide)
  have HB' := hid (HB.out.kept hk' (fun e => by omega))
  have HK' := hid (HK.out.trans hk')
  clear HS HB HK
  have HS := hid hs'
  have HB := HB'
  have HK := HK'
  clear hd hs' hk' HB' HK'
  obtain ⟨m, hm⟩ : ∃ m, q * r = m := ⟨_, rfl⟩
  have hm1 : 0 ≤ m := by rw [← hm]; exact Int.mul_nonneg (by omega) (by omega)
  have hm2 : m ≤ 398 := by
   have h := Int.mul_le_mul (show q ≤ 2 from by omega) (show r ≤ 199 from by omega) (by omega) (by omega)
   omega
  have q1 : IntKind.i64.wrap (q * r) = m := by rw [IntKind.wrap_i64, hm]; omega
  obtain ⟨N, hN⟩ : ∃ N : Nat, 1000 - m = (N : Int) := ⟨(1000 - m).toNat, by omega⟩
  have q2 : IntKind.i64.wrap (1000 - m) = (N : Int) := by rw [IntKind.wrap_i64, hN]; omega
  have hN2 : N ≤ 1000 := by omega
  clear hm hN
  go_wp2_with fail
  refine (fill_k N HS.out (by omega) (by omega)).mono ?_
  rintro e w9 ⟨g, bs, rfl, hbl, hbb, ho, hgB, hs, hgw, hk9⟩
  have HO := hid ho
  have HS9 := hid hs
  have HB9 := hid (HB.out.kept hk9 (fun e => by omega))
  have HK9 := hid (HK.out.trans hk9)
  have hgl := (ho.lt g rfl).2
  have hwX : X < w9.heap.size := HB9.out.lt
  have hgX : ¬ g = X := fun e => by have := HB.out.lt; omega
  clear ho hs hk9 HS HB HK hgw
  obtain ⟨r0, r1⟩ := HB9.out.all2
  have fr := HB9.out.frozen
  have hkr : Kept (fun b => b = X) w9 ((w9.setCell ⟨X, 0, none⟩ (.bool true)).setCell ⟨X, 1, none⟩ (.slice (some ⟨g, 0, none⟩) N N)) := ((Kept.refl (fun b => b = X) w9).setCell (p := ⟨X, 0, none⟩) (.inr rfl) _).setCell (p := ⟨X, 1, none⟩) (.inr rfl) _
  have HEN := (show Hid (RecR w0 w ((w9.setCell ⟨X, 0, none⟩ (.bool true)).setCell ⟨X, 1, none⟩ (.slice (some ⟨g, 0, none⟩) N N)) (.returned (.agg #[.bool true, .slice (some ⟨g, 0, none⟩) N N])) B v cs k size) from ⟨true, some ⟨g, 0, none⟩, N, bs, _, by rw [hbl], by omega, hbb, by
   rw [hbl]
   exact Own.rdA (HO.out.kept hkr (fun b hb e => by have e1 : g = b := (by simpa [Value.ownBlock] using hb); omega)) (fun b hb => by have e1 : g = b := (by simpa [Value.ownBlock] using hb); have h1 := hkr.size; have h2 := (HO.out.lt g rfl).1; omega), by omega, HS9.out.on hkr (fun e => by omega) (fun i hi e => by omega), HK9.out.next hkr (fun i hi e => by have := HX.out; omega)⟩)
  have HBE := hid ((HB9.out.stored 0 (.bool true)).stored 1 (.slice (some ⟨g, 0, none⟩) N N))
  clear hkr
  go_wp2
  generalize (w9.setCell ⟨X, 0, none⟩ (.bool true)).setCell ⟨X, 1, none⟩ (.slice (some ⟨g, 0, none⟩) N N) = wz at *
  obtain ⟨x0, x1⟩ := HBE.out.all2
  exact bodyPost_ret (v := .agg #[.bool true, .slice (some ⟨g, 0, none⟩) N N]) (by simp [results, Try.results35, go_sem, x0, x1]) rfl HEN.out
 by_cases z5 : z = 4
 ·subst z5
  go_wp2_with fail
  refine (fill_k 0 HS.out (by omega) (by omega)).mono ?_
  rintro e w9 ⟨g, bs, rfl, hbl, hbb, ho, hgB, hs, hgw, hk9⟩
  have HO := hid ho
  have HS9 := hid hs
  have HB9 := hid (HB.out.kept hk9 (fun e => by omega))
  have HK9 := hid (HK.out.trans hk9)
  have hgl := (ho.lt g rfl).2
  have hwX : X < w9.heap.size := HB9.out.lt
  have hgX : ¬ g = X := fun e => by have := HB.out.lt; omega
  clear ho hs hk9 HS HB HK hgw
  obtain ⟨r0, r1⟩ := HB9.out.all2
  have fr := HB9.out.frozen
  have hkr : Kept (fun b => b = X) w9 ((w9.setCell ⟨X, 0, none⟩ (.bool true)).setCell ⟨X, 1, none⟩ (.slice (some ⟨g, 0, none⟩) 0 0)) := ((Kept.refl (fun b => b = X) w9).setCell (p := ⟨X, 0, none⟩) (.inr rfl) _).setCell (p := ⟨X, 1, none⟩) (.inr rfl) _
  have HEN := (show Hid (RecR w0 w ((w9.setCell ⟨X, 0, none⟩ (.bool true)).setCell ⟨X, 1, none⟩ (.slice (some ⟨g, 0, none⟩) 0 0)) (.returned (.agg #[.bool true, .slice (some ⟨g, 0, none⟩) 0 0])) B v cs k size) from ⟨true, some ⟨g, 0, none⟩, 0, bs, _, by rw [hbl], by omega, hbb, by
   rw [hbl]
   exact Own.rdA (HO.out.kept hkr (fun b hb e => by have e1 : g = b := (by simpa [Value.ownBlock] using hb); omega)) (fun b hb => by have e1 : g = b := (by simpa [Value.ownBlock] using hb); have h1 := hkr.size; have h2 := (HO.out.lt g rfl).1; omega), by omega, HS9.out.on hkr (fun e => by omega) (fun i hi e => by omega), HK9.out.next hkr (fun i hi e => by have := HX.out; omega)⟩)
  have HBE := hid ((HB9.out.stored 0 (.bool true)).stored 1 (.slice (some ⟨g, 0, none⟩) 0 0))
  clear hkr
  go_wp2
  generalize (w9.setCell ⟨X, 0, none⟩ (.bool true)).setCell ⟨X, 1, none⟩ (.slice (some ⟨g, 0, none⟩) 0 0) = wz at *
  obtain ⟨x0, x1⟩ := HBE.out.all2
  exact bodyPost_ret (v := .agg #[.bool true, .slice (some ⟨g, 0, none⟩) 0 0]) (by simp [results, Try.results35, go_sem, x0, x1]) rfl HEN.out
 have e4 : (z == 4) = false := by simp [z5]
 have e4' : ¬ z < 4 := z4
 go_wp2_with fail
 refine (fill_k n1 HS.out (by omega) (by omega)).mono ?_
 rintro e w9 ⟨g, bs, rfl, hbl, hbb, ho, hgB, hs, hgw, hk9⟩
 have HO := hid ho
 have HS9 := hid hs
 have HB9 := hid (HB.out.kept hk9 (fun e => by omega))
 have HK9 := hid (HK.out.trans hk9)
 have hgl := (ho.lt g rfl).2
 have hwX : X < w9.heap.size := HB9.out.lt
 have hgX : ¬ g = X := fun e => by have := HB.out.lt; omega
 clear ho hs hk9 HS HB HK hgw
 obtain ⟨r0, r1⟩ := HB9.out.all2
 have fr := HB9.out.frozen
 have hkr : Kept (fun b => b = X) w9 ((w9.setCell ⟨X, 0, none⟩ (.bool true)).setCell ⟨X, 1, none⟩ (.slice (some ⟨g, 0, none⟩) n1 n1)) := ((Kept.refl (fun b => b = X) w9).setCell (p := ⟨X, 0, none⟩) (.inr rfl) _).setCell (p := ⟨X, 1, none⟩) (.inr rfl) _
 have HEN := (show Hid (RecR w0 w ((w9.setCell ⟨X, 0, none⟩ (.bool true)).setCell ⟨X, 1, none⟩ (.slice (some ⟨g, 0, none⟩) n1 n1)) (.returned (.agg #[.bool true, .slice (some ⟨g, 0, none⟩) n1 n1])) B v cs k size) from ⟨true, some ⟨g, 0, none⟩, n1, bs, _, by rw [hbl], by omega, hbb, by
  rw [hbl]
  exact Own.rdA (HO.out.kept hkr (fun b hb e => by have e1 : g = b := (by simpa [Value.ownBlock] using hb); omega)) (fun b hb => by have e1 : g = b := (by simpa [Value.ownBlock] using hb); have h1 := hkr.size; have h2 := (HO.out.lt g rfl).1; omega), by omega, HS9.out.on hkr (fun e => by omega) (fun i hi e => by omega), HK9.out.next hkr (fun i hi e => by have := HX.out; omega)⟩)
 have HBE := hid ((HB9.out.stored 0 (.bool true)).stored 1 (.slice (some ⟨g, 0, none⟩) n1 n1))
 clear hkr
 go_wp2
 generalize (w9.setCell ⟨X, 0, none⟩ (.bool true)).setCell ⟨X, 1, none⟩ (.slice (some ⟨g, 0, none⟩) n1 n1) = wz at *
 obtain ⟨x0, x1⟩ := HBE.out.all2
 exact bodyPost_ret (v := .agg #[.bool true, .slice (some ⟨g, 0, none⟩) n1 n1]) (by simp [results, Try.results35, go_sem, x0, x1]) rfl HEN.out
def GoodB (bs : List Int) : Prop := ownOK bs = true ∧ IsB bs
theorem GoodB.len {bs : List Int} (h : GoodB bs) : bs.length = 4096 := ownOK_len h.1
theorem set_cases {raw : List Int} (h : GoodB raw) (s : Int) (u : Bool) (d : List Int) (hd : IsB d) (lsn : Int) :
  (pageSet raw s u d lsn = (1, []) ∧ setBad raw s u d lsn = true) ∨ (setBad raw s u d lsn = false ∧ setFull raw s.toNat d ∧ pageSet raw s u d lsn = (2, [])) ∨
  (setBad raw s u d lsn = false ∧ ¬ setFull raw s.toNat d ∧ pageSet raw s u d lsn = (0, setB raw s.toNat u d lsn) ∧ Made raw (setB raw s.toNat u d lsn) lsn (usedN (slotsOf raw) 32 - (slotsOf raw).getD (2 * s.toNat + 1) 0 + d.length) (fun k => if k = s.toNat then (u, d) else pageGet raw (k : Int))) := by
 unfold pageSet
 by_cases h1 : setBad raw s u d lsn = true
 ·rw [if_pos h1]; exact .inl ⟨rfl, h1⟩
 ·rw [if_neg h1]
  have h1' : setBad raw s u d lsn = false := by simpa using h1
  by_cases h2 : setFull raw s.toNat d
  ·rw [if_pos h2]; exact .inr (.inl ⟨h1', h2, rfl⟩)
  ·rw [if_neg h2]
   refine .inr (.inr ⟨h1', h2, rfl, ?_⟩)
   simp [setBad] at h1
   obtain ⟨hok, g1, g2, g3, g4, g5, g6⟩ := h1
   exact set_made h.2 hok s.toNat (by omega) u d hd lsn (by simp [isLSN]; omega) (by omega) (fun e => by have := g6 e; exact this) h2
theorem set_two {raw : List Int} (h : GoodB raw) (s : Int) (u : Bool) (d : List Int) (hd : IsB d) (lsn : Int) :
  ∃ (x : Int) (ys : List Int), pageSet raw s u d lsn = (x, ys) ∧ (x = 0 → GoodB ys) := by
 rcases set_cases h s u d hd lsn with ⟨e, _⟩ | ⟨_, _, e⟩ | ⟨_, _, e, hm⟩
 ·exact ⟨1, [], e, fun h => by cases h⟩
 ·exact ⟨2, [], e, fun h => by cases h⟩
 ·exact ⟨0, _, e, fun _ => ⟨hm.own, hm.isB⟩⟩
theorem good_new (n : Int) (h0 : 0 ≤ n) (h1 : n < 16) : GoodB (pageNew n) := new_own n h0 h1
theorem good_comp {raw : List Int} (h : GoodB raw) : GoodB (pageCompact raw) := by
 have := (comp_made h.2 h.1).1
 rw [show pageCompact raw = compB raw from if_pos h.1]
 exact ⟨this.own, this.isB⟩
def PgR (w0 w w' : World) (e : Ending) (B : Nat) (v : Value) (cs : List Int) (k : Nat) (size : Int) : Prop :=
 ∃ (g c : Nat) (bs : List Int) (k' : Nat), e = .returned (.slice (some ⟨g, 0, none⟩) 4096 c) ∧ bs.length = 4096 ∧ IsB bs ∧ Own w0.heap.size 5 .u8 w' (.slice (some ⟨g, 0, none⟩) 4096 c) bs ∧ ¬ g = B ∧ k' ≤ k + 400 ∧ SrcR w0 w' B v cs k' size ∧ w.heap.size ≤ g ∧ Kept (fun b => b = B) w w'
structure PgI (w0 w wr : World) (B : Nat) (v : Value) (cs : List Int) (k : Nat) (size : Int) (g c : Nat) (bs : List Int) : Prop where
 src : SrcR w0 wr B v cs k size
 own : Own 0 5 .u8 wr (.slice (some ⟨g, 0, none⟩) 4096 c) bs
 new : w.heap.size ≤ g
 kept : Kept (fun b => b = B) w wr
 good : GoodB bs
section
variable {w0 w wr wx : World} {B : Nat} {v : Value} {cs : List Int} {k k' : Nat} {size : Int} {g c : Nat} {bs : List Int}
theorem PgI.same (h : PgI w0 w wr B v cs k size g c bs) (hk : Same wr wx) : PgI w0 w wx B v cs k size g c bs :=
 ⟨h.src.same hk, h.own.same hk, h.new, h.kept.trans (hk.mono (fun _ _ e => e.elim)), h.good⟩
theorem PgI.draw (h : PgI w0 w wr B v cs k size g c bs) (hB : B < w.heap.size) (hs : SrcR w0 wx B v cs k' size) (hk : Kept (fun b => b = B) wr wx) : PgI w0 w wx B v cs k' size g c bs :=
 ⟨hs, h.own.kept hk (fun b hb e => by have e1 : g = b := (by simpa [Value.ownBlock] using hb); have := h.new; omega), h.new, h.kept.trans hk, h.good⟩
theorem PgI.other {a : Option Addr} {c' : Nat} {ys : List Int} (h : PgI w0 w wr B v cs k size g c bs) (hk : Same wr wx) (ho : Own 0 5 .u8 wx (.slice a ys.length c') ys) (hf : ∀ b, (Value.slice a ys.length c').ownBlock = some b → wr.heap.size ≤ b) (hg : GoodB ys) : ∃ g', a = some ⟨g', 0, none⟩ ∧ PgI w0 w wx B v cs k size g' c' ys := by
 obtain ⟨g', rfl⟩ := own_some ho (by rw [hg.len]; decide)
 rw [hg.len] at ho
 exact ⟨g', rfl, h.src.same hk, ho, Nat.le_trans h.kept.size (hf g' rfl), h.kept.trans (hk.mono (fun _ _ e => e.elim)), hg⟩
end
theorem pg_k {w0 w : World} {B : Nat} {v : Value} {cs : List Int} {k : Nat} {size : Int} (number : Int) (h0 : 0 ≤ number) (h1 : number < 16) (h : SrcR w0 w B v cs k size) (hk : k ≤ 1073741000) :
  Calls Try.prog 16 #[.pointer (some ⟨B, 0, none⟩), .int .i64 number] w fun e w' => PgR w0 w w' e B v cs k size := by
 have hBw := h.lt
 have hw0 := h.kept.size
 have hsz := h.src.little
 have kN := specNew_any number w
 have HS := hid h
 clear h
 go_enter Try.func16, Try.ntmps16
 go_wp2_with fail
 refine kN.mono ?_
 rintro e w1 ⟨a, c, rfl, hf, ho, hk1⟩
 have hgd := good_new number h0 h1
 obtain ⟨g, rfl⟩ := own_some ho (by rw [hgd.len]; decide)
 have hgl := hgd.len
 have HI := (show Hid (PgI w0 w w1 B v cs k size g c (pageNew number)) from ⟨HS.out.same hk1, by rw [hgl] at ho; exact ho, hf g rfl, hk1.mono (fun _ _ e => e.elim), hgd⟩)
 rw [hgl]
 clear hf ho hk1 kN HS hgd hgl
 generalize pageNew number = bs at HI
 obtain ⟨_, _, s2⟩ := HI.out.src.src.blk.all3
 have q0 : IntKind.i64.wrap (8 + size) = 8 + size := by rw [IntKind.wrap_i64]; omega
 go_wp2_with fail
 refine (next_k (8 + size) HI.out.src (by omega) (by constructor <;> omega)).mono ?_
 rintro e w2 ⟨n, rfl, hd, hs2, hk2⟩
 obtain ⟨hn1, hn2⟩ := hd.2 (by omega)
 have HI2 := hid (HI.out.draw hBw hs2 hk2)
 obtain ⟨N, rfl⟩ : ∃ N : Nat, n = (N : Int) := ⟨n.toNat, by omega⟩
 have hN : N ≤ 20 := by omega
 clear hd hs2 hk2 HI s2 q0 hn1 hn2
 go_wp2_with fail
 go_loopw [5, 6] (fun p i wr => ∃ (j k' g c : Nat) (bs : List Int), j ≤ N ∧ p = .slice (some ⟨g, 0, none⟩) 4096 c ∧ i = .int .i64 (j : Int) ∧ k' ≤ k + 1 + 12 * (N - j) ∧ Hid (PgI w0 w wr B v cs k' size g c bs)) (fun _ i _ => (intOf i).toNat)
 case atStart => exact ⟨N, k + 1, g, c, bs, Nat.le_refl _, rfl, rfl, by omega, HI2⟩
 case round =>
  obtain ⟨j, k', g, c, bs, hj, rfl, rfl, hk', HI⟩ := hrel
  cases j with
  | succ j =>
   go_wp2_with fail
   refine (next_k 6 HI.out.src (by omega) (by constructor <;> decide)).mono ?_
   rintro e w3 ⟨q, rfl, hd, hs3, hk3⟩
   obtain ⟨hq1, hq2⟩ := hd.2 (by decide)
   have HI3 := hid (HI.out.draw hBw hs3 hk3)
   clear hd hs3 hk3
   go_wp2_with fail
   refine (next_k 7 HI3.out.src (by omega) (by constructor <;> decide)).mono ?_
   rintro e w4 ⟨r, rfl, hd, hs4, hk4⟩
   obtain ⟨hr1, hr2⟩ := hd.2 (by decide)
   have HI4 := hid (HI3.out.draw hBw hs4 hk4)
   clear hd hs4 hk4
   obtain ⟨m, hm⟩ : ∃ m, q * r = m := ⟨_, rfl⟩
   have hm1 : 0 ≤ m := by rw [← hm]; exact Int.mul_nonneg (by omega) (by omega)
   have hm2 : m ≤ 30 := by
    have h := Int.mul_le_mul (show q ≤ 5 from by omega) (show r ≤ 6 from by omega) (by omega) (by omega)
    omega
   have q1 : IntKind.i64.wrap (q * r) = m := by rw [IntKind.wrap_i64, hm]; omega
   clear hm
   go_wp2_with fail
   refine (rec_k HI4.out.src (by omega)).mono ?_
   rintro e w5 ⟨u, ra, rc, d, k5, rfl, hd1, hd2, hd3, hk5, hs5, hkk5⟩
   have HI5 := hid (HI4.out.draw hBw hs5 hkk5)
   have HD2 := hid hd2
   have HD3 := hid hd3
   clear hd2 hd3 hs5 hkk5
   go_wp2_with fail
   refine (next_k 100000 HI5.out.src (by omega) (by constructor <;> decide)).mono ?_
   rintro e w6 ⟨l, rfl, hd, hs6, hk6⟩
   obtain ⟨hl1, hl2⟩ := hd.2 (by decide)
   have HI6 := hid (HI5.out.draw hBw hs6 hk6)
   have HD6 := hid (HD3.out.draw hk6).rd
   clear hd hs6 hk6
   have kS := fun s lsn => specSet_any (.slice (some ⟨g, 0, none⟩) 4096 c) bs s u ra rc d lsn w6 HI6.out.good.2 (by rw [HI6.out.good.len]; decide) HI6.out.own.rd (by omega) HD6.out
   have HC := (show Hid (∀ s lsn, ∃ (x : Int) (ys : List Int), pageSet bs s u d lsn = (x, ys) ∧ (x = 0 → GoodB ys)) from fun s lsn => set_two HI6.out.good s u d HD2.out lsn)
   go_wp2_with fail
   refine (kS _ _).mono ?_
   rintro e w7 ⟨a, c7, rfl, hf, ho, hk7⟩
   obtain ⟨x, ys, hxy, hgd⟩ := HC.out _ _
   rw [hxy] at hf ho ⊢
   dsimp only at hf ho ⊢
   have HI7 := hid (HI6.out.same hk7)
   have HX := (show Hid (∀ o, x = 0 → ∃ g', a = some ⟨g', 0, none⟩ ∧ ys.length = 4096 ∧ PgI w0 w (w7.alloc o) B v cs (k5 + 1) size g' c7 ys) from fun o hx => by
    obtain ⟨g', e, h⟩ := HI6.out.other hk7 ho hf (hgd hx)
    exact ⟨g', e, (hgd hx).len, h.same ((Kept.refl _ _).alloc _)⟩)
   clear hf ho hk7 hgd hxy kS HC HI6 HI5 HI4 HI3 HI
   by_cases hx : x = 0
   ·subst hx
    obtain ⟨g', rfl, hyl, hP⟩ := HX.out (.cells #[.int .i64 0, .slice a ys.length c7] 27) rfl
    rw [hyl] at hP ⊢
    have HP := hid hP
    clear hP HX hyl HI7
    go_wp2_with fail
    go_roundw
    case rel => exact ⟨j, k5 + 1, g', c7, ys, by omega, rfl, by go_num, by omega, HP⟩
    case measure => simp [intOf]
   ·have ex : (x == 0) = false := by simp [hx]
    have HP := hid (HI7.out.same ((Kept.refl _ _).alloc (.cells #[.int .i64 x, .slice a ys.length c7] 27)))
    clear HX HI7
    go_wp2_with fail
    go_roundw
    case rel => exact ⟨j, k5 + 1, g, c, bs, by omega, rfl, by go_num, by omega, HP⟩
    case measure => simp [intOf]
  | zero =>
   have hkk : k' ≤ k + 241 := by omega
   go_wp2_with fail
   refine (chance_k 8 HI.out.src (by omega) (by constructor <;> decide)).mono ?_
   rintro e w3 ⟨b, rfl, hs3, hk3⟩
   have HI3 := hid (HI.out.draw hBw hs3 hk3)
   clear hs3 hk3 HI
   have fin : ∀ (w4 w5 : World) (g c : Nat) (bs : List Int) (a : Option Addr) (c5 : Nat), PgI w0 w w4 B v cs (k' + 1) size g c bs → (∀ b, (Value.slice a (pageSeal bs).length c5).ownBlock = some b → w4.heap.size ≤ b) → Own 0 5 .u8 w5 (.slice a (pageSeal bs).length c5) (pageSeal bs) → Same w4 w5 → PgR w0 w w5 (.returned (.slice a (pageSeal bs).length c5)) B v cs k size := by
    intro w4 w5 g c bs a c5 hI hf ho hk
    obtain ⟨e1, e2, e3, _⟩ := seal_two hI.good.len hI.good.2
    rw [e1] at hf ho ⊢
    rw [e3] at hf ho ⊢
    obtain ⟨g', rfl⟩ := own_some ho (by rw [e3]; decide)
    have h1 := hf g' rfl
    have h2 := hI.kept.size
    exact ⟨g', c5, _, k' + 1, rfl, e3, e2, ho.mono (fun b hb => by have := hf b hb; omega), by omega, by omega, hI.src.same hk, by omega, hI.kept.trans (hk.mono (fun _ _ e => e.elim))⟩
   have kL := fun g c bs (wx : World) (hI : PgI w0 w wx B v cs (k' + 1) size g c bs) => specSeal_any (.slice (some ⟨g, 0, none⟩) 4096 c) bs wx hI.good.2 (by rw [hI.good.len]; decide) hI.own.rd
   cases b
   ·go_wp2_with fail
    refine (kL _ _ _ _ HI3.out).mono ?_
    rintro e w5 ⟨a, c5, rfl, hf, ho, hk5⟩
    have HE := hid (fin _ _ _ _ _ _ _ HI3.out hf ho hk5)
    clear fin kL hf ho hk5
    go_wp2
    go_ret
    exact HE.out
   ·have kC := specComp_any (.slice (some ⟨g, 0, none⟩) 4096 c) bs w3 HI3.out.good.2 (by rw [HI3.out.good.len]; decide) HI3.out.own.rd
    go_wp2_with fail
    refine kC.mono ?_
    rintro e w4 ⟨a4, c4, rfl, hf4, ho4, hk4⟩
    have hg4 := good_comp HI3.out.good
    obtain ⟨g4, rfl, hI4⟩ := HI3.out.other hk4 ho4 hf4 hg4
    rw [hg4.len]
    have HI4 := hid hI4
    clear hI4 hf4 ho4 hk4 hg4 kC
    go_wp2_with fail
    refine (kL _ _ _ _ HI4.out).mono ?_
    rintro e w5 ⟨a, c5, rfl, hf, ho, hk5⟩
    have HE := hid (fin _ _ _ _ _ _ _ HI4.out hf ho hk5)
    clear fin kL hf ho hk5
    go_wp2
    go_ret
    exact HE.out
def BnG (R : Nat → Prop) (g : Nat) (w0 w w' : World) (e : Ending) (B : Nat) (v : Value) (cs : List Int) (k : Nat) (size : Int) : Prop :=
 ∃ (off n c : Nat) (bs : List Int) (k' : Nat), e = .returned (.slice (some ⟨g, off, none⟩) n c) ∧ bs.length = n ∧ n ≤ 4096 ∧ IsB bs ∧ RdA w0.heap.size w'.heap.size B w' (.slice (some ⟨g, off, none⟩) n c) bs ∧ k' ≤ k ∧ SrcR w0 w' B v cs k' size ∧ Kept R w w'
theorem isB_set {bs : List Int} (h : IsB bs) (i : Nat) (x : Int) (hx : 0 ≤ x ∧ x ≤ 255) : IsB (bs.set i x) := by
 intro y hy
 rcases List.mem_or_eq_of_mem_set hy with hy | rfl
 ·exact h y hy
 ·exact hx
theorem bg_of {R : Nat → Prop} {w0 w w' : World} {B : Nat} {v : Value} {cs : List Int} {k k' : Nat} {size : Int} {g c : Nat} {bs : List Int} (ho : Own 0 5 .u8 w' (.slice (some ⟨g, 0, none⟩) 4096 c) bs) (hl : bs.length = 4096) (hB : IsB bs) (hg : ¬ g = B) (hw : w0.heap.size ≤ g) (hk : k' ≤ k) (hs : SrcR w0 w' B v cs k' size) (hkk : Kept R w w') : BnG R g w0 w w' (.returned (.slice (some ⟨g, 0, none⟩) 4096 c)) B v cs k size :=
 ⟨0, 4096, c, bs, k', rfl, hl, Nat.le_refl _, hB, ho.rdA (fun b hb => by have e1 : g = b := (by simpa [Value.ownBlock] using hb); have := (ho.lt b hb).2; omega), hk, hs, hkk⟩
structure BnI (w0 w wr : World) (B : Nat) (v : Value) (cs : List Int) (k : Nat) (size : Int) (g c : Nat) (bs : List Int) : Prop where
 src : SrcR w0 wr B v cs k size
 own : Own 0 5 .u8 wr (.slice (some ⟨g, 0, none⟩) 4096 c) bs
 kept : Kept (fun b => b = B ∨ b = g) w wr
 len : bs.length = 4096
 isB : IsB bs
section
variable {w0 w wr wx : World} {B : Nat} {v : Value} {cs : List Int} {k k' kE : Nat} {size : Int} {g c : Nat} {bs : List Int}
theorem BnI.same (h : BnI w0 w wr B v cs k size g c bs) (hk : Same wr wx) : BnI w0 w wx B v cs k size g c bs :=
 ⟨h.src.same hk, h.own.same hk, h.kept.trans (hk.mono (fun _ _ e => e.elim)), h.len, h.isB⟩
theorem BnI.draw (h : BnI w0 w wr B v cs k size g c bs) (hg : ¬ g = B) (hs : SrcR w0 wx B v cs k' size) (hk : Kept (fun b => b = B) wr wx) : BnI w0 w wx B v cs k' size g c bs :=
 ⟨hs, h.own.kept hk (fun b hb e => by have e1 : g = b := (by simpa [Value.ownBlock] using hb); omega), h.kept.trans (hk.mono (fun _ _ e => .inl e)), h.len, h.isB⟩
theorem BnI.store (h : BnI w0 w wr B v cs k size g c bs) (hg : ¬ g = B) (hw : w0.heap.size ≤ g) (j : Nat) (x : Int) (hx : 0 ≤ x ∧ x ≤ 255) : BnI w0 w (wr.setCell ⟨g, j, none⟩ (.int .u8 x)) B v cs k size g c (bs.set j x) := by
 have hkr : Kept (fun b => b = g) wr (wr.setCell ⟨g, j, none⟩ (.int .u8 x)) := (Kept.refl (fun b => b = g) wr).setCell (p := ⟨g, j, none⟩) (.inr rfl) _
 exact ⟨h.src.on hkr (fun e => by omega) (fun i hi e => by omega), h.own.stored h.len.symm j x, h.kept.trans (hkr.mono (fun _ _ e => .inr e)), by rw [List.length_set, h.len], isB_set h.isB j x hx⟩
theorem BnI.other {ys : List Int} (h : BnI w0 w wr B v cs k size g c bs) (hg : ¬ g = B) (hw : w0.heap.size ≤ g) (ho : Own 0 5 .u8 wx (.slice (some ⟨g, 0, none⟩) 4096 c) ys) (hkr : Kept (fun b => b = g) wr wx) (hl : ys.length = 4096) (hB : IsB ys) : BnI w0 w wx B v cs k size g c ys :=
 ⟨h.src.on hkr (fun e => by omega) (fun i hi e => by omega), ho, h.kept.trans (hkr.mono (fun _ _ e => .inr e)), hl, hB⟩
theorem BnI.fin (h : BnI w0 w wr B v cs k size g c bs) (hg : ¬ g = B) (hw : w0.heap.size ≤ g) (hk : k ≤ kE) : BnG (fun b => b = B ∨ b = g) g w0 w wr (.returned (.slice (some ⟨g, 0, none⟩) 4096 c)) B v cs kE size := bg_of h.own h.len h.isB hg hw hk h.src h.kept
end
theorem bend_g {w0 w : World} {B : Nat} {v : Value} {cs : List Int} {k : Nat} {size : Int} (g c : Nat) (bs : List Int) (h : SrcR w0 w B v cs k size) (hk : k ≤ 1073741000) (hg : ¬ g = B) (hw : w0.heap.size ≤ g) (hl : bs.length = 4096) (hbb : IsB bs) (ho : Own 0 5 .u8 w (.slice (some ⟨g, 0, none⟩) 4096 c) bs) :
  Calls Try.prog 17 #[.pointer (some ⟨B, 0, none⟩), .slice (some ⟨g, 0, none⟩) 4096 c] w fun e w' => BnG (fun b => b = B ∨ b = g) g w0 w w' e B v cs (k + 4) size := by
 have hcap : 4096 ≤ c := ho.caps.2
 have HI := (show Hid (BnI w0 w w B v cs k size g c bs) from ⟨h, ho, Kept.refl _ _, hl, hbb⟩)
 clear h ho hl hbb
 go_enter Try.func17, Try.ntmps17
 go_wp2_with fail
 refine (next_k 9 HI.out.src (by omega) (by constructor <;> decide)).mono ?_
 rintro e w1 ⟨z, rfl, hd, hs1, hk1⟩
 have HI1 := hid (HI.out.draw hg hs1 hk1)
 clear hd hs1 hk1 HI
 by_cases z0 : z = 0
 ·subst z0
  have h1 : ¬ c = 1 := by omega
  have h2 : (1 : Int) ≤ (c : Int) := by omega
  have HE := (show Hid (BnG (fun b => b = B ∨ b = g) g w0 w w1 (.returned (.slice (some ⟨g, 1, none⟩) 4095 (c - 1))) B v cs (k + 4) size) from ⟨1, 4095, c - 1, (bs.drop 1).take 4095, k + 1, rfl, by rw [List.length_take, List.length_drop, HI1.out.len]; rfl, by omega, isB_take (isB_drop HI1.out.isB _) _, fun w2 h2 => by
   have ho := HI1.out.own.kept h2 (fun b hb e => by have e1 : g = b := (by simpa [Value.ownBlock] using hb); have := (HI1.out.own.lt b hb).2; omega)
   have h := Rd.part (k := .u8) (w := w2) (b := g) (off := 0) (n := 4095) (c := c - 1) (bs := bs) (fun i hi => by rw [Nat.zero_add]; exact ho.cell HI1.out.len.symm i (by rw [← HI1.out.len]; exact hi)) 1 4095 (by rw [HI1.out.len]; omega) rfl (by omega) (by unfold maxLen; omega)
   rw [Nat.zero_add] at h
   exact h, by omega, HI1.out.src, HI1.out.kept⟩)
  go_wp2
  go_ret
  exact HE.out
 have e0 : (z == 0) = false := by simp [z0]
 by_cases z1 : z = 1
 ·subst z1
  have u0 := HI1.out.own.cell HI1.out.len.symm 15 (by omega)
  have uf := HI1.out.own.frozen HI1.out.len.symm 15
  have HI2 := hid (HI1.out.store hg hw 15 _ (wrapU8_bounds (bs.getD 15 0 + 1)))
  clear HI1
  go_wp2
  go_ret
  exact HI2.out.fin hg hw (by omega)
 have e1 : (z == 1) = false := by simp [z1]
 by_cases z2 : z = 2
 ·subst z2
  go_wp2_with fail
  refine (next_k 256 HI1.out.src (by omega) (by constructor <;> decide)).mono ?_
  rintro e w2 ⟨r, rfl, hd, hs', hk'⟩
  obtain ⟨hr1, hr2⟩ := hd.2 (by decide)
  have HI2 := hid (HI1.out.draw hg hs' hk')
  clear hd hs' hk' HI1
  have u0 := HI2.out.own.cell HI2.out.len.symm 4 (by omega)
  have uf := HI2.out.own.frozen HI2.out.len.symm 4
  have HI3 := hid (HI2.out.store hg hw 4 r (by omega))
  clear HI2
  go_wp2
  go_ret
  exact HI3.out.fin hg hw (by omega)
 have e2 : (z == 2) = false := by simp [z2]
 by_cases z3 : z = 3
 ·subst z3
  go_wp2_with fail
  refine (next_k 2 HI1.out.src (by omega) (by constructor <;> decide)).mono ?_
  rintro e w2 ⟨r, rfl, hd, hs', hk'⟩
  obtain ⟨hr1, hr2⟩ := hd.2 (by decide)
  have HI2 := hid (HI1.out.draw hg hs' hk')
  clear hd hs' hk' HI1
  obtain ⟨r, rfl⟩ : ∃ m : Nat, r = (m : Int) := ⟨r.toNat, by omega⟩
  obtain ⟨at1, hat⟩ : ∃ m : Nat, 18 + r = m := ⟨_, rfl⟩
  have q1 : IntKind.i64.wrap (18 + (r : Int)) = (at1 : Int) := by rw [IntKind.wrap_i64]; omega
  have hat2 : at1 ≤ 19 := by omega
  clear hat
  have u0 := HI2.out.own.cell HI2.out.len.symm at1 (by omega)
  have uf := HI2.out.own.frozen HI2.out.len.symm at1
  have HI3 := hid (HI2.out.store hg hw at1 1 (by omega))
  clear HI2
  go_wp2
  go_ret
  exact HI3.out.fin hg hw (by omega)
 have e3 : (z == 3) = false := by simp [z3]
 by_cases z4 : z = 4
 ·subst z4
  go_wp2_with fail
  refine (next_k 20 HI1.out.src (by omega) (by constructor <;> decide)).mono ?_
  rintro e w2 ⟨r, rfl, hd, hs', hk'⟩
  obtain ⟨hr1, hr2⟩ := hd.2 (by decide)
  have HI2 := hid (HI1.out.draw hg hs' hk')
  clear hd hs' hk' HI1
  have u0 := HI2.out.own.cell HI2.out.len.symm 16 (by omega)
  have uf := HI2.out.own.frozen HI2.out.len.symm 16
  have HI3 := hid (HI2.out.store hg hw 16 r (by omega))
  clear HI2
  go_wp2
  go_ret
  exact HI3.out.fin hg hw (by omega)
 have e4 : (z == 4) = false := by simp [z4]
 by_cases z5 : z = 5
 ·subst z5
  go_wp2_with fail
  refine (next_k 128 HI1.out.src (by omega) (by constructor <;> decide)).mono ?_
  rintro e w2 ⟨r, rfl, hd, hs', hk'⟩
  obtain ⟨hr1, hr2⟩ := hd.2 (by decide)
  have HI2 := hid (HI1.out.draw hg hs' hk')
  clear hd hs' hk' HI1
  obtain ⟨r, rfl⟩ : ∃ m : Nat, r = (m : Int) := ⟨r.toNat, by omega⟩
  obtain ⟨at1, hat⟩ : ∃ m : Nat, 20 + r = m := ⟨_, rfl⟩
  have q1 : IntKind.i64.wrap (20 + (r : Int)) = (at1 : Int) := by rw [IntKind.wrap_i64]; omega
  have hat2 : at1 ≤ 147 := by omega
  clear hat
  go_wp2_with fail
  refine (next_k 256 HI2.out.src (by omega) (by constructor <;> decide)).mono ?_
  rintro e w3 ⟨q, rfl, hd, hs', hk'⟩
  obtain ⟨hq1, hq2⟩ := hd.2 (by decide)
  have HI3 := hid (HI2.out.draw hg hs' hk')
  clear hd hs' hk' HI2
  have u0 := HI3.out.own.cell HI3.out.len.symm at1 (by omega)
  have uf := HI3.out.own.frozen HI3.out.len.symm at1
  have HI4 := hid (HI3.out.store hg hw at1 q (by omega))
  clear HI3
  go_wp2
  go_ret
  exact HI4.out.fin hg hw (by omega)
 have e5 : (z == 5) = false := by simp [z5]
 by_cases z6 : z = 6
 ·subst z6
  have n1 : ¬ c = 144 := by omega
  have n2 : ¬ c = 20 := by omega
  have g1 : (144 : Int) ≤ (c : Int) := by omega
  have g2 : (24 : Int) ≤ (c : Int) := by omega
  have hr : Rd .u8 w1 (.slice (some ⟨g, 20, none⟩) 4 (c - 20)) ((bs.drop 20).take 4) := by
   have h := Rd.part (k := .u8) (w := w1) (b := g) (off := 0) (n := 4) (c := c - 20) (bs := bs) (fun i hi => by rw [Nat.zero_add]; exact HI1.out.own.cell HI1.out.len.symm i (by rw [← HI1.out.len]; exact hi)) 20 4 (by rw [HI1.out.len]; omega) rfl (by omega) (by unfold maxLen; omega)
   rw [Nat.zero_add] at h
   exact h
  obtain ⟨ys, hys⟩ : ∃ ys, (bs.drop 20).take 4 = ys := ⟨_, rfl⟩
  have hyl : ys.length = 4 := by rw [← hys, List.length_take, List.length_drop, HI1.out.len]; rfl
  have HYB := (show Hid (IsB ys) from by unfold Hid; rw [← hys]; exact isB_take (isB_drop HI1.out.isB _) _)
  rw [hys] at hr
  clear hys
  have hkd : Same w1 w1.drew := (Kept.refl _ _).drew
  have hcp := run_copyOwn (P := Try.prog) 3 Try.underlying22 byte_one (HI1.out.own.same hkd) HI1.out.len.symm 144 (by omega) (hr.same hkd)
  rw [show behind g c 144 = some ⟨g, 144, none⟩ from if_neg n1, hyl] at hcp
  have HI2 := hid (HI1.out.other hg hw ((HI1.out.own.same hkd).laid HI1.out.len.symm 144 ys (by omega)) (Kept.setCells (R := fun b => b = g) (.inr rfl) _ _ (hkd.mono (fun _ _ e => e.elim))) (by rw [layI_length _ _ _ (by rw [HI1.out.len]; omega), HI1.out.len]) (isB_lay HI1.out.isB HYB.out _))
  clear hkd hr HYB
  go_wp2_with fail
  have hS : (fun _ : World => True) w1.drew := by trivial
  refine wp_region_V (fun _ : World => True) 99 5 rfl (by kernel_rfl) ?_
  refine tk 0 54 hS ?_
  refine tkV 1 55 (.slice (some ⟨g, 144, none⟩) (4096 - 144) (c - 144)) hS ?_
  refine tk 2 56 hS ?_
  refine tkV 3 57 (.slice (some ⟨g, 20, none⟩) 4 (c - 20)) hS ?_
  refine wpAnyV_one (i := 4) (by kernel_rfl) rfl (fun K hK => ?_)
  go_simp
  refine hK.out _ _ (fun _ => trivial) ?_
  clear hK K
  refine wpAnyV_done (by kernel_rfl) ?_
  try simp only [Act.put, sA, s0, sS]
  generalize w1.drew.setCells g 144 (vals .u8 ys) = w2 at HI2 ⊢
  clear hcp hS
  go_wp2
  go_ret
  exact HI2.out.fin hg hw (by omega)
 have e6 : (z == 6) = false := by simp [z6]
 by_cases z7 : z = 7
 ·subst z7
  go_wp2_with fail
  refine (next_k 3 HI1.out.src (by omega) (by constructor <;> decide)).mono ?_
  rintro e w2 ⟨r, rfl, hd, hs', hk'⟩
  obtain ⟨hr1, hr2⟩ := hd.2 (by decide)
  have HI2 := hid (HI1.out.draw hg hs' hk')
  clear hd hs' hk' HI1
  have q1 : IntKind.i64.wrap (4096 - r) = 4096 - r := by rw [IntKind.wrap_i64]; omega
  go_wp2_with fail
  refine (next_k 3 HI2.out.src (by omega) (by constructor <;> decide)).mono ?_
  rintro e w3 ⟨q, rfl, hd, hs', hk'⟩
  obtain ⟨hq1, hq2⟩ := hd.2 (by decide)
  have HI3 := hid (HI2.out.draw hg hs' hk')
  clear hd hs' hk' HI2
  go_wp2_with fail
  refine (l3Set_any g c bs 30 (4096 - r) q w3 HI3.out.len (by decide) (by omega) (by omega) HI3.out.own).mono ?_
  rintro e w4 ⟨rfl, ho4, hk4⟩
  have HI4 := hid (HI3.out.other hg hw ho4 hk4 (by rw [layI_length _ _ _ (by rw [layI_length _ _ _ (by rw [lows_length, HI3.out.len]; omega), lows_length, HI3.out.len]; omega), layI_length _ _ _ (by rw [lows_length, HI3.out.len]; omega), HI3.out.len]) (isB_lay (isB_lay HI3.out.isB (lows_isB _ _) _) (lows_isB _ _) _))
  clear ho4 hk4 HI3
  go_wp2
  go_ret
  exact HI4.out.fin hg hw (by omega)
 have e7 : (z == 7) = false := by simp [z7]
 by_cases z8 : z = 8
 ·subst z8
  have hn16 := numAt_in bs HI1.out.isB 16 2 (by decide) (by decide) (by rw [HI1.out.len]; decide)
  go_wp2_with fail
  refine (l3Bottom_any g 0 c bs w1 HI1.out.isB HI1.out.len HI1.out.own.rd).mono ?_
  rintro e w2 ⟨rfl, hk2⟩
  have HI2 := hid (HI1.out.same hk2)
  clear hk2 HI1
  obtain ⟨nb, hnb⟩ : ∃ x, numAt bs 16 2 = x := ⟨_, rfl⟩
  rw [hnb] at hn16 ⊢
  clear hnb
  go_wp2_with fail
  refine (next_k 2 HI2.out.src (by omega) (by constructor <;> decide)).mono ?_
  rintro e w3 ⟨q, rfl, hd, hs', hk'⟩
  obtain ⟨hq1, hq2⟩ := hd.2 (by decide)
  have HI3 := hid (HI2.out.draw hg hs' hk')
  clear hd hs' hk' HI2
  have q1 : IntKind.i64.wrap (q * 1000) = q * 1000 := by rw [IntKind.wrap_i64]; omega
  go_wp2_with fail
  refine (l3Set_any g c bs 29 nb (q * 1000) w3 HI3.out.len (by decide) (by omega) (by omega) HI3.out.own).mono ?_
  rintro e w4 ⟨rfl, ho4, hk4⟩
  have HI4 := hid (HI3.out.other hg hw ho4 hk4 (by rw [layI_length _ _ _ (by rw [layI_length _ _ _ (by rw [lows_length, HI3.out.len]; omega), lows_length, HI3.out.len]; omega), layI_length _ _ _ (by rw [lows_length, HI3.out.len]; omega), HI3.out.len]) (isB_lay (isB_lay HI3.out.isB (lows_isB _ _) _) (lows_isB _ _) _))
  clear ho4 hk4 HI3
  go_wp2
  go_ret
  exact HI4.out.fin hg hw (by omega)
 have e8 : (z == 8) = false := by simp [z8]
 go_wp2
 go_ret
 exact HI1.out.fin hg hw (by omega)
end Go.Proofs.Ytcldagphkpkdpaa
