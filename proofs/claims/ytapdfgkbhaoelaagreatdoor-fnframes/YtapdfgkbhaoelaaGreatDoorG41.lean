import Derived.Test.YtapdfgkbhaoelaaGreatDoorSetS
namespace Go.Proofs.YtapdfgkbhaoelaaGreatDoor
set_option maxRecDepth 100000
set_option maxHeartbeats 8000000
set_option linter.unusedVariables false
set_option linter.unusedSimpArgs false
open Go.RowKit
def RdA (base lo B : Nat) (w : World) (v : Value) (bs : List Int) : Prop := ∀ w', Kept (fun b => b = B ∨ lo ≤ b ∨ b < base) w w' → Rd .u8 w' v bs
theorem RdA.rd {base lo B : Nat} {w : World} {v : Value} {bs : List Int} (h : RdA base lo B w v bs) : Rd .u8 w v bs := h w kZ0
theorem RdA.on {base lo B : Nat} {w w' : World} {v : Value} {bs : List Int} (h : RdA base lo B w v bs) (hk : Kept (fun b => b = B ∨ lo ≤ b ∨ b < base) w w') : RdA base lo B w' v bs := fun w2 h2 => h w2 (hk.trans h2)
theorem RdA.same {base lo B : Nat} {w w' : World} {v : Value} {bs : List Int} (h : RdA base lo B w v bs) (hk : Same w w') : RdA base lo B w' v bs := h.on (hk.mono (fun _ _ e => e.elim))
theorem RdA.draw {base lo B : Nat} {w w' : World} {v : Value} {bs : List Int} (h : RdA base lo B w v bs) (hk : Kept (fun b => b = B) w w') : RdA base lo B w' v bs := h.on (hk.mono (fun _ _ e => .inl e))
theorem Own.rdA {b0 : Nat} {e : TypeId} {base lo B : Nat} {w : World} {v : Value} {bs : List Int} (h : Own b0 e .u8 w v bs) (hB : ∀ b, v.ownBlock = some b → ¬ b = B ∧ b < lo ∧ base ≤ b) : RdA base lo B w v bs := fun w' hk =>
 (h.kept hk (fun b hb e => by have := hB b hb; omega)).rd
def jdb (w0 w w' : World) (e : Ending) (B : Nat) (v : Value) (cs : List Int) (k : Nat) (size : Int) : Prop :=
 ∃ (u : Bool) (a : Option Addr) (c : Nat) (d : List Int) (k' : Nat), e = .returned (.agg #[.bool u, .slice a d.length c]) ∧ d.length ≤ 1000 ∧ IsB d ∧ RdA w0.heap.size w'.heap.size B w' (.slice a d.length c) d ∧ k' ≤ k + 8 ∧ SrcR w0 w' B v cs k' size ∧ Kept (fun b => b = B) w w'
theorem jfz {w0 w : World} {B : Nat} {v : Value} {cs : List Int} {k : Nat} {size : Int} (h : SrcR w0 w B v cs k size) (hk : k ≤ 1073741800) :
  Calls Tryz.prog 85 #[Q2 B 0] w fun e w' => jdb w0 w w' e B v cs k size := by
 have b0 := Blk.new w #[.bool false, Q4] 24;have eT := h.lt;have gU := h.kept.size;have aW : Same w (w.alloc (.cells #[.bool false, Q4] 24)) := kZ0.alloc _;have jl := hid (h.same aW);clear h
 go_enter Tryz.func85, Tryz.ntmps85
 go_upto_region 1 with fail
 obtain ⟨X, hX⟩ : ∃ X, w.heap.size = X := ⟨_, rfl⟩;have HX := hid hX;rw [hX] at b0 eT gU;generalize fG : w.alloc (.cells #[.bool false, Q4] 24) = w1 at *;have aP := hid aW;have dO := hid b0;rw [hX];clear aW b0 hX fG
 go_wp2_with fail
 refine (Pd 10 jl.out (by omega) (by constructor <;> decide)).mono ?_;rintro e w2 ⟨z, rfl, hd, eL, aj⟩;obtain ⟨cE, cP⟩ := hd.2 (by decide);have fW := hid eL;have aO : Hid (Kept (fun b => b = B) w w2) := (aP.out.mono (fun _ _ e => e.elim)).trans aj;have eI := hid (dO.out.kept aj (fun e => by omega));clear hd eL aj jl dO
 by_cases z0 : z = 0
 ·subst z0
  obtain ⟨r0, r1⟩ := eI.out.all2;have fr := eI.out.frozen;have lr := eI.out.lt;have aX : Kept (fun b => b = X) w2 ((w2.setCell ⟨X, 0, none⟩ (.bool false)).setCell ⟨X, 1, none⟩ (Q4)) := ((Kept.refl (fun b => b = X) w2).setCell (p := ⟨X, 0, none⟩) (.inr rfl) _).setCell (p := ⟨X, 1, none⟩) (.inr rfl) _;have gd : Hid (jdb w0 w ((w2.setCell ⟨X, 0, none⟩ (.bool false)).setCell ⟨X, 1, none⟩ (Q4)) (.returned (.agg #[.bool false, Q4])) B v cs k size) := ⟨false, none, 0, [], k + 1, rfl, by simp, fun x hx => by simp at hx, fun w3 _ => ⟨Nat.zero_le _, .inl ⟨rfl, none, 0, rfl, fun _ => rfl⟩⟩, by omega, fW.out.on aX (fun e => by omega) (fun i hi e => by omega), aO.out.next aX (fun i hi e => by have := HX.out; omega)⟩;have fp := hid ((eI.out.stored 0 (.bool false)).stored 1 (Q4));clear aX;go_wp2;generalize (w2.setCell ⟨X, 0, none⟩ (.bool false)).setCell ⟨X, 1, none⟩ (Q4) = wz at *;obtain ⟨x0, x1⟩ := fp.out.all2;exact bodyPost_ret (v := .agg #[.bool false, Q4]) (by simp [results, Tryz.results85, go_sem, x0, x1]) rfl gd.out
 have e0 : (z == 0) = false := by simp [z0]
 have HS := fW;have HB := eI;have HK := aO;clear fW eI aO
 go_wp2_with fail
 refine (Pd 60 HS.out (by omega) (by constructor <;> decide)).mono ?_;rintro e w3 ⟨n1, rfl, hd, aT, aQ⟩;obtain ⟨Dh, pO⟩ := hd.2 (by decide);have cH := hid (HB.out.kept aQ (fun e => by omega));have cF := hid (HK.out.trans aQ);clear HS HB HK;have HS := hid aT;have HB := cH;have HK := cF;clear hd aT aQ cH cF;obtain ⟨n1, rfl⟩ : ∃ m : Nat, n1 = (m : Int) := ⟨n1.toNat, by omega⟩
 by_cases z4 : z < 4
 ·have e4 : (z == 4) = false := by simp; omega
  go_wp2_with fail
  refine (Pd 3 HS.out (by omega) (by constructor <;> decide)).mono ?_;rintro e w4 ⟨q, rfl, hd, aT, aQ⟩;obtain ⟨fj, gV⟩ := hd.2 (by decide);have cH := hid (HB.out.kept aQ (fun e => by omega));have cF := hid (HK.out.trans aQ);clear HS HB HK;have HS := hid aT;have HB := cH;have HK := cF;clear hd aT aQ cH cF
  go_wp2_with fail
  refine (Pd 200 HS.out (by omega) (by constructor <;> decide)).mono ?_;rintro e w5 ⟨r, rfl, hd, aT, aQ⟩;obtain ⟨du, aS⟩ := hd.2 (by decide);have cH := hid (HB.out.kept aQ (fun e => by omega));have cF := hid (HK.out.trans aQ);clear HS HB HK;have HS := hid aT;have HB := cH;have HK := cF;clear hd aT aQ cH cF;obtain ⟨m, hm⟩ : ∃ m, q * r = m := ⟨_, rfl⟩
  have i6 : 0 ≤ m := by rw [← hm]; exact Int.mul_nonneg (by omega) (by omega)
  have CX : m ≤ 398 := by
   have h := Int.mul_le_mul (show q ≤ 2 from by omega) (show r ≤ 199 from by omega) (by omega) (by omega);omega
  have q1 : IntKind.i64.wrap (q * r) = m := by rw [IntKind.wrap_i64, hm]; omega
  obtain ⟨N, hN⟩ : ∃ N : Nat, 1000 - m = (N : Int) := ⟨(1000 - m).toNat, by omega⟩
  have q2 : IntKind.i64.wrap (1000 - m) = (N : Int) := by rw [IntKind.wrap_i64, hN]; omega
  have Mv : N ≤ 1000 := by omega
  clear hm hN
  go_wp2_with fail
  refine (Uc N HS.out (by omega) (by omega)).mono ?_;rintro e w9 ⟨g, bs, rfl, eC, bk, ho, jH, hs, jj, cA⟩;have HO := hid ho;have cx := hid hs;have cM := hid (HB.out.kept cA (fun e => by omega));have gy := hid (HK.out.trans cA);have nv := (ho.lt g rfl).2;have zu : X < w9.heap.size := cM.out.lt
  have vA : ¬ g = X := fun e => by have := HB.out.lt; omega
  clear ho hs cA HS HB HK jj;obtain ⟨r0, r1⟩ := cM.out.all2;have fr := cM.out.frozen;have aX : Kept (fun b => b = X) w9 ((w9.setCell ⟨X, 0, none⟩ (.bool true)).setCell ⟨X, 1, none⟩ (Q3 g N N)) := ((Kept.refl (fun b => b = X) w9).setCell (p := ⟨X, 0, none⟩) (.inr rfl) _).setCell (p := ⟨X, 1, none⟩) (.inr rfl) _
  have gd := (show Hid (jdb w0 w ((w9.setCell ⟨X, 0, none⟩ (.bool true)).setCell ⟨X, 1, none⟩ (Q3 g N N)) (.returned (.agg #[.bool true, Q3 g N N])) B v cs k size) from ⟨true, some ⟨g, 0, none⟩, N, bs, _, by rw [eC], by omega, bk, by
   rw [eC]
   exact Own.rdA (HO.out.kept aX (fun b hb e => by have e1 : g = b := (by simpa [Value.ownBlock] using hb); omega)) (fun b hb => by have e1 : g = b := (by simpa [Value.ownBlock] using hb); have h1 := aX.size; have h2 := (HO.out.lt g rfl).1; omega), by omega, cx.out.on aX (fun e => by omega) (fun i hi e => by omega), gy.out.next aX (fun i hi e => by have := HX.out; omega)⟩)
  have fp := hid ((cM.out.stored 0 (.bool true)).stored 1 (Q3 g N N));clear aX;go_wp2;generalize (w9.setCell ⟨X, 0, none⟩ (.bool true)).setCell ⟨X, 1, none⟩ (Q3 g N N) = wz at *;obtain ⟨x0, x1⟩ := fp.out.all2;exact bodyPost_ret (v := .agg #[.bool true, Q3 g N N]) (by simp [results, Tryz.results85, go_sem, x0, x1]) rfl gd.out
 by_cases z5 : z = 4
 ·subst z5
  go_wp2_with fail
  refine (Uc 0 HS.out (by omega) (by omega)).mono ?_;rintro e w9 ⟨g, bs, rfl, eC, bk, ho, jH, hs, jj, cA⟩;have HO := hid ho;have cx := hid hs;have cM := hid (HB.out.kept cA (fun e => by omega));have gy := hid (HK.out.trans cA);have nv := (ho.lt g rfl).2;have zu : X < w9.heap.size := cM.out.lt
  have vA : ¬ g = X := fun e => by have := HB.out.lt; omega
  clear ho hs cA HS HB HK jj;obtain ⟨r0, r1⟩ := cM.out.all2;have fr := cM.out.frozen;have aX : Kept (fun b => b = X) w9 ((w9.setCell ⟨X, 0, none⟩ (.bool true)).setCell ⟨X, 1, none⟩ (Q3 g 0 0)) := ((Kept.refl (fun b => b = X) w9).setCell (p := ⟨X, 0, none⟩) (.inr rfl) _).setCell (p := ⟨X, 1, none⟩) (.inr rfl) _
  have gd := (show Hid (jdb w0 w ((w9.setCell ⟨X, 0, none⟩ (.bool true)).setCell ⟨X, 1, none⟩ (Q3 g 0 0)) (.returned (.agg #[.bool true, Q3 g 0 0])) B v cs k size) from ⟨true, some ⟨g, 0, none⟩, 0, bs, _, by rw [eC], by omega, bk, by
   rw [eC]
   exact Own.rdA (HO.out.kept aX (fun b hb e => by have e1 : g = b := (by simpa [Value.ownBlock] using hb); omega)) (fun b hb => by have e1 : g = b := (by simpa [Value.ownBlock] using hb); have h1 := aX.size; have h2 := (HO.out.lt g rfl).1; omega), by omega, cx.out.on aX (fun e => by omega) (fun i hi e => by omega), gy.out.next aX (fun i hi e => by have := HX.out; omega)⟩)
  have fp := hid ((cM.out.stored 0 (.bool true)).stored 1 (Q3 g 0 0));clear aX;go_wp2;generalize (w9.setCell ⟨X, 0, none⟩ (.bool true)).setCell ⟨X, 1, none⟩ (Q3 g 0 0) = wz at *;obtain ⟨x0, x1⟩ := fp.out.all2;exact bodyPost_ret (v := .agg #[.bool true, Q3 g 0 0]) (by simp [results, Tryz.results85, go_sem, x0, x1]) rfl gd.out
 have e4 : (z == 4) = false := by simp [z5]
 have L5 : ¬ z < 4 := z4
 go_wp2_with fail
 refine (Uc n1 HS.out (by omega) (by omega)).mono ?_;rintro e w9 ⟨g, bs, rfl, eC, bk, ho, jH, hs, jj, cA⟩;have HO := hid ho;have cx := hid hs;have cM := hid (HB.out.kept cA (fun e => by omega));have gy := hid (HK.out.trans cA);have nv := (ho.lt g rfl).2;have zu : X < w9.heap.size := cM.out.lt
 have vA : ¬ g = X := fun e => by have := HB.out.lt; omega
 clear ho hs cA HS HB HK jj;obtain ⟨r0, r1⟩ := cM.out.all2;have fr := cM.out.frozen;have aX : Kept (fun b => b = X) w9 ((w9.setCell ⟨X, 0, none⟩ (.bool true)).setCell ⟨X, 1, none⟩ (Q3 g n1 n1)) := ((Kept.refl (fun b => b = X) w9).setCell (p := ⟨X, 0, none⟩) (.inr rfl) _).setCell (p := ⟨X, 1, none⟩) (.inr rfl) _
 have gd := (show Hid (jdb w0 w ((w9.setCell ⟨X, 0, none⟩ (.bool true)).setCell ⟨X, 1, none⟩ (Q3 g n1 n1)) (.returned (.agg #[.bool true, Q3 g n1 n1])) B v cs k size) from ⟨true, some ⟨g, 0, none⟩, n1, bs, _, by rw [eC], by omega, bk, by
  rw [eC]
  exact Own.rdA (HO.out.kept aX (fun b hb e => by have e1 : g = b := (by simpa [Value.ownBlock] using hb); omega)) (fun b hb => by have e1 : g = b := (by simpa [Value.ownBlock] using hb); have h1 := aX.size; have h2 := (HO.out.lt g rfl).1; omega), by omega, cx.out.on aX (fun e => by omega) (fun i hi e => by omega), gy.out.next aX (fun i hi e => by have := HX.out; omega)⟩)
 have fp := hid ((cM.out.stored 0 (.bool true)).stored 1 (Q3 g n1 n1));clear aX;go_wp2;generalize (w9.setCell ⟨X, 0, none⟩ (.bool true)).setCell ⟨X, 1, none⟩ (Q3 g n1 n1) = wz at *;obtain ⟨x0, x1⟩ := fp.out.all2;exact bodyPost_ret (v := .agg #[.bool true, Q3 g n1 n1]) (by simp [results, Tryz.results85, go_sem, x0, x1]) rfl gd.out
def GoodB (bs : List Int) : Prop := PK bs = true ∧ IsB bs
theorem GoodB.len {bs : List Int} (h : GoodB bs) : bs.length = 4096 := Qx h.1
theorem jb1 {raw : List Int} (h : GoodB raw) (s : Int) (u : Bool) (d : List Int) (hd : IsB d) (lsn : Int) :
  (Ru raw s u d lsn = (1, []) ∧ Rk raw s u d lsn = true) ∨ (Rk raw s u d lsn = false ∧ R5 raw s.toNat d ∧ Ru raw s u d lsn = (2, [])) ∨
  (Rk raw s u d lsn = false ∧ ¬ R5 raw s.toNat d ∧ Ru raw s u d lsn = (0, Tt raw s.toNat u d lsn) ∧ Made raw (Tt raw s.toNat u d lsn) lsn (PS (slotsOf raw) 32 - (slotsOf raw).getD (2 * s.toNat + 1) 0 + d.length) (fun k => if k = s.toNat then (u, d) else QD raw (k : Int))) := by
 unfold Ru
 by_cases h1 : Rk raw s u d lsn = true
 ·rw [if_pos h1]; exact .inl ⟨rfl, h1⟩
 ·rw [if_neg h1]
  have t7 : Rk raw s u d lsn = false := by simpa using h1
  by_cases h2 : R5 raw s.toNat d
  ·rw [if_pos h2]; exact .inr (.inl ⟨t7, h2, rfl⟩)
  ·rw [if_neg h2]
   refine .inr (.inr ⟨t7, h2, rfl, ?_⟩);simp [Rk] at h1;obtain ⟨bj, g1, g2, g3, g4, g5, g6⟩ := h1;exact jc9 h.2 bj s.toNat (by omega) u d hd lsn (by simp [QM]; omega) (by omega) (fun e => by have := g6 e; exact this) h2
theorem jdY {raw : List Int} (h : GoodB raw) (s : Int) (u : Bool) (d : List Int) (hd : IsB d) (lsn : Int) :
  ∃ (x : Int) (ys : List Int), Ru raw s u d lsn = (x, ys) ∧ (x = 0 → GoodB ys) := by
 rcases jb1 h s u d hd lsn with ⟨e, _⟩ | ⟨_, _, e⟩ | ⟨_, _, e, hm⟩
 ·exact ⟨1, [], e, fun h => by cases h⟩
 ·exact ⟨2, [], e, fun h => by cases h⟩
 ·exact ⟨0, _, e, fun _ => ⟨hm.own, hm.isB⟩⟩
theorem jdc (n : Int) (h0 : 0 ≤ n) (h1 : n < 16) : GoodB (Qt n) := jdX n h0 h1
theorem jb2 {raw : List Int} (h : GoodB raw) : GoodB (Qg raw) := by
 have := (jbZ h.2 h.1).1;rw [show Qg raw = Uf raw from if_pos h.1];exact ⟨this.own, this.isB⟩
def PgR (w0 w w' : World) (e : Ending) (B : Nat) (v : Value) (cs : List Int) (k : Nat) (size : Int) : Prop :=
 ∃ (g c : Nat) (bs : List Int) (k' : Nat), e = .returned (Q3 g 4096 c) ∧ bs.length = 4096 ∧ IsB bs ∧ Own w0.heap.size 5 .u8 w' (Q3 g 4096 c) bs ∧ ¬ g = B ∧ k' ≤ k + 400 ∧ SrcR w0 w' B v cs k' size ∧ w.heap.size ≤ g ∧ Kept (fun b => b = B) w w'
structure PgI (w0 w wr : World) (B : Nat) (v : Value) (cs : List Int) (k : Nat) (size : Int) (g c : Nat) (bs : List Int) : Prop where
 src : SrcR w0 wr B v cs k size
 own : Own 0 5 .u8 wr (Q3 g 4096 c) bs
 new : w.heap.size ≤ g
 kept : Kept (fun b => b = B) w wr
 good : GoodB bs
section
variable {w0 w wr wx : World} {B : Nat} {v : Value} {cs : List Int} {k k' : Nat} {size : Int} {g c : Nat} {bs : List Int}
theorem PgI.same (h : PgI w0 w wr B v cs k size g c bs) (hk : Same wr wx) : PgI w0 w wx B v cs k size g c bs :=
 ⟨h.src.same hk, h.own.same hk, h.new, h.kept.trans (hk.mono (fun _ _ e => e.elim)), h.good⟩
theorem PgI.draw (h : PgI w0 w wr B v cs k size g c bs) (hB : B < w.heap.size) (hs : SrcR w0 wx B v cs k' size) (hk : Kept (fun b => b = B) wr wx) : PgI w0 w wx B v cs k' size g c bs :=
 ⟨hs, h.own.kept hk (fun b hb e => by have e1 : g = b := (by simpa [Value.ownBlock] using hb); have := h.new; omega), h.new, h.kept.trans hk, h.good⟩
theorem PgI.other {a : Option Addr} {c' : Nat} {ys : List Int} (h : PgI w0 w wr B v cs k size g c bs) (hk : Same wr wx) (ho : Own 0 5 .u8 wx (.slice a ys.length c') ys) (hf : ∀ b, (Value.slice a ys.length c').ownBlock = some b → wr.heap.size ≤ b) (hg : GoodB ys) : ∃ g', a = some ⟨g', 0, none⟩ ∧ PgI w0 w wx B v cs k size g' c' ys := by
 obtain ⟨g', rfl⟩ := SB ho (by rw [hg.len]; decide);rw [hg.len] at ho;exact ⟨g', rfl, h.src.same hk, ho, Nat.le_trans h.kept.size (hf g' rfl), h.kept.trans (hk.mono (fun _ _ e => e.elim)), hg⟩
end
theorem jgh {w0 w : World} {B : Nat} {v : Value} {cs : List Int} {k : Nat} {size : Int} (number : Int) (h0 : 0 ≤ number) (h1 : number < 16) (h : SrcR w0 w B v cs k size) (hk : k ≤ 1073741000) :
  Calls Tryz.prog 88 #[Q2 B 0, Q1 number] w fun e w' => PgR w0 w w' e B v cs k size := by
 have eT := h.lt;have gU := h.kept.size;have fQ := h.src.little;have kN := jac number w;have HS := hid h;clear h
 go_enter Tryz.func88, Tryz.ntmps88
 go_wp2_with fail
 refine kN.mono ?_;rintro e w1 ⟨a, c, rfl, hf, ho, ah⟩;have fq := jdc number h0 h1;obtain ⟨g, rfl⟩ := SB ho (by rw [fq.len]; decide);have nv := fq.len;have HI : Hid (PgI w0 w w1 B v cs k size g c (Qt number)) := ⟨HS.out.same ah, by rw [nv] at ho; exact ho, hf g rfl, ah.mono (fun _ _ e => e.elim), fq⟩;rw [nv];clear hf ho ah kN HS fq nv;generalize Qt number = bs at HI;obtain ⟨_, _, s2⟩ := HI.out.src.src.blk.all3
 have q0 : IntKind.i64.wrap (8 + size) = 8 + size := by rw [IntKind.wrap_i64]; omega
 go_wp2_with fail
 refine (Pd (8 + size) HI.out.src (by omega) (by constructor <;> omega)).mono ?_;rintro e w2 ⟨n, rfl, hd, eL, aj⟩;obtain ⟨mK, rB⟩ := hd.2 (by omega);have bL := hid (HI.out.draw eT eL aj);obtain ⟨N, rfl⟩ : ∃ N : Nat, n = (N : Int) := ⟨n.toNat, by omega⟩
 have hN : N ≤ 20 := by omega
 clear hd eL aj HI s2 q0 mK rB
 go_wp2_with fail
 go_loopw [5, 6] (fun p i wr => ∃ (j k' g c : Nat) (bs : List Int), j ≤ N ∧ p = Q3 g 4096 c ∧ i = Q1 (j : Int) ∧ k' ≤ k + 1 + 12 * (N - j) ∧ Hid (PgI w0 w wr B v cs k' size g c bs)) (fun _ i _ => (intOf i).toNat)
 case atStart => exact ⟨N, k + 1, g, c, bs, Nat.le_refl _, rfl, rfl, by omega, bL⟩
 case round =>
  obtain ⟨j, k', g, c, bs, hj, rfl, rfl, aQ, HI⟩ := hrel
  cases j with
  | succ j =>
   go_wp2_with fail
   refine (Pd 6 HI.out.src (by omega) (by constructor <;> decide)).mono ?_;rintro e w3 ⟨q, rfl, hd, iP, aZ⟩;obtain ⟨fj, gV⟩ := hd.2 (by decide);have ct := hid (HI.out.draw eT iP aZ);clear hd iP aZ
   go_wp2_with fail
   refine (Pd 7 ct.out.src (by omega) (by constructor <;> decide)).mono ?_;rintro e w4 ⟨r, rfl, hd, lG, cS⟩;obtain ⟨du, aS⟩ := hd.2 (by decide);have eE := hid (ct.out.draw eT lG cS);clear hd lG cS;obtain ⟨m, hm⟩ : ∃ m, q * r = m := ⟨_, rfl⟩
   have i6 : 0 ≤ m := by rw [← hm]; exact Int.mul_nonneg (by omega) (by omega)
   have CX : m ≤ 30 := by
    have h := Int.mul_le_mul (show q ≤ 5 from by omega) (show r ≤ 6 from by omega) (by omega) (by omega);omega
   have q1 : IntKind.i64.wrap (q * r) = m := by rw [IntKind.wrap_i64, hm]; omega
   clear hm
   go_wp2_with fail
   refine (jfz eE.out.src (by omega)).mono ?_;rintro e w5 ⟨u, ra, rc, d, k5, rfl, nR, zO, Iq, bF, rF, vT⟩;have eQ := hid (eE.out.draw eT rF vT);have sa := hid zO;have zD := hid Iq;clear zO Iq rF vT
   go_wp2_with fail
   refine (Pd 100000 eQ.out.src (by omega) (by constructor <;> decide)).mono ?_;rintro e w6 ⟨l, rfl, hd, Aq, dX⟩;obtain ⟨oI, je⟩ := hd.2 (by decide);have ox := hid (eQ.out.draw eT Aq dX);have iI := hid (zD.out.draw dX).rd;clear hd Aq dX
   have kS := fun s lsn => jak (Q3 g 4096 c) bs s u ra rc d lsn w6 ox.out.good.2 (by rw [ox.out.good.len]; decide) ox.out.own.rd (by omega) iI.out
   have HC : Hid (∀ s lsn, ∃ (x : Int) (ys : List Int), Ru bs s u d lsn = (x, ys) ∧ (x = 0 → GoodB ys)) := fun s lsn => jdY ox.out.good s u d sa.out lsn
   go_wp2_with fail
   refine (kS _ _).mono ?_;rintro e w7 ⟨a, c7, rfl, hf, ho, cL⟩;obtain ⟨x, ys, oP, fq⟩ := HC.out _ _;rw [oP] at hf ho ⊢;dsimp only at hf ho ⊢;have lg := hid (ox.out.same cL)
   have HX := (show Hid (∀ o, x = 0 → ∃ g', a = some ⟨g', 0, none⟩ ∧ ys.length = 4096 ∧ PgI w0 w (w7.alloc o) B v cs (k5 + 1) size g' c7 ys) from fun o hx => by
    obtain ⟨g', e, h⟩ := ox.out.other cL ho hf (fq hx)
    exact ⟨g', e, (fq hx).len, h.same (kZ0.alloc _)⟩)
   clear hf ho cL fq oP kS HC ox eQ eE ct HI
   by_cases hx : x = 0
   ·subst hx
    obtain ⟨g', rfl, qZ, hP⟩ := HX.out (.cells #[Q1 0, .slice a ys.length c7] 145) rfl;rw [qZ] at hP ⊢;have HP := hid hP;clear hP HX qZ lg
    go_wp2_with fail
    go_roundw
    case rel => exact ⟨j, k5 + 1, g', c7, ys, by omega, rfl, by go_num, by omega, HP⟩
    case measure => simp [intOf]
   ·have ex : (x == 0) = false := by simp [hx]
    have HP := hid (lg.out.same (kZ0.alloc (.cells #[Q1 x, .slice a ys.length c7] 145)));clear HX lg
    go_wp2_with fail
    go_roundw
    case rel => exact ⟨j, k5 + 1, g, c, bs, by omega, rfl, by go_num, by omega, HP⟩
    case measure => simp [intOf]
  | zero =>
   have ai : k' ≤ k + 241 := by omega
   go_wp2_with fail
   refine (SA 8 HI.out.src (by omega) (by constructor <;> decide)).mono ?_;rintro e w3 ⟨b, rfl, iP, aZ⟩;have ct := hid (HI.out.draw eT iP aZ);clear iP aZ HI
   have fin : ∀ (w4 w5 : World) (g c : Nat) (bs : List Int) (a : Option Addr) (c5 : Nat), PgI w0 w w4 B v cs (k' + 1) size g c bs → (∀ b, (Value.slice a (Qo bs).length c5).ownBlock = some b → w4.heap.size ≤ b) → Own 0 5 .u8 w5 (.slice a (Qo bs).length c5) (Qo bs) → Same w4 w5 → PgR w0 w w5 (.returned (.slice a (Qo bs).length c5)) B v cs k size := by
    intro w4 w5 g c bs a c5 hI hf ho hk;obtain ⟨e1, e2, e3, _⟩ := jae hI.good.len hI.good.2;rw [e1] at hf ho ⊢;rw [e3] at hf ho ⊢;obtain ⟨g', rfl⟩ := SB ho (by rw [e3]; decide);have h1 := hf g' rfl;have h2 := hI.kept.size;exact ⟨g', c5, _, k' + 1, rfl, e3, e2, ho.mono (fun b hb => by have := hf b hb; omega), by omega, by omega, hI.src.same hk, by omega, hI.kept.trans (hk.mono (fun _ _ e => e.elim))⟩
   have kL := fun g c bs (wx : World) (hI : PgI w0 w wx B v cs (k' + 1) size g c bs) => UX (Q3 g 4096 c) bs wx hI.good.2 (by rw [hI.good.len]; decide) hI.own.rd
   cases b
   ·go_wp2_with fail
    refine (kL _ _ _ _ ct.out).mono ?_;rintro e w5 ⟨a, c5, rfl, hf, ho, bF⟩;have HE := hid (fin _ _ _ _ _ _ _ ct.out hf ho bF);clear fin kL hf ho bF;go_wp2;go_ret;exact HE.out
   ·have kC := U8 (Q3 g 4096 c) bs w3 ct.out.good.2 (by rw [ct.out.good.len]; decide) ct.out.own.rd
    go_wp2_with fail
    refine kC.mono ?_;rintro e w4 ⟨a4, c4, rfl, m4, gY, cS⟩;have ot := jb2 ct.out.good;obtain ⟨g4, rfl, Ib⟩ := ct.out.other cS gY m4 ot;rw [ot.len];have eE := hid Ib;clear Ib m4 gY cS ot kC
    go_wp2_with fail
    refine (kL _ _ _ _ eE.out).mono ?_;rintro e w5 ⟨a, c5, rfl, hf, ho, bF⟩;have HE := hid (fin _ _ _ _ _ _ _ eE.out hf ho bF);clear fin kL hf ho bF;go_wp2;go_ret;exact HE.out
end Go.Proofs.YtapdfgkbhaoelaaGreatDoor
