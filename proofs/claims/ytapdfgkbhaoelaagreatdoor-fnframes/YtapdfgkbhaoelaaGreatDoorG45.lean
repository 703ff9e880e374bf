import Derived.Test.YtapdfgkbhaoelaaGreatDoorG44
namespace Go.Proofs.YtapdfgkbhaoelaaGreatDoor
set_option maxRecDepth 100000
set_option maxHeartbeats 8000000
set_option linter.unusedVariables false
set_option linter.unusedSimpArgs false
open Go Go.RowKit
def MqR (w0 w w' : World) (ex : Ending) (B : Nat) (v : Value) (cs : List Int) (k : Nat) (size : Int) : Prop :=
 ∃ (s e c l : Int) (k' : Nat), ex = .returned (.agg #[Q1 s, Q1 e, Q1 c, Q1 l]) ∧ k' ≤ k + 10 ∧ SrcR w0 w' B v cs k' size ∧ Kept (fun b => b = B) w w'
def BmI (w0 w : World) (B : Nat) (v : Value) (cs : List Int) (k : Nat) (size : Int) (Y X : Nat) (wx : World) : Prop :=
 ∃ (s e c l : Int) (k' : Nat), Blk wx Y 40 [Q1 s, Q1 e, Q1 c, Q1 l] ∧ Blk wx X 40 [Q1 0, Q1 0, Q1 0, Q1 0] ∧ k' ≤ k + 4 ∧ SrcR w0 wx B v cs k' size ∧ Kept (fun b => b = B) w wx
theorem TP {w0 w wx : World} {B : Nat} {v : Value} {cs : List Int} {k k' : Nat} {size : Int} {Y X : Nat} {s e c l : Int} (i : Nat) (x : Int) (hy : Blk wx Y 40 [Q1 s, Q1 e, Q1 c, Q1 l]) (hx : Blk wx X 40 [Q1 0, Q1 0, Q1 0, Q1 0]) (hk : k' ≤ k + 4) (hs : SrcR w0 wx B v cs k' size) (hK : Kept (fun b => b = B) w wx) (hi : i < 4) (dH : ¬ Y = B) (DI : ¬ X = Y) (hw : w.heap.size ≤ Y) (gU : w0.heap.size ≤ w.heap.size) : BmI w0 w B v cs k size Y X (wx.setCell ⟨Y, i, none⟩ (Q1 x)) := by
 have aX : Kept (fun b => b = Y) wx (wx.setCell ⟨Y, i, none⟩ (Q1 x)) := Kept.setCell (R := fun b => b = Y) kZ0 (p := ⟨Y, i, none⟩) (.inr rfl) _;have h2 := hy.stored i (Q1 x);have h3 := hx.kept aX DI;have h4 := hs.on aX (fun e => dH e.symm) (fun i hi e => by have e' : i = Y := e; omega);have h5 := hK.next aX (fun i hi e => by have e' : i = Y := e; omega)
 obtain rfl | rfl | rfl | rfl : i = 0 ∨ i = 1 ∨ i = 2 ∨ i = 3 := by omega
 ·exact ⟨x, e, c, l, k', h2, h3, hk, h4, h5⟩
 ·exact ⟨s, x, c, l, k', h2, h3, hk, h4, h5⟩
 ·exact ⟨s, e, x, l, k', h2, h3, hk, h4, h5⟩
 ·exact ⟨s, e, c, x, k', h2, h3, hk, h4, h5⟩
theorem jd4 {w0 w : World} {B : Nat} {v : Value} {cs : List Int} {k : Nat} {size : Int} (h : SrcR w0 w B v cs k size) (hk : k ≤ 1073741000) (s e c l : Int) (hm : mF s e c l = 0) :
  Calls Tryz.prog 92 #[Q2 B 0, .agg #[Q1 s, Q1 e, Q1 c, Q1 l]] w fun ex w' => MqR w0 w w' ex B v cs k size := by
 obtain ⟨HK, HY, HX⟩ := new2 w [Q1 s, Q1 e, Q1 c, Q1 l] 40 [Q1 0, Q1 0, Q1 0, Q1 0] 40;dsimp only [List.toArray] at HK HY HX;obtain ⟨⟨_, _⟩, ⟨_, _⟩, pK, OO, lP⟩ := Yv hm;have eT := h.lt;have gU := h.kept.size;have HS := hid (h.same HK.out);have HK := hid (HK.out.mono (R' := fun b => b = B) (fun _ _ e => e.elim));clear h hm
 go_enter Tryz.func92, Tryz.ntmps92
 go_upto_region 1 with fail
 obtain ⟨Y, hY⟩ : ∃ Y, w.heap.size = Y := ⟨_, rfl⟩;have g9 := hid hY;rw [hY] at HY HX eT gU ⊢;clear hY;generalize (w.alloc _).alloc _ = w1 at HS HK HY HX ⊢
 have dH : ¬ Y = B := by omega
 have bN : ¬ Y + 1 = B := by omega
 go_wp2_with fail
 refine (Pd 5 HS.out (by omega) (by constructor <;> decide)).mono ?_;rintro ex w2 ⟨z, rfl, hd, hs, ai⟩;obtain ⟨cE, cP⟩ := hd.2 (by decide);replace HY := hid (HY.out.kept ai dH);replace HX := hid (HX.out.kept ai bN);replace HK := hid (HK.out.trans ai);replace HS := hid hs;have fk := HS.out.lt;clear hd hs ai
 go_upto_block 0 with fail
 go_cut [3] (fun x wx => x = Q2 Y 0 ∧ Hid (BmI w0 w B v cs k size Y (Y + 1) wx))
 case first =>
  obtain rfl | rfl | rfl | rfl | rfl : z = 0 ∨ z = 1 ∨ z = 2 ∨ z = 3 ∨ z = 4 := by omega
  ·have dk : Same w2 (w2.alloc (.cells #[Q1 0, Q1 1099511627776, Q1 1099511627777] 2)) := kZ0.alloc _
   have HN := hid (Blk.newL w2 [Q1 0, Q1 1099511627776, Q1 1099511627777] 2);dsimp only [List.toArray] at HN;replace HY := hid (HY.out.same dk);replace HX := hid (HX.out.same dk);replace HK := hid (HK.out.next dk (fun _ _ e => e.elim));replace HS := hid (HS.out.same dk)
   have rI : ¬ w2.heap.size = B := by have := HK.out.size; have := g9.out; have := HS.out.lt; have := fk; omega
   clear dk
   go_wp2_with fail
   refine (Pd 3 HS.out (by omega) (by constructor <;> decide)).mono ?_;rintro ex w3 ⟨r, rfl, hd, hs, ai⟩;obtain ⟨du, aS⟩ := hd.2 (by decide);replace HY := hid (HY.out.kept ai dH);replace HX := hid (HX.out.kept ai bN);replace HK := hid (HK.out.trans ai);replace HS := hid hs;replace HN := hid (HN.out.kept ai rI);clear hd hs ai;obtain ⟨n0, n1, n2⟩ := HN.out.all3
   obtain rfl | rfl | rfl : r = 0 ∨ r = 1 ∨ r = 2 := by omega
   ·have HE := hid (TP 0 0 HY.out HX.out (k := k) (by omega) HS.out HK.out (by omega) dH (by omega) (by have := g9.out; omega) (by have := g9.out; omega))
    obtain ⟨y0, y1, y2, y3⟩ := HY.out.all4;have fy := HY.out.frozen
    go_wp2_with fail
    generalize World.setCell _ ⟨Y, 0, none⟩ _ = w9 at HE ⊢
    go_meet
    case rel => exact ⟨rfl, HE⟩
   ·have HE := hid (TP 0 1099511627776 HY.out HX.out (k := k) (by omega) HS.out HK.out (by omega) dH (by omega) (by have := g9.out; omega) (by have := g9.out; omega))
    obtain ⟨y0, y1, y2, y3⟩ := HY.out.all4;have fy := HY.out.frozen
    go_wp2_with fail
    generalize World.setCell _ ⟨Y, 0, none⟩ _ = w9 at HE ⊢
    go_meet
    case rel => exact ⟨rfl, HE⟩
   ·have HE := hid (TP 0 1099511627777 HY.out HX.out (k := k) (by omega) HS.out HK.out (by omega) dH (by omega) (by have := g9.out; omega) (by have := g9.out; omega))
    obtain ⟨y0, y1, y2, y3⟩ := HY.out.all4;have fy := HY.out.frozen
    go_wp2_with fail
    generalize World.setCell _ ⟨Y, 0, none⟩ _ = w9 at HE ⊢
    go_meet
    case rel => exact ⟨rfl, HE⟩
  ·have dk : Same w2 (w2.alloc (.cells #[Q1 0, Q1 4294967295, Q1 4294967296] 2)) := kZ0.alloc _
   have HN := hid (Blk.newL w2 [Q1 0, Q1 4294967295, Q1 4294967296] 2);dsimp only [List.toArray] at HN;replace HY := hid (HY.out.same dk);replace HX := hid (HX.out.same dk);replace HK := hid (HK.out.next dk (fun _ _ e => e.elim));replace HS := hid (HS.out.same dk)
   have rI : ¬ w2.heap.size = B := by have := HK.out.size; have := g9.out; have := HS.out.lt; have := fk; omega
   clear dk
   go_wp2_with fail
   refine (Pd 3 HS.out (by omega) (by constructor <;> decide)).mono ?_;rintro ex w3 ⟨r, rfl, hd, hs, ai⟩;obtain ⟨du, aS⟩ := hd.2 (by decide);replace HY := hid (HY.out.kept ai dH);replace HX := hid (HX.out.kept ai bN);replace HK := hid (HK.out.trans ai);replace HS := hid hs;replace HN := hid (HN.out.kept ai rI);clear hd hs ai;obtain ⟨n0, n1, n2⟩ := HN.out.all3
   obtain rfl | rfl | rfl : r = 0 ∨ r = 1 ∨ r = 2 := by omega
   ·have HE := hid (TP 1 0 HY.out HX.out (k := k) (by omega) HS.out HK.out (by omega) dH (by omega) (by have := g9.out; omega) (by have := g9.out; omega))
    obtain ⟨y0, y1, y2, y3⟩ := HY.out.all4;have fy := HY.out.frozen
    go_wp2_with fail
    generalize World.setCell _ ⟨Y, 1, none⟩ _ = w9 at HE ⊢
    go_meet
    case rel => exact ⟨rfl, HE⟩
   ·have HE := hid (TP 1 4294967295 HY.out HX.out (k := k) (by omega) HS.out HK.out (by omega) dH (by omega) (by have := g9.out; omega) (by have := g9.out; omega))
    obtain ⟨y0, y1, y2, y3⟩ := HY.out.all4;have fy := HY.out.frozen
    go_wp2_with fail
    generalize World.setCell _ ⟨Y, 1, none⟩ _ = w9 at HE ⊢
    go_meet
    case rel => exact ⟨rfl, HE⟩
   ·have HE := hid (TP 1 4294967296 HY.out HX.out (k := k) (by omega) HS.out HK.out (by omega) dH (by omega) (by have := g9.out; omega) (by have := g9.out; omega))
    obtain ⟨y0, y1, y2, y3⟩ := HY.out.all4;have fy := HY.out.frozen
    go_wp2_with fail
    generalize World.setCell _ ⟨Y, 1, none⟩ _ = w9 at HE ⊢
    go_meet
    case rel => exact ⟨rfl, HE⟩
  ·go_wp2_with fail
   refine (Pd 2 HS.out (by omega) (by constructor <;> decide)).mono ?_;rintro ex w3 ⟨r, rfl, hd, hs, ai⟩;obtain ⟨du, aS⟩ := hd.2 (by decide);replace HY := hid (HY.out.kept ai dH);replace HX := hid (HX.out.kept ai bN);replace HK := hid (HK.out.trans ai);replace HS := hid hs;clear hd hs ai;obtain ⟨q, hq⟩ : ∃ q, 512 - r = q := ⟨_, rfl⟩
   have q2 : IntKind.i64.wrap (512 - r) = q := by rw [IntKind.wrap_i64]; omega
   have HE := hid (TP 3 q HY.out HX.out (k := k) (by omega) HS.out HK.out (by omega) dH (by omega) (by have := g9.out; omega) (by have := g9.out; omega));obtain ⟨y0, y1, y2, y3⟩ := HY.out.all4;have fy := HY.out.frozen
   go_wp2_with fail
   generalize World.setCell _ ⟨Y, 3, none⟩ _ = w9 at HE ⊢
   go_meet
   case rel => exact ⟨rfl, HE⟩
  ·have y2 : w2.cell? ⟨Y, 2, none⟩ = some (Q1 c) := HY.out.cell 2
   go_wp2_with fail
   refine O0 (fun wx : World => D0 wx Y 2 (Q1 c)) 6 7 ?_;generalize hwd : World.drew w2 = v1
   have ix : Same w2 v1 := by rw [← hwd]; exact kZ0.drew
   clear hwd y2;replace HY := hid (HY.out.same ix);replace HX := hid (HX.out.same ix);replace HK := hid (HK.out.next ix (fun _ _ e => e.elim));replace HS := hid (HS.out.same ix);clear ix;have hS : (fun wx : World => D0 wx Y 2 (Q1 c)) v1 := HY.out.cell 2;refine tk 0 31 hS ?_;refine tk 1 32 hS ?_;refine tk 2 33 hS ?_;refine o1Q 3 (fun K hK => ?_);go_simp;refine (Pd 2 HS.out (by omega) (by constructor <;> decide)).mono ?_;rintro ex w3 ⟨r, rfl, hd, hs, ai⟩;obtain ⟨du, aS⟩ := hd.2 (by decide);replace HY := hid (HY.out.kept ai dH);replace HX := hid (HX.out.kept ai bN);replace HK := hid (HK.out.trans ai);replace HS := hid hs;clear hd hs ai;have hS : (fun wx : World => D0 wx Y 2 (Q1 c)) w3 := HY.out.cell 2;refine hK.out _ _ (fun _ => hS) ?_;clear hK K
   try simp only [Sp]
   obtain ⟨q, hq⟩ : ∃ q, c + r = q := ⟨_, rfl⟩
   have q2 : IntKind.i64.wrap q = q := by rw [IntKind.wrap_i64]; omega
   refine tkV 4 35 (Q1 q) hS ?_;refine tk 5 36 hS ?_;have HE := hid (TP 3 q HY.out HX.out (k := k) (by omega) HS.out HK.out (by omega) dH (by omega) (by have := g9.out; omega) (by have := g9.out; omega));obtain ⟨y0, y1, y2, y3⟩ := HY.out.all4;have fy := HY.out.frozen;refine o1Q 6 (fun K hK => ?_);go_simp;refine hK.out _ _ (fun h => absurd rfl h) ?_;clear hK K;refine OZ ?_
   try simp only [Sp]
   generalize World.setCell _ ⟨Y, 3, none⟩ _ = w9 at HE ⊢;go_wp2
   go_meet
   case rel => exact ⟨rfl, HE⟩
  ·go_wp2_with fail
   refine (Pd 2 HS.out (by omega) (by constructor <;> decide)).mono ?_;rintro ex w3 ⟨r, rfl, hd, hs, ai⟩;obtain ⟨du, aS⟩ := hd.2 (by decide);replace HY := hid (HY.out.kept ai dH);replace HX := hid (HX.out.kept ai bN);replace HK := hid (HK.out.trans ai);replace HS := hid hs;clear hd hs ai;obtain ⟨q, hq⟩ : ∃ q, 1099511627776 + r = q := ⟨_, rfl⟩
   have q2 : IntKind.i64.wrap (1099511627776 + r) = q := by rw [IntKind.wrap_i64]; omega
   have HE := hid (TP 2 q HY.out HX.out (k := k) (by omega) HS.out HK.out (by omega) dH (by omega) (by have := g9.out; omega) (by have := g9.out; omega));obtain ⟨y0, y1, y2, y3⟩ := HY.out.all4;have fy := HY.out.frozen
   go_wp2_with fail
   generalize World.setCell _ ⟨Y, 2, none⟩ _ = w9 at HE ⊢
   go_meet
   case rel => exact ⟨rfl, HE⟩
 case rest =>
 obtain ⟨rfl, HE⟩ := hcut;clear HY HX HK HS;obtain ⟨s', e', c', l', k', hY, hX, aQ, hS, hK⟩ := HE.out;have HX := hid hX;have HS := hid hS;have HK := hid hK;obtain ⟨m0, m1, m2, m3⟩ := hY.all4;obtain ⟨b0, b1, b2, b3⟩ := hX.all4;have fb := hX.frozen;clear HE hY hX hS hK;have M7 := g9.out;have jA : Kept (fun b => b = Y + 1) wc ((((wc.setCell ⟨Y + 1, 0, none⟩ (Q1 s')).setCell ⟨Y + 1, 1, none⟩ (Q1 e')).setCell ⟨Y + 1, 2, none⟩ (Q1 c')).setCell ⟨Y + 1, 3, none⟩ (Q1 l')) := (by show Kept _ _ _; (iterate 4 refine kS0 ?_); exact Kept.refl _ _);have fp := hid ((((HX.out.stored 0 (Q1 s')).stored 1 (Q1 e')).stored 2 (Q1 c')).stored 3 (Q1 l'));have gd : Hid (MqR w0 w ((((wc.setCell ⟨Y + 1, 0, none⟩ (Q1 s')).setCell ⟨Y + 1, 1, none⟩ (Q1 e')).setCell ⟨Y + 1, 2, none⟩ (Q1 c')).setCell ⟨Y + 1, 3, none⟩ (Q1 l')) (.returned (.agg #[Q1 s', Q1 e', Q1 c', Q1 l'])) B v cs k size) := ⟨_, _, _, _, _, rfl, by omega, HS.out.on jA (fun e => by omega) (fun i hi e => by have e' : i = Y + 1 := e; omega), HK.out.next jA (fun i hi e => by have e' : i = Y + 1 := e; omega)⟩;clear jA M7;go_wp2;generalize (((wc.setCell ⟨Y + 1, 0, none⟩ (Q1 s')).setCell ⟨Y + 1, 1, none⟩ (Q1 e')).setCell ⟨Y + 1, 2, none⟩ (Q1 c')).setCell ⟨Y + 1, 3, none⟩ (Q1 l') = wz at *;obtain ⟨x0, x1, x2, x3⟩ := fp.out.all4;exact bodyPost_ret (v := .agg #[Q1 s', Q1 e', Q1 c', Q1 l']) (by simp [results, Tryz.results92, go_sem, x0, x1, x2, x3]) rfl gd.out
theorem jdg {w0 w : World} {B : Nat} {v : Value} {cs : List Int} {k : Nat} {size : Int} (h : SrcR w0 w B v cs k size) (hk : k ≤ 1073740000) :
  Calls Tryz.prog 45 #[Q2 B 0] w fun ex w' => ∃ (s e c l : Int) (k' : Nat), ex = .returned (.agg #[Q1 s, Q1 e, Q1 c, Q1 l]) ∧ k' ≤ k + 20 ∧ SrcR w0 w' B v cs k' size := by
 obtain ⟨HK, HX⟩ := new1 w [Q1 0, Q1 0, Q1 0, Q1 0] 40;dsimp only [List.toArray] at HK HX;have eT := h.lt;have gU := h.kept.size;have HS := hid (h.same HK.out);clear h HK
 go_enter Tryz.func45, Tryz.ntmps45
 go_upto_region 1 with fail
 obtain ⟨X, hX⟩ : ∃ X, w.heap.size = X := ⟨_, rfl⟩;rw [hX] at HX eT gU ⊢;clear hX;generalize w.alloc _ = w1 at HS HX ⊢
 have bN : ¬ X = B := by omega
 have se := HX.out.lt
 go_wp2_with fail
 refine (jgj HS.out (by omega)).mono ?_;rintro ex w2 ⟨s, e, c, l, k2, rfl, hm, aj, hs, ai⟩;replace HX := hid (HX.out.kept ai bN);replace HS := hid hs;have sG := ai.size;clear hs ai;have dk : Same w2 (w2.alloc (.cells #[Q1 s, Q1 e, Q1 c, Q1 l] 40)) := kZ0.alloc _;have HY := hid (Blk.newL w2 [Q1 s, Q1 e, Q1 c, Q1 l] 40);dsimp only [List.toArray] at HY;replace HX := hid (HX.out.same dk);replace HS := hid (HS.out.same dk);clear dk
 go_upto_region 2 with fail
 obtain ⟨Y, hY⟩ : ∃ Y, w2.heap.size = Y := ⟨_, rfl⟩;rw [hY] at HY sG ⊢;clear hY;generalize w2.alloc _ = w3 at HX HS HY ⊢
 have dH : ¬ Y = B := by omega
 have tW : ¬ X = Y := by omega
 go_wp2_with fail
 refine (SA 4 HS.out (by omega) (by constructor <;> decide)).mono ?_;rintro ex w4 ⟨ch, rfl, hs, ai⟩;replace HX := hid (HX.out.kept ai bN);replace HY := hid (HY.out.kept ai dH);replace HS := hid hs;clear hs ai
 go_upto_if 7 with fail
 go_cut [3] (fun x wx => x = Q2 Y 0 ∧ Hid (∃ (s e c l : Int) (k' : Nat), Blk wx Y 40 [Q1 s, Q1 e, Q1 c, Q1 l] ∧ Blk wx X 40 [Q1 0, Q1 0, Q1 0, Q1 0] ∧ k' ≤ k + 20 ∧ SrcR w0 wx B v cs k' size))
 case first =>
  cases ch
  case false =>
   go_wp2_with fail
   go_meet
   case rel => exact ⟨rfl, s, e, c, l, _, HY.out, HX.out, by omega, HS.out⟩
  obtain ⟨y0, y1, y2, y3⟩ := HY.out.all4
  go_wp2_with fail
  refine (jd4 HS.out (by omega) s e c l hm).mono ?_;rintro ex w5 ⟨s', e', c', l', k5, rfl, bF, hs, ai⟩;replace HX := hid (HX.out.kept ai bN);replace HY := hid (HY.out.kept ai dH);replace HS := hid hs;clear hs ai y0 y1 y2 y3;obtain ⟨y0, y1, y2, y3⟩ := HY.out.all4;have fy := HY.out.frozen;have jA : Kept (fun b => b = Y) w5 ((((w5.setCell ⟨Y, 0, none⟩ (Q1 s')).setCell ⟨Y, 1, none⟩ (Q1 e')).setCell ⟨Y, 2, none⟩ (Q1 c')).setCell ⟨Y, 3, none⟩ (Q1 l')) := (by show Kept _ _ _; (iterate 4 refine kS0 ?_); exact Kept.refl _ _);have fp := hid ((((HY.out.stored 0 (Q1 s')).stored 1 (Q1 e')).stored 2 (Q1 c')).stored 3 (Q1 l'));have fU := hid (HX.out.kept jA tW);have zT := hid (HS.out.on jA (fun e => dH e.symm) (fun i hi e => by have e' : i = Y := e; omega));clear jA
  go_wp2_with fail
  generalize (((w5.setCell ⟨Y, 0, none⟩ (Q1 s')).setCell ⟨Y, 1, none⟩ (Q1 e')).setCell ⟨Y, 2, none⟩ (Q1 c')).setCell ⟨Y, 3, none⟩ (Q1 l') = wz at fp fU zT ⊢
  go_meet
  case rel => exact ⟨rfl, s', e', c', l', _, fp.out, fU.out, by omega, zT.out⟩
 case rest =>
 obtain ⟨rfl, HE⟩ := hcut;clear HY HX HS;obtain ⟨s', e', c', l', k', hY, hX, aQ, hS⟩ := HE.out;have HX := hid hX;have HS := hid hS;obtain ⟨m0, m1, m2, m3⟩ := hY.all4;obtain ⟨b0, b1, b2, b3⟩ := hX.all4;have fb := hX.frozen;clear HE hY hX hS;have jA : Kept (fun b => b = X) wc ((((wc.setCell ⟨X, 0, none⟩ (Q1 s')).setCell ⟨X, 1, none⟩ (Q1 e')).setCell ⟨X, 2, none⟩ (Q1 c')).setCell ⟨X, 3, none⟩ (Q1 l')) := (by show Kept _ _ _; (iterate 4 refine kS0 ?_); exact Kept.refl _ _);have fp := hid ((((HX.out.stored 0 (Q1 s')).stored 1 (Q1 e')).stored 2 (Q1 c')).stored 3 (Q1 l'));have zT := hid (HS.out.on jA (fun e => bN e.symm) (fun i hi e => by have e' : i = X := e; omega));clear jA;go_wp2;generalize (((wc.setCell ⟨X, 0, none⟩ (Q1 s')).setCell ⟨X, 1, none⟩ (Q1 e')).setCell ⟨X, 2, none⟩ (Q1 c')).setCell ⟨X, 3, none⟩ (Q1 l') = wz at *;obtain ⟨x0, x1, x2, x3⟩ := fp.out.all4;exact bodyPost_ret (v := .agg #[Q1 s', Q1 e', Q1 c', Q1 l']) (by simp [results, Tryz.results45, go_sem, x0, x1, x2, x3]) rfl ⟨s', e', c', l', _, rfl, aQ, zT.out⟩
theorem jaV (v : Value) (cs : List Int) (w : World) (hb : IsB cs) (hn : cs.length ≤ 1048576) (hv : Rd .u8 w v cs) :
  Calls Tryz.prog 12 #[v] w fun ex w' => ∃ (s e c l : Int), ex = .returned (.agg #[Q1 s, Q1 e, Q1 c, Q1 l]) ∧ Same w w' := by
 obtain ⟨HK, HX⟩ := new1 w [Q1 0, Q1 0, Q1 0, Q1 0] 40;dsimp only [List.toArray] at HK HX;have HV := hid (hv.same HK.out);clear hv
 go_enter Tryz.func12, Tryz.ntmps12
 go_upto_region 1 with fail
 generalize w.alloc _ = w1 at HK HX HV ⊢
 go_wp2_with fail
 have JM := HX.out.lt;refine (Xd v cs w1 hb hn HV.out).mono ?_;rintro ex w2 ⟨B, size, rfl, ud, hs, hk⟩;replace HX := hid (HX.out.same hk);have se := HX.out.lt;have aO := hid (HK.out.trans hk);clear hk HV;have Nx : w.heap.size ≤ B := Nat.le_trans HK.out.size ud
 have bN : ¬ w.heap.size = B := by have := HX.out.lt; have h1 := ud; have : w.heap.size < w1.heap.size := JM; omega
 go_wp2_with fail
 refine (jdg hs (by omega)).mono ?_;rintro ex w3 ⟨s, e, c, l, k', rfl, aQ, aT⟩;have ai := aT.kept;replace HX := hid (HX.out.kept ai bN);have bo := hid (aO.out.next ai (fun i hi e => by have e' : i = B := e; omega));obtain ⟨b0, b1, b2, b3⟩ := HX.out.all4;have fb := HX.out.frozen;clear hs aT ai HK aO;obtain ⟨X, hX⟩ : ∃ X, w.heap.size = X := ⟨_, rfl⟩;have fU := hid hX;rw [hX] at HX b0 b1 b2 b3 fb ⊢;clear hX;have jA : Kept (fun b => b = X) w3 ((((w3.setCell ⟨X, 0, none⟩ (Q1 s)).setCell ⟨X, 1, none⟩ (Q1 e)).setCell ⟨X, 2, none⟩ (Q1 c)).setCell ⟨X, 3, none⟩ (Q1 l)) := (by show Kept _ _ _; (iterate 4 refine kS0 ?_); exact Kept.refl _ _);have fp := hid ((((HX.out.stored 0 (Q1 s)).stored 1 (Q1 e)).stored 2 (Q1 c)).stored 3 (Q1 l));have jL := hid (bo.out.next jA (fun i hi e => by have e' : i = X := e; have := fU.out; omega));clear jA;go_wp2;generalize (((w3.setCell ⟨X, 0, none⟩ (Q1 s)).setCell ⟨X, 1, none⟩ (Q1 e)).setCell ⟨X, 2, none⟩ (Q1 c)).setCell ⟨X, 3, none⟩ (Q1 l) = wz at *;obtain ⟨x0, x1, x2, x3⟩ := fp.out.all4;exact bodyPost_ret (v := .agg #[Q1 s, Q1 e, Q1 c, Q1 l]) (by simp [results, Tryz.results12, go_sem, x0, x1, x2, x3]) rfl ⟨s, e, c, l, rfl, jL.out⟩
def SpR (w0 w w' : World) (e : Ending) (B : Nat) (v : Value) (cs : List Int) (k : Nat) (size : Int) (O : Nat → Prop) : Prop :=
 ∃ (a : Option Addr) (n c : Nat) (ys : List Int) (k' : Nat), e = .returned (.slice a n c) ∧ n = ys.length ∧ IsB ys ∧ ys.length ≤ 6000 ∧ Rd .u8 w' (.slice a n c) ys ∧ k' ≤ k + 8 ∧ SrcR w0 w' B v cs k' size ∧ Kept (fun b => b = B ∨ O b) w w'
def SpI (w0 w : World) (B : Nat) (v : Value) (cs : List Int) (k : Nat) (size : Int) (g n c : Nat) (bs : List Int) (wx : World) (m : Nat := 4) : Prop :=
 Own 0 5 .u8 wx (Q3 g n c) bs ∧ Kept (fun b => b = B) w wx ∧ ∃ k', k' ≤ k + m ∧ SrcR w0 wx B v cs k' size
def jgk (r : Nat) (x : Value) : Prop := ∃ d : Bool, x = .bool d ∧ (d = true → 40 < r)
def jgl (n : Nat) (x : Value) : Prop := ∃ q : Nat, x = Q1 (q : Int) ∧ q < n
theorem jd5 {w0 w : World} {B : Nat} {v : Value} {cs : List Int} {k : Nat} {size : Int} (h : SrcR w0 w B v cs k size) (hk : k ≤ 1073000000) (a : Option Addr) (n c : Nat) (bs : List Int) (hb : IsB bs) (hl : bs.length ≤ 5000) (hn : n = bs.length) (ho : Own 0 5 .u8 w (.slice a n c) bs) (hf : ∀ b, (Value.slice a n c).ownBlock = some b → ¬ b = B ∧ w0.heap.size ≤ b) :
  Calls Tryz.prog 40 #[Q2 B 0, .slice a n c] w fun e w' => SpR w0 w w' e B v cs k size (fun b => (Value.slice a n c).ownBlock = some b) := by
 have HS := hid h;have HO := hid ho;have HF := hid hf;have HN := hid hn;have HB := hid hb;have HK : Hid (Kept (fun b => b = B) w w) := kZ0
 have LP : n ≤ 5000 := by omega
 have gU := h.kept.size;have ud := h.lt;clear h ho hf hn hb hl
 by_cases h0 : n = 0
 ·have HR := hid (Vp w 0)
  have dk : Same w (w.alloc (.cells #[.int .u8 0] 5)) := kZ0.alloc _;have HE : Hid (SpR w0 w (w.alloc (.cells #[.int .u8 0] 5)) (.returned (.slice (some ⟨w.heap.size, 0, none⟩) 1 1)) B v cs k size (fun b => (Value.slice a n c).ownBlock = some b)) := ⟨_, 1, 1, [0], k, rfl, rfl, fun x hx => by have : x = 0 := List.mem_singleton.1 hx; omega, by simp, HR.out, by omega, HS.out.same dk, dk.mono (fun _ _ e => e.elim)⟩;clear dk HR;subst h0
  go_enter Tryz.func40, Tryz.ntmps40
  go_wp2;go_ret;exact HE.out
 have ov : (0 : Int) < (n : Int) := by omega
 have NR : ¬ (n : Int) = 0 := by omega
 obtain ⟨g, rfl⟩ := SB HO.out (by have := HN.out; omega);have ub := HF.out g (by simp [Value.ownBlock]);have jH : ¬ g = B := ub.1;have nE : n ≤ c := HO.out.caps.2
 have zw : ∀ b, (Value.slice (some ⟨g, 0, none⟩) n c).ownBlock = some b → b = g := fun b hb => by have e1 : g = b := (by simpa [Value.ownBlock] using hb); exact e1.symm
 have dS := hid zw;clear zw
 go_enter Tryz.func40, Tryz.ntmps40
 go_wp2_with fail
 refine (Pd 4 HS.out (by omega) (by constructor <;> decide)).mono ?_;rintro e w1 ⟨z, rfl, hd, hs, ai⟩;obtain ⟨cE, cP⟩ := hd.2 (by decide);replace HO := hid (HO.out.kept ai (fun b hb e => by have := dS.out b hb; omega));replace HK := hid (HK.out.trans ai);replace HS := hid hs;clear hd hs ai
 by_cases z0 : z = 0
 ·subst z0
  go_wp2_with fail
  refine (Pd 256 HS.out (by omega) (by constructor <;> decide)).mono ?_;rintro e w2 ⟨r, rfl, hd, hs, ai⟩;replace HO := hid (HO.out.kept ai (fun b hb e => by have := dS.out b hb; omega));replace HK := hid (HK.out.trans ai);replace HS := hid hs;clear hd hs ai;have dk : Same w2 (w2.alloc (.cells #[.int .u8 (IntKind.u8.wrap r)] 5)) := kZ0.alloc _
  go_wp2_with (at_builtin; refine QJ rfl (.tmp 14) (.tmp 18) rfl _ _ bs [IntKind.u8.wrap r] rfl rfl (HO.out.same dk) (Vp w2 _) (by have := HN.out; simp; omega) ?_; intro a' n' c' w9 ho hg; obtain ⟨Iz, Ir⟩ : Hid _ ∧ Hid _ := ⟨hid ho, hid hg⟩; clear ho hg)
  go_ret
  have AH : n' = (bs ++ [IntKind.u8.wrap r]).length := by
   rcases Iz.out.rd.2 with h | h
   ·have := h.1; simp at this
   ·obtain ⟨b, off, c2, h1, _⟩ := h
    have h2 : (Value.slice a' n' c') = _ := h1
    injection h2
  refine ⟨a', n', c', _, k + 1 + 1, rfl, AH, fun x hx => (List.mem_append.1 hx).elim (HB.out x) (fun h => by rw [List.mem_singleton.1 h]; exact R3 r), by have := HN.out; simp; omega, Iz.out.rd, by omega, ?_, ?_⟩
  ·exact (HS.out.same dk).on Ir.out.kept (fun e => jH (dS.out B e).symm) (fun i hi e => by have := dS.out i e; omega)
  ·exact ((HK.out.next dk (fun _ _ e => e.elim)).mono (fun _ _ e => .inl e)).trans (Ir.out.kept.mono (fun _ _ e => .inr e))
 have e0 : (z == 0) = false := by simp [z0]
 have Hy : IsI (n : Int) := by constructor <;> omega
 by_cases z1 : z = 1
 ·subst z1
  go_wp2_with fail
  refine (Pd (n : Int) HS.out (by omega) Hy).mono ?_;rintro e w2 ⟨r, rfl, hd, hs, ai⟩;obtain ⟨du, aS⟩ := hd.2 (by omega);replace HO := hid (HO.out.kept ai (fun b hb e => by have := dS.out b hb; omega));replace HK := hid (HK.out.trans ai);replace HS := hid hs;clear hd hs ai;obtain ⟨r, rfl⟩ : ∃ m : Nat, r = (m : Int) := ⟨r.toNat, by omega⟩
  have HR := (show Hid (Rd .u8 w2 (Q3 g r c) (bs.take r)) from by
   have h := Rd.part (k := .u8) (w := w2) (b := g) (off := 0) (n := r) (c := c) (bs := bs) (fun i hi => by rw [Nat.zero_add]; exact HO.out.cell HN.out i (by rw [HN.out]; exact hi)) 0 r (by have := HN.out; omega) rfl (by omega) (by unfold maxLen; omega);rw [List.drop_zero] at h
   exact h)
  go_wp2;go_ret;exact ⟨_, r, c, bs.take r, _, rfl, by have := HN.out; simp; omega, fun x hx => HB.out x (List.mem_of_mem_take hx), by have := HN.out; simp; omega, HR.out, by omega, HS.out, HK.out.mono (fun _ _ e => .inl e)⟩
 have e1 : (z == 1) = false := by simp [z1]
 go_wp2_with fail
 refine (Pd (n : Int) HS.out (by omega) Hy).mono ?_;rintro e w2 ⟨r, rfl, hd, hs, ai⟩;obtain ⟨du, aS⟩ := hd.2 (by omega);replace HO := hid (HO.out.kept ai (fun b hb e => by have := dS.out b hb; omega));replace HK := hid (HK.out.trans ai);replace HS := hid hs;clear hd hs ai;obtain ⟨r, rfl⟩ : ∃ m : Nat, r = (m : Int) := ⟨r.toNat, by omega⟩
 go_upto_region 9 with fail
 go_cut [5, 37] (fun y x wx => y = Q1 (r : Int) ∧ Hid (jgk r x) ∧ Hid (SpI w0 w B v cs k size g n c bs wx))
 case first =>
  go_wp2_with fail
  refine (SA 2 HS.out (by omega) (by constructor <;> decide)).mono ?_;rintro e w3 ⟨ch, rfl, hs, ai⟩;have HE : Hid (SpI w0 w B v cs k size g n c bs w3) := ⟨HO.out.kept ai (fun b hb e => by have := dS.out b hb; omega), HK.out.trans ai, _, by omega, hs⟩;clear hs ai
  cases ch
  case false =>
   go_wp2_with fail
   go_meet
   case rel => exact ⟨rfl, ⟨false, rfl, fun h => by cases h⟩, HE⟩
  by_cases h40 : (40 : Int) < (r : Int)
  ·go_wp2_with fail
   go_meet
   case rel => exact ⟨rfl, ⟨true, by first | rfl | (simp; omega), fun _ => by omega⟩, HE⟩
  ·go_wp2_with fail
   go_meet
   case rel => exact ⟨rfl, ⟨false, by first | rfl | (simp; omega), fun h => by cases h⟩, HE⟩
 case rest =>
 obtain ⟨rfl, HD, HE⟩ := hcut;obtain ⟨d, rfl, B9⟩ := HD.out;clear HO HK HS HD
 go_upto_if 37 with fail
 go_cut [5] (fun x wx => Hid (jgl n x) ∧ Hid (SpI w0 w B v cs k size g n c bs wx 5))
 case first =>
  cases d
  case false =>
   go_wp2_with fail
   go_meet
   case rel => exact ⟨⟨r, rfl, by omega⟩, HE.out.1, HE.out.2.1, HE.out.2.2.elim fun k' h => ⟨k', by omega, h.2⟩⟩
  have JJ := B9 rfl;obtain ⟨ho, hK, k', aQ, hs⟩ := HE.out
  go_wp2_with fail
  refine (Pd 40 hs (by omega) (by constructor <;> decide)).mono ?_;rintro e w5 ⟨q, rfl, hd, rF, ai⟩;obtain ⟨fj, gV⟩ := hd.2 (by decide);have jd : Hid (SpI w0 w B v cs k size g n c bs w5 5) := ⟨ho.kept ai (fun b hb e => by have := dS.out b hb; omega), hK.trans ai, _, by omega, rF⟩;obtain ⟨q, rfl⟩ : ∃ m : Nat, q = (m : Int) := ⟨q.toNat, by omega⟩;clear ho hK hs rF ai hd
  go_wp2_with fail
  go_meet
  case rel => exact ⟨⟨q, rfl, by omega⟩, jd⟩
 case rest =>
 obtain ⟨HQ, HE⟩ := hcut;obtain ⟨q, rfl, hq⟩ := HQ.out;obtain ⟨ho, hK, k', aQ, hs⟩ := HE.out;have HO := hid ho;have HK := hid hK;have HS := hid hs;clear HQ HE ho hK hs
 go_wp2_with fail
 obtain ⟨x0, dR⟩ : ∃ x, bs.getD q 0 = x := ⟨_, rfl⟩;refine O0 (fun wx : World => D0 wx g q (.int .u8 x0)) 12 13 ?_;generalize hwd : World.drew wc = v1
 have ix : Same wc v1 := by rw [← hwd]; exact kZ0.drew
 clear hwd;replace HO := hid (HO.out.same ix);replace HK := hid (HK.out.next ix (fun _ _ e => e.elim));replace HS := hid (HS.out.same ix);clear ix
 have hS : (fun wx : World => D0 wx g q (.int .u8 x0)) v1 := by rw [← dR]; exact HO.out.cell HN.out q hq
 have fj : (q : Int) < (n : Int) := by omega
 refine tk 0 40 hS ?_;refine tk 1 41 hS ?_;refine tk 2 42 hS ?_;refine tk 3 43 hS ?_;refine tk 4 44 hS ?_;refine tk 5 45 hS ?_;refine tk 6 46 hS ?_;refine o1Q 7 (fun K hK => ?_);go_simp;refine (Pd 3 HS.out (by omega) (by constructor <;> decide)).mono ?_;rintro ex w7 ⟨u, rfl, hd, hs, ai⟩;obtain ⟨OJ, rh⟩ := hd.2 (by decide);replace HO := hid (HO.out.kept ai (fun b hb e => by have := dS.out b hb; omega));replace HK := hid (HK.out.trans ai);replace HS := hid hs;clear hd hs ai
 have hS : (fun wx : World => D0 wx g q (.int .u8 x0)) w7 := by rw [← dR]; exact HO.out.cell HN.out q hq
 refine hK.out _ _ (fun _ => hS) ?_;clear hK K
 try simp only [Sp]
 obtain ⟨y, hy⟩ : ∃ y, 1 + u = y := ⟨_, rfl⟩
 have q2 : IntKind.i64.wrap y = y := by rw [IntKind.wrap_i64]; omega
 refine tkV 8 48 (Q1 y) hS ?_;refine tkV 9 49 (.int .u8 (IntKind.u8.wrap y)) hS ?_;refine tkV 10 50 (.int .u8 (IntKind.u8.wrap (x0 + IntKind.u8.wrap y))) hS ?_;refine tk 11 51 hS ?_;obtain ⟨X, hX⟩ : ∃ X, IntKind.u8.wrap (x0 + IntKind.u8.wrap y) = X := ⟨_, rfl⟩
 have JV : 0 ≤ X ∧ X ≤ 255 := by rw [← hX]; exact R3 _
 rw [hX];clear hX;have aX : Kept (fun b => b = g) w7 (w7.setCell ⟨g, q, none⟩ (.int .u8 X)) := (Kept.refl (fun b => b = g) w7).setCell (p := ⟨g, q, none⟩) (.inr rfl) _;have HE : Hid (SpR w0 w (w7.setCell ⟨g, q, none⟩ (.int .u8 X)) (.returned (Q3 g n c)) B v cs k size (fun b => (Value.slice (some ⟨g, 0, none⟩) n c).ownBlock = some b)) := ⟨_, n, c, bs.set q X, k' + 1, rfl, by rw [List.length_set]; exact HN.out, jbe HB.out q X JV, by rw [List.length_set]; have := HN.out; omega, (HO.out.stored HN.out q X).rd, by omega, HS.out.on aX (fun e => jH e.symm) (fun i hi e => by have e' : i = g := e; omega), (HK.out.mono (fun _ _ e => .inl e)).trans (aX.mono (fun b _ e => .inr (by have e' : b = g := e; rw [e']; rfl)))⟩;have c0 : w7.cell? ⟨g, q, none⟩ = some (.int .u8 x0) := hS;have f0 := HO.out.frozen HN.out q;clear aX;refine o1Q 12 (fun K hK => ?_);go_simp;refine hK.out _ _ (fun h => absurd rfl h) ?_;clear hK K;refine OZ ?_
 try simp only [Sp]
 generalize World.setCell _ ⟨g, q, none⟩ _ = w9 at HE ⊢;go_wp2;go_ret;exact HE.out
theorem jaW (v : Value) (cs : List Int) (w : World) (hb : IsB cs) (hn : cs.length ≤ 1048576) (hv : Rd .u8 w v cs) :
  Calls Tryz.prog 9 #[v] w fun ex w' => ∃ (a : Option Addr) (n c : Nat) (ys : List Int), ex = .returned (.slice a n c) ∧ n = ys.length ∧ IsB ys ∧ ys.length ≤ 6000 ∧ Rd .u8 w' (.slice a n c) ys ∧ Same w w' := by
 have HV := hid hv;clear hv
 go_enter Tryz.func9, Tryz.ntmps9
 go_wp2_with fail
 refine (Xd v cs w hb hn HV.out).mono ?_;rintro ex w2 ⟨B, size, rfl, ud, hs, hk⟩;have HK := hid hk;have HS := hid hs;clear hk hs HV
 go_wp2_with fail
 refine (jde HS.out (by omega)).mono ?_;rintro ex w3 ⟨y, k3, rfl, dQ, rj, pZ, jx, aZ, hs, ai⟩;replace HK := hid (HK.out.next ai (fun i hi e => by have e' : i = B := e; omega));replace HS := hid hs;clear ai hs
 go_wp2_with fail
 refine (Rz y _ ⟨dQ.1, dQ.2.1, dQ.2.2.1⟩ (by omega) (StLogRecord.own_rd pZ)).mono ?_;rintro ex w4 ⟨a, c, rfl, BO, uE, ai⟩
 have Hf : IsB (P8 y.dat) := by
  by_cases hz : O9 y.dat = 0
  ·rw [P9 hz]
   exact Sk ⟨dQ.1, dQ.2.1, dQ.2.2.1⟩ hz
  ·rw [show P8 y.dat = [] from by unfold P8; rw [if_pos (by simpa using hz)]]
   exact ja2
 have gw := U3 y.dat;have iP := HK.out.size;have OC := HS.out.lt;have Af := HS.out.kept.size;replace HK := hid (HK.out.trans ai);replace HS := hid (HS.out.same ai);generalize P8 y.dat = bs at *;obtain ⟨n, hn⟩ : ∃ n, bs.length = n := ⟨_, rfl⟩;rw [hn] at BO uE ⊢;have HN := hid hn.symm
 have LP : n ≤ 5000 := by omega
 have HO := hid uE;have HF : Hid (∀ b, (Value.slice a n c).ownBlock = some b → w3.heap.size ≤ b) := BO;clear ai pZ jx dQ BO uE hn gw
 go_wp2_with fail
 refine (SA 3 HS.out (by omega) (by constructor <;> decide)).mono ?_;rintro ex w5 ⟨ch, rfl, hs, ai⟩;replace HK := hid (HK.out.next ai (fun i hi e => by have e' : i = B := e; omega));replace HO := hid (HO.out.kept ai (fun b hb e => by have := HF.out b hb; have e' : b = B := e; omega));replace HS := hid hs;clear ai hs
 cases ch
 case false =>
  go_wp2;go_ret;exact ⟨a, n, c, bs, rfl, HN.out, Hf, by have := HN.out; omega, HO.out.rd, HK.out⟩
 go_wp2_with fail
 refine (jd5 HS.out (by omega) a n c bs Hf (by have := HN.out; omega) HN.out HO.out (fun b hb => by have := HF.out b hb; omega)).mono ?_;rintro ex w6 ⟨a', n', c', ys, k', rfl, Gw, dQ, qZ, b9, aQ, hs, ai⟩;have jL := hid (HK.out.next ai (fun i hi e => e.elim (fun e => by omega) (fun e => by have := HF.out i e; omega)));have HR := hid b9;have sr := hid Gw;clear hs ai b9 Gw;go_wp2;go_ret;exact ⟨a', n', c', ys, rfl, sr.out, dQ, qZ, HR.out, jL.out⟩
def mS (bs : List Int) : Int := Ps (takeB bs 4 8)
def mE (bs : List Int) : Int := Ps (takeB bs 12 4)
def mC (bs : List Int) : Int := Ps (takeB bs 16 8)
def mL (bs : List Int) : Int := Ps (takeB bs 24 8)
def Tz (bs : List Int) : Bool := decide (mF (mS bs) (mE bs) (mC bs) (mL bs) = 0) && decide (Uw (mS bs) (mE bs) (mC bs) (mL bs) = bs)
def XG (g : Bool) (sl s e c l : Int) : Value := .agg #[.bool g, Q1 sl, Q1 s, Q1 e, Q1 c, Q1 l]
def jb5 (bs : List Int) : Value := if Tz bs = true then XG true 0 (mS bs) (mE bs) (mC bs) (mL bs) else XG false 0 0 0 0 0
theorem jah {bs : List Int} (h : Tz bs = true) : jb5 bs = XG true 0 (mS bs) (mE bs) (mC bs) (mL bs) := if_pos h
theorem jd6 {bs : List Int} (h : Tz bs = false) : jb5 bs = XG false 0 0 0 0 0 := if_neg (by rw [h]; decide)
theorem jdh (s e c l : Int) : IsB (Uw s e c l) := by
 unfold Uw
 split
 ·exact jeY _ _ _ _
 ·intro y hy; cases hy
theorem take_at (A B C : List Int) (a b : Nat) (ha : a = A.length) (hb : b = B.length) : ((A ++ (B ++ C)).drop a).take b = B := by
 subst ha hb;rw [List.drop_left, List.take_left]
theorem Va {x : Int} {n : Nat} (hn : 1 ≤ n) (kz : n ≤ 8) (h0 : 0 ≤ x) (h1 : x < 256 ^ n) (h2 : x ≤ 9223372036854775807) : Ps (O5 x n) = x := by
 obtain ⟨m, rfl⟩ : ∃ m : Nat, x = (m : Int) := ⟨x.toNat, by omega⟩
 have e : num (O5 (m : Int) n) = (m : Int) := by
  rw [WI, Nat.mod_eq_of_lt]
  have : ((256 ^ n : Nat) : Int) = (256 : Int) ^ n := by simp
  omega
 unfold Ps;rw [e, OY, if_neg (by omega)]
theorem Vb (bs : List Int) (o n : Nat) (h : o + n ≤ bs.length) : takeB bs o n = (bs.drop o).take n := by
 apply List.ext_getElem?;intro i;unfold takeB;rw [List.getElem?_map, List.getElem?_take]
 by_cases hi : i < n
 ·rw [if_pos hi, List.getElem?_drop, List.getElem?_range hi]
  simp [show o + i < bs.length from by omega]
 ·rw [if_neg hi, List.getElem?_eq_none (by rw [List.length_range]; omega)]
  rfl
theorem je0 {s e c l : Int} (h : mF s e c l = 0) : mS (mB s e c l) = s ∧ mE (mB s e c l) = e ∧ mC (mB s e c l) = c ∧ mL (mB s e c l) = l ∧ Tz (mB s e c l) = true := by
 obtain ⟨h1, h2, h3, h4, h5⟩ := Yv h
 have p8 : (256 : Int) ^ 8 = 18446744073709551616 := by decide
 have p4 : (256 : Int) ^ 4 = 4294967296 := by decide
 have flat : mB s e c l = hp4 ++ (O5 s 8 ++ (O5 e 4 ++ (O5 c 8 ++ (O5 l 8 ++ (O5 (Pp 0 (mH s e c l)) 4 ++ List.replicate 476 0))))) := by
  obtain ⟨Z, hZ⟩ : ∃ Z, O5 (Pp 0 (mH s e c l)) 4 = Z := ⟨_, rfl⟩;unfold mB;rw [hZ];unfold mH;simp only [List.append_assoc]
 have d1 : mS (mB s e c l) = s := by
  unfold mS;rw [Vb _ _ _ (by rw [QF]; decide), flat, take_at hp4 (O5 s 8) _ 4 8 rfl (by rw [OY])];exact Va (by decide) (by decide) (by omega) (by omega) (by omega)
 have d2 : mE (mB s e c l) = e := by
  unfold mE;rw [Vb _ _ _ (by rw [QF]; decide), flat, ← List.append_assoc, take_at (hp4 ++ O5 s 8) (O5 e 4) _ 12 4 (by rw [List.length_append, OY]; rfl) (by rw [OY])];exact Va (by decide) (by decide) (by omega) (by omega) (by omega)
 have d3 : mC (mB s e c l) = c := by
  unfold mC;rw [Vb _ _ _ (by rw [QF]; decide), flat, ← List.append_assoc, ← List.append_assoc, take_at (hp4 ++ O5 s 8 ++ O5 e 4) (O5 c 8) _ 16 8 (by rw [List.length_append, List.length_append, OY, OY]; rfl) (by rw [OY])];exact Va (by decide) (by decide) (by omega) (by omega) (by omega)
 have d4 : mL (mB s e c l) = l := by
  unfold mL;rw [Vb _ _ _ (by rw [QF]; decide), flat, ← List.append_assoc, ← List.append_assoc, ← List.append_assoc, take_at (hp4 ++ O5 s 8 ++ O5 e 4 ++ O5 c 8) (O5 l 8) _ 24 8 (by rw [List.length_append, List.length_append, List.length_append, OY, OY, OY]; rfl) (by rw [OY])];exact Va (by decide) (by decide) (by omega) (by omega) (by omega)
 refine ⟨d1, d2, d3, d4, ?_⟩;unfold Tz;rw [d1, d2, d3, d4, U9 h];simp [h]
end Go.Proofs.YtapdfgkbhaoelaaGreatDoor
