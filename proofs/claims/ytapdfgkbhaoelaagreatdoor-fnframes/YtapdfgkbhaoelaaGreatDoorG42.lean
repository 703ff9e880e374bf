import Derived.Test.YtapdfgkbhaoelaaGreatDoorG41
namespace Go.Proofs.YtapdfgkbhaoelaaGreatDoor
set_option maxRecDepth 100000
set_option maxHeartbeats 8000000
set_option linter.unusedVariables false
set_option linter.unusedSimpArgs false
open Go Go.RowKit
def drc (kd t p g s : Int) (au : Bool) (af : BS) (u n : Int) (tx dy : FR) (im : BS) : StLogRecord := ⟨kd, t, p, g, s, ⟨false, ⟨5, none, 0, []⟩⟩, ⟨au, af⟩, u, n, tx, dy, im⟩
section
variable {w0 w wc : World} {B X : Nat} {v : Value} {cs : List Int} {k k' N : Nat} {size : Int}
theorem noB (b : Nat) (w : World) : ¬ (BS.v ⟨5, none, 0, []⟩).ownBlock = some b := by simp [BS.v, Value.ownBlock]
theorem noF (e : TypeId) (b : Nat) : ¬ (FR.v ⟨e, none, 0, 0, []⟩).ownBlock = some b := by simp [FR.v, Value.ownBlock]
theorem jdd {y : StLogRecord} (hX : Blk wc X 28 [Q1 0, Q1 0, Q1 0, Q1 0, Q1 0, .bool false, Q4, .bool false, Q4, Q1 0, Q1 0, Q4, Q4, Q4]) (vS : w.heap.size ≤ X) (hw : w0.heap.size ≤ w.heap.size) (bN : ¬ X = B) (hO : OwnL wc y.rows) (hf : ∀ b, O6 y.rows b → w.heap.size ≤ b ∧ ¬ b = B ∧ ¬ b = X) (hB : IsB y.before.data.bs ∧ IsB y.after.data.bs ∧ IsB y.image.bs ∧ RcT y) (hz : y.szs ≤ 5000) (hs : SrcR w0 wc B v cs k' size) (hK : Kept (fun b => b = B) w wc) (hk : k' ≤ k + N) :
  RcR w0 w (wc.setCells X 0 (O8 y)) (.returned y.val) B v cs k size N ∧ Blk (wc.setCells X 0 (O8 y)) X 28 (O8 y) := by
 have aX : Kept (fun b => b = X) wc (wc.setCells X 0 (O8 y)) := Kept.setCells (R := fun b => b = X) (.inr rfl) _ _ kZ0;exact ⟨⟨_, k', rfl, hB, hz, hO.kept aX (fun b hb e => (hf b hb).2.2 e), fun b hb => ⟨(hf b hb).1, (hf b hb).2.1⟩, hk, hs.on aX (fun e => bN e.symm) (fun i hi e => by have e' : i = X := e; omega), hK.next aX (fun i hi e => by have e' : i = X := e; omega)⟩, R4 hX _ rfl⟩
theorem SE {kd t p g s : Int} {au : Bool} {af : BS} {u n : Int} {tx dy : FR} {im : BS} (hX : Blk wc X 28 [Q1 0, Q1 0, Q1 0, Q1 0, Q1 0, .bool false, Q4, .bool false, Q4, Q1 0, Q1 0, Q4, Q4, Q4]) (vS : w.heap.size ≤ X) (hw : w0.heap.size ≤ w.heap.size) (bN : ¬ X = B)
  (h1 : OwnL wc af.rows) (h2 : OwnL wc (tx.rows 4)) (h3 : OwnL wc (dy.rows 2)) (h4 : OwnL wc im.rows)
  (f1 : ∀ b, af.v.ownBlock = some b → w.heap.size ≤ b ∧ ¬ b = B ∧ ¬ b = X) (f2 : ∀ b, tx.v.ownBlock = some b → w.heap.size ≤ b ∧ ¬ b = B ∧ ¬ b = X ∧ ¬ dy.v.ownBlock = some b) (f3 : ∀ b, dy.v.ownBlock = some b → w.heap.size ≤ b ∧ ¬ b = B ∧ ¬ b = X) (f4 : ∀ b, im.v.ownBlock = some b → w.heap.size ≤ b ∧ ¬ b = B ∧ ¬ b = X)
  (hA : (∀ b, ¬ tx.v.ownBlock = some b) ∧ (∀ b, ¬ dy.v.ownBlock = some b) ∧ (∀ b, ¬ im.v.ownBlock = some b) ∨ (∀ b, ¬ af.v.ownBlock = some b) ∧ ((∀ b, ¬ im.v.ownBlock = some b) ∨ (∀ b, ¬ tx.v.ownBlock = some b) ∧ ∀ b, ¬ dy.v.ownBlock = some b))
  (hB : IsB af.bs ∧ IsB im.bs) (hT : RcT (drc kd t p g s au af u n tx dy im)) (hz : (af.bs.length : Int) + tx.n + dy.n + im.bs.length ≤ 5000) (hs : SrcR w0 wc B v cs k' size) (hK : Kept (fun b => b = B) w wc) (hk : k' ≤ k + N) :
  RcR w0 w (wc.setCells X 0 (O8 (drc kd t p g s au af u n tx dy im))) (.returned (drc kd t p g s au af u n tx dy im).val) B v cs k size N ∧ Blk (wc.setCells X 0 (O8 (drc kd t p g s au af u n tx dy im))) X 28 (O8 (drc kd t p g s au af u n tx dy im)) := by
 have nl : OwnL wc (BS.rows ⟨5, none, 0, []⟩) := OwnL.one (Own.nil 0 _ .u8 _)
 have ft : ∀ b, O6 (drc kd t p g s au af u n tx dy im).rows b → af.v.ownBlock = some b ∨ tx.v.ownBlock = some b ∨ dy.v.ownBlock = some b ∨ im.v.ownBlock = some b := fun b h => by
  rcases (OX _ _ _).1 h with h | h
  ·exact absurd ((Qs _ b).1 h) (noB b w)
  rcases (OX _ _ _).1 h with h | h
  ·exact .inl ((Qs _ b).1 h)
  rcases (OX _ _ _).1 h with h | h
  ·exact .inr (.inl ((PL _ _ b).1 h))
  rcases (OX _ _ _).1 h with h | h
  ·exact .inr (.inr (.inl ((PL _ _ b).1 h)))
  ·exact .inr (.inr (.inr ((Qs _ b).1 h)))
 have hf : ∀ b, O6 (drc kd t p g s au af u n tx dy im).rows b → w.heap.size ≤ b ∧ ¬ b = B ∧ ¬ b = X := fun b h => by
  rcases ft b h with h | h | h | h
  ·exact f1 b h
  ·exact ⟨(f2 b h).1, (f2 b h).2.1, (f2 b h).2.2.1⟩
  ·exact f3 b h
  ·exact f4 b h
 have hO : OwnL wc (drc kd t p g s au af u n tx dy im).rows := by
  refine nl.append (h1.append (h2.append (h3.append h4 (fun b ha hb => ?_)) (fun b ha hb => ?_)) (fun b ha hb => ?_)) (fun b ha hb => absurd ((Qs _ b).1 ha) (noB b w))
  ·have ha := (PL _ _ b).1 ha; have hb := (Qs _ b).1 hb
   rcases hA with h | ⟨_, h | h⟩
   ·exact h.2.2 b hb
   ·exact h b hb
   ·exact h.2 b ha
  ·have ha := (PL _ _ b).1 ha
   rcases (OX _ _ _).1 hb with hb | hb
   ·exact (f2 b ha).2.2.2 ((PL _ _ b).1 hb)
   ·have hb := (Qs _ b).1 hb
    rcases hA with h | ⟨_, h | h⟩
    ·exact h.1 b ha
    ·exact h b hb
    ·exact h.1 b ha
  ·have ha := (Qs _ b).1 ha
   rcases hA with h | h
   ·rcases (OX _ _ _).1 hb with hb | hb
    ·exact h.1 b ((PL _ _ b).1 hb)
    rcases (OX _ _ _).1 hb with hb | hb
    ·exact h.2.1 b ((PL _ _ b).1 hb)
    ·exact h.2.2 b ((Qs _ b).1 hb)
   ·exact h.1 b ha
 have fQ : (drc kd t p g s au af u n tx dy im).szs ≤ 5000 := by
  simp only [StLogRecord.szs, StPageRecord.szs, drc, List.length_nil];omega
 exact jdd hX vS hw bN hO hf ⟨fun x hx => by simp [drc] at hx, hB.1, hB.2, hT⟩ fQ hs hK hk
end
theorem jde {w0 w : World} {B : Nat} {v : Value} {cs : List Int} {k : Nat} {size : Int} (h : SrcR w0 w B v cs k size) (hk : k ≤ 1072000000) :
  Calls Tryz.prog 38 #[Q2 B 0] w fun e w' => RcR w0 w w' e B v cs k size 500 := by
 have b0 := Blk.newL w [Q1 0, Q1 0, Q1 0, Q1 0, Q1 0, .bool false, Q4, .bool false, Q4, Q1 0, Q1 0, Q4, Q4, Q4] 28;have eT := h.lt;have gU := h.kept.size;have aW : Same w (w.alloc (.cells #[Q1 0, Q1 0, Q1 0, Q1 0, Q1 0, .bool false, Q4, .bool false, Q4, Q1 0, Q1 0, Q4, Q4, Q4] 28)) := kZ0.alloc _;have HS := hid (h.same aW);have HK := hid (aW.mono (R' := fun b => b = B) (fun _ _ e => e.elim));have HG := hid h;clear h
 go_enter Tryz.func38, Tryz.ntmps38
 go_upto_region 1 with fail
 obtain ⟨X, hX⟩ : ∃ X, w.heap.size = X := ⟨_, rfl⟩;have fU := hid hX;rw [hX] at b0 eT gU ⊢;dsimp only [List.toArray] at b0;generalize w.alloc (.cells #[Q1 0, Q1 0, Q1 0, Q1 0, Q1 0, .bool false, Q4, .bool false, Q4, Q1 0, Q1 0, Q4, Q4, Q4] 28) = w1 at b0 HS HK ⊢;have HX := hid b0
 have bN : ¬ X = B := by omega
 clear aW b0 hX
 go_wp2_with fail
 refine (Pd 12 HS.out (by omega) (by constructor <;> decide)).mono ?_;rintro e w2 ⟨z0, rfl, hd, hs, ai⟩;obtain ⟨MY, KL⟩ := hd.2 (by decide);clear hd;replace HX := hid (HX.out.kept ai bN);replace HK := hid (HK.out.trans ai);replace HS := hid hs;clear hs ai
 obtain rfl | rfl | rfl | rfl | rfl | rfl | rfl | rfl | hz : z0 = 0 ∨ z0 = 1 ∨ z0 = 2 ∨ z0 = 3 ∨ z0 = 4 ∨ z0 = 5 ∨ z0 = 6 ∨ z0 = 7 ∨ 8 ≤ z0 := by omega
 ·go_wp2_with fail
  refine (Pd 9 HS.out (by omega) (by constructor <;> decide)).mono ?_;rintro e w3 ⟨z1, rfl, hd, hs, ai⟩;obtain ⟨i7, iT⟩ := hd.2 (by decide);clear hd;replace HX := hid (HX.out.kept ai bN);replace HK := hid (HK.out.trans ai);replace HS := hid hs;clear hs ai
  go_wp2_with fail
  refine (TS HS.out (by omega)).mono ?_;rintro e w4 ⟨z2, rfl, lF, lJ, hs, ai⟩;replace HX := hid (HX.out.kept ai bN);replace HK := hid (HK.out.trans ai);replace HS := hid hs;clear hs ai
  go_wp2_with fail
  refine (Pd 4 HS.out (by omega) (by constructor <;> decide)).mono ?_;rintro e w5 ⟨z3, rfl, hd, hs, ai⟩;obtain ⟨oQ, oY⟩ := hd.2 (by decide);clear hd;replace HX := hid (HX.out.kept ai bN);replace HK := hid (HK.out.trans ai);replace HS := hid hs;clear hs ai
  go_wp2_with fail
  refine (Pd 6 HS.out (by omega) (by constructor <;> decide)).mono ?_;rintro e w6 ⟨z4, rfl, hd, hs, ai⟩;obtain ⟨EH, Cd⟩ := hd.2 (by decide);clear hd;replace HX := hid (HX.out.kept ai bN);replace HK := hid (HK.out.trans ai);replace HS := hid hs;clear hs ai
  go_wp2_with fail
  refine (ja8 HS.out (by omega)).mono ?_;rintro e w7 ⟨au, aa, ac, ad, ka, rfl, Hd, ja, ho, hf, BU, hs, ai⟩;have HO := hid ho;have HF := hid hf
  have Ju : X ≤ w6.heap.size := by have := HK.out.size; have := fU.out; omega
  have vr := HX.out.lt;clear ho hf;replace HX := hid (HX.out.kept ai bN);replace HK := hid (HK.out.trans ai);replace HS := hid hs;clear hs ai
  go_wp2_with fail
  refine (Pd 2 HS.out (by omega) (by constructor <;> decide)).mono ?_;rintro e w8 ⟨z5, rfl, hd, hs, ai⟩;obtain ⟨EN, BB⟩ := hd.2 (by decide);clear hd;replace HX := hid (HX.out.kept ai bN);replace HK := hid (HK.out.trans ai);replace HO := hid (HO.out.kept ai (fun b hb e => (HF.out b hb).2 e));replace HS := hid hs;clear hs ai
  go_wp2_with fail
  refine (TS HS.out (by omega)).mono ?_;rintro e w9 ⟨z6, rfl, Ei, Eb, hs, ai⟩;replace HX := hid (HX.out.kept ai bN);replace HK := hid (HK.out.trans ai);replace HO := hid (HO.out.kept ai (fun b hb e => (HF.out b hb).2 e));replace HS := hid hs;clear hs ai
  obtain rfl | rfl : z5 = 0 ∨ z5 = 1 := by omega
  ·obtain ⟨y1, dM⟩ : ∃ y, 1 + z1 = y := ⟨_, rfl⟩
   have cW := HS.out;have et := HK.out;have gu := fU.out;obtain ⟨HR, cy⟩ := SE (kd := 2) (t := y1) (p := z2) (g := z3) (s := z4) (au := au) (af := ⟨5, aa, ac, ad⟩) (u := 0) (n := 0) (tx := ⟨79, none, 0, 0, []⟩) (dy := ⟨81, none, 0, 0, []⟩) (im := ⟨5, none, 0, []⟩) (k := k) (N := 500) HX.out (by omega) (by omega) bN (OwnL.one HO.out) (Qd 4 _ _) (Qd 2 _ _) (OwnL.one (Own.nil 0 _ .u8 _)) (fun b hb => by have := HF.out b hb; omega) (fun b h => absurd h (noF _ b)) (fun b h => absurd h (noF _ b)) (fun b h => absurd h (noB b w)) (.inl ⟨noF _, noF _, fun b => noB b w⟩) ⟨ja, fun x hx => by simp at hx⟩ ⟨.inl rfl, .inl rfl, .inl rfl⟩ (by simp; omega) cW et (by omega);clear cW et gu;have eo := hid (HX.out.there 0 14 (Nat.le_refl 14));replace HR := hid HR;replace cy := hid cy
   go_wp2_with (refine wpList_store_mid rfl 28 _ _ rfl X 0 (O8 (drc 2 y1 z2 z3 z4 au ⟨5, aa, ac, ad⟩ 0 0 ⟨79, none, 0, 0, []⟩ ⟨81, none, 0, 0, []⟩ ⟨5, none, 0, []⟩)).toArray rfl rfl eo.out (by kernel_rfl) (PG _) ?_; rw [List.toList_toArray])
   generalize World.setCells _ X 0 _ = w9 at HR cy ⊢;refine bodyPost_ret (UL Tryz.results38 rfl cy.out.rangeAll Tryz.underlying28 rfl (by kernel_rfl)) rfl ?_;exact HR.out
  ·obtain ⟨y1, dM⟩ : ∃ y, 1 + z1 = y := ⟨_, rfl⟩
   have cW := HS.out;have et := HK.out;have gu := fU.out;obtain ⟨HR, cy⟩ := SE (kd := 2) (t := y1) (p := z2) (g := z3) (s := z4) (au := au) (af := ⟨5, aa, ac, ad⟩) (u := z6) (n := 0) (tx := ⟨79, none, 0, 0, []⟩) (dy := ⟨81, none, 0, 0, []⟩) (im := ⟨5, none, 0, []⟩) (k := k) (N := 500) HX.out (by omega) (by omega) bN (OwnL.one HO.out) (Qd 4 _ _) (Qd 2 _ _) (OwnL.one (Own.nil 0 _ .u8 _)) (fun b hb => by have := HF.out b hb; omega) (fun b h => absurd h (noF _ b)) (fun b h => absurd h (noF _ b)) (fun b h => absurd h (noB b w)) (.inl ⟨noF _, noF _, fun b => noB b w⟩) ⟨ja, fun x hx => by simp at hx⟩ ⟨.inl rfl, .inl rfl, .inl rfl⟩ (by simp; omega) cW et (by omega);clear cW et gu;have eo := hid (HX.out.there 0 14 (Nat.le_refl 14));replace HR := hid HR;replace cy := hid cy
   go_wp2_with (refine wpList_store_mid rfl 28 _ _ rfl X 0 (O8 (drc 2 y1 z2 z3 z4 au ⟨5, aa, ac, ad⟩ z6 0 ⟨79, none, 0, 0, []⟩ ⟨81, none, 0, 0, []⟩ ⟨5, none, 0, []⟩)).toArray rfl rfl eo.out (by kernel_rfl) (PG _) ?_; rw [List.toList_toArray])
   generalize World.setCells _ X 0 _ = w9 at HR cy ⊢;refine bodyPost_ret (UL Tryz.results38 rfl cy.out.rangeAll Tryz.underlying28 rfl (by kernel_rfl)) rfl ?_;exact HR.out
 ·go_wp2_with fail
  refine (Pd 9 HS.out (by omega) (by constructor <;> decide)).mono ?_;rintro e w3 ⟨z1, rfl, hd, hs, ai⟩;obtain ⟨i7, iT⟩ := hd.2 (by decide);clear hd;replace HX := hid (HX.out.kept ai bN);replace HK := hid (HK.out.trans ai);replace HS := hid hs;clear hs ai
  go_wp2_with fail
  refine (TS HS.out (by omega)).mono ?_;rintro e w4 ⟨z2, rfl, lF, lJ, hs, ai⟩;replace HX := hid (HX.out.kept ai bN);replace HK := hid (HK.out.trans ai);replace HS := hid hs;clear hs ai
  go_wp2_with fail
  refine (Pd 4 HS.out (by omega) (by constructor <;> decide)).mono ?_;rintro e w5 ⟨z3, rfl, hd, hs, ai⟩;obtain ⟨oQ, oY⟩ := hd.2 (by decide);clear hd;replace HX := hid (HX.out.kept ai bN);replace HK := hid (HK.out.trans ai);replace HS := hid hs;clear hs ai
  go_wp2_with fail
  refine (Pd 6 HS.out (by omega) (by constructor <;> decide)).mono ?_;rintro e w6 ⟨z4, rfl, hd, hs, ai⟩;obtain ⟨EH, Cd⟩ := hd.2 (by decide);clear hd;replace HX := hid (HX.out.kept ai bN);replace HK := hid (HK.out.trans ai);replace HS := hid hs;clear hs ai
  go_wp2_with fail
  refine (ja8 HS.out (by omega)).mono ?_;rintro e w7 ⟨au, aa, ac, ad, ka, rfl, Hd, ja, ho, hf, BU, hs, ai⟩;have HO := hid ho;have HF := hid hf
  have Ju : X ≤ w6.heap.size := by have := HK.out.size; have := fU.out; omega
  have vr := HX.out.lt;clear ho hf;replace HX := hid (HX.out.kept ai bN);replace HK := hid (HK.out.trans ai);replace HS := hid hs;clear hs ai
  go_wp2_with fail
  refine (Pd 2 HS.out (by omega) (by constructor <;> decide)).mono ?_;rintro e w8 ⟨z5, rfl, hd, hs, ai⟩;obtain ⟨EN, BB⟩ := hd.2 (by decide);clear hd;replace HX := hid (HX.out.kept ai bN);replace HK := hid (HK.out.trans ai);replace HO := hid (HO.out.kept ai (fun b hb e => (HF.out b hb).2 e));replace HS := hid hs;clear hs ai
  go_wp2_with fail
  refine (TS HS.out (by omega)).mono ?_;rintro e w9 ⟨z6, rfl, Ei, Eb, hs, ai⟩;replace HX := hid (HX.out.kept ai bN);replace HK := hid (HK.out.trans ai);replace HO := hid (HO.out.kept ai (fun b hb e => (HF.out b hb).2 e));replace HS := hid hs;clear hs ai
  obtain rfl | rfl : z5 = 0 ∨ z5 = 1 := by omega
  ·obtain ⟨y1, dM⟩ : ∃ y, 1 + z1 = y := ⟨_, rfl⟩
   have cW := HS.out;have et := HK.out;have gu := fU.out;obtain ⟨HR, cy⟩ := SE (kd := 2) (t := y1) (p := z2) (g := z3) (s := z4) (au := au) (af := ⟨5, aa, ac, ad⟩) (u := 0) (n := 0) (tx := ⟨79, none, 0, 0, []⟩) (dy := ⟨81, none, 0, 0, []⟩) (im := ⟨5, none, 0, []⟩) (k := k) (N := 500) HX.out (by omega) (by omega) bN (OwnL.one HO.out) (Qd 4 _ _) (Qd 2 _ _) (OwnL.one (Own.nil 0 _ .u8 _)) (fun b hb => by have := HF.out b hb; omega) (fun b h => absurd h (noF _ b)) (fun b h => absurd h (noF _ b)) (fun b h => absurd h (noB b w)) (.inl ⟨noF _, noF _, fun b => noB b w⟩) ⟨ja, fun x hx => by simp at hx⟩ ⟨.inl rfl, .inl rfl, .inl rfl⟩ (by simp; omega) cW et (by omega);clear cW et gu;have eo := hid (HX.out.there 0 14 (Nat.le_refl 14));replace HR := hid HR;replace cy := hid cy
   go_wp2_with (refine wpList_store_mid rfl 28 _ _ rfl X 0 (O8 (drc 2 y1 z2 z3 z4 au ⟨5, aa, ac, ad⟩ 0 0 ⟨79, none, 0, 0, []⟩ ⟨81, none, 0, 0, []⟩ ⟨5, none, 0, []⟩)).toArray rfl rfl eo.out (by kernel_rfl) (PG _) ?_; rw [List.toList_toArray])
   generalize World.setCells _ X 0 _ = w9 at HR cy ⊢;refine bodyPost_ret (UL Tryz.results38 rfl cy.out.rangeAll Tryz.underlying28 rfl (by kernel_rfl)) rfl ?_;exact HR.out
  ·obtain ⟨y1, dM⟩ : ∃ y, 1 + z1 = y := ⟨_, rfl⟩
   have cW := HS.out;have et := HK.out;have gu := fU.out;obtain ⟨HR, cy⟩ := SE (kd := 2) (t := y1) (p := z2) (g := z3) (s := z4) (au := au) (af := ⟨5, aa, ac, ad⟩) (u := z6) (n := 0) (tx := ⟨79, none, 0, 0, []⟩) (dy := ⟨81, none, 0, 0, []⟩) (im := ⟨5, none, 0, []⟩) (k := k) (N := 500) HX.out (by omega) (by omega) bN (OwnL.one HO.out) (Qd 4 _ _) (Qd 2 _ _) (OwnL.one (Own.nil 0 _ .u8 _)) (fun b hb => by have := HF.out b hb; omega) (fun b h => absurd h (noF _ b)) (fun b h => absurd h (noF _ b)) (fun b h => absurd h (noB b w)) (.inl ⟨noF _, noF _, fun b => noB b w⟩) ⟨ja, fun x hx => by simp at hx⟩ ⟨.inl rfl, .inl rfl, .inl rfl⟩ (by simp; omega) cW et (by omega);clear cW et gu;have eo := hid (HX.out.there 0 14 (Nat.le_refl 14));replace HR := hid HR;replace cy := hid cy
   go_wp2_with (refine wpList_store_mid rfl 28 _ _ rfl X 0 (O8 (drc 2 y1 z2 z3 z4 au ⟨5, aa, ac, ad⟩ z6 0 ⟨79, none, 0, 0, []⟩ ⟨81, none, 0, 0, []⟩ ⟨5, none, 0, []⟩)).toArray rfl rfl eo.out (by kernel_rfl) (PG _) ?_; rw [List.toList_toArray])
   generalize World.setCells _ X 0 _ = w9 at HR cy ⊢;refine bodyPost_ret (UL Tryz.results38 rfl cy.out.rangeAll Tryz.underlying28 rfl (by kernel_rfl)) rfl ?_;exact HR.out
 ·go_wp2_with fail
  refine (Pd 9 HS.out (by omega) (by constructor <;> decide)).mono ?_;rintro e mQ ⟨z1, rfl, hd, hs, ai⟩;obtain ⟨i7, iT⟩ := hd.2 (by decide);clear hd;replace HX := hid (HX.out.kept ai bN);replace HK := hid (HK.out.trans ai);replace HS := hid hs;clear hs ai
  go_wp2_with fail
  refine (TS HS.out (by omega)).mono ?_;rintro e lN ⟨z2, rfl, lF, lJ, hs, ai⟩;replace HX := hid (HX.out.kept ai bN);replace HK := hid (HK.out.trans ai);replace HS := hid hs;clear hs ai;obtain ⟨y1, dM⟩ : ∃ y, 1 + z1 = y := ⟨_, rfl⟩;have cW := HS.out;have et := HK.out;have gu := fU.out;obtain ⟨HR, cy⟩ := SE (kd := 3) (t := y1) (p := z2) (g := 0) (s := 0) (au := false) (af := ⟨5, none, 0, []⟩) (u := 0) (n := 0) (tx := ⟨79, none, 0, 0, []⟩) (dy := ⟨81, none, 0, 0, []⟩) (im := ⟨5, none, 0, []⟩) (k := k) (N := 500) HX.out (by omega) (by omega) bN (OwnL.one (Own.nil 0 _ .u8 _)) (Qd 4 _ _) (Qd 2 _ _) (OwnL.one (Own.nil 0 _ .u8 _)) (fun b h => absurd h (noB b w)) (fun b h => absurd h (noF _ b)) (fun b h => absurd h (noF _ b)) (fun b h => absurd h (noB b w)) (.inl ⟨noF _, noF _, fun b => noB b w⟩) ⟨fun x hx => by simp at hx, fun x hx => by simp at hx⟩ ⟨.inl rfl, .inl rfl, .inl rfl⟩ (by simp) cW et (by omega);clear cW et gu;have eo := hid (HX.out.there 0 14 (Nat.le_refl 14));replace HR := hid HR;replace cy := hid cy
  go_wp2_with (refine wpList_store_mid rfl 28 _ _ rfl X 0 (O8 (drc 3 y1 z2 0 0 false ⟨5, none, 0, []⟩ 0 0 ⟨79, none, 0, 0, []⟩ ⟨81, none, 0, 0, []⟩ ⟨5, none, 0, []⟩)).toArray rfl rfl eo.out (by kernel_rfl) (PG _) ?_; rw [List.toList_toArray])
  generalize World.setCells _ X 0 _ = w9 at HR cy ⊢;refine bodyPost_ret (UL Tryz.results38 rfl cy.out.rangeAll Tryz.underlying28 rfl (by kernel_rfl)) rfl ?_;exact HR.out
 ·go_wp2_with fail
  refine (Pd 9 HS.out (by omega) (by constructor <;> decide)).mono ?_;rintro e vn ⟨z1, rfl, hd, hs, ai⟩;obtain ⟨i7, iT⟩ := hd.2 (by decide);clear hd;replace HX := hid (HX.out.kept ai bN);replace HK := hid (HK.out.trans ai);replace HS := hid hs;clear hs ai
  go_wp2_with fail
  refine (TS HS.out (by omega)).mono ?_;rintro e om ⟨z2, rfl, lF, lJ, hs, ai⟩;replace HX := hid (HX.out.kept ai bN);replace HK := hid (HK.out.trans ai);replace HS := hid hs;clear hs ai;obtain ⟨y1, dM⟩ : ∃ y, 1 + z1 = y := ⟨_, rfl⟩;have cW := HS.out;have et := HK.out;have gu := fU.out;obtain ⟨HR, cy⟩ := SE (kd := 4) (t := y1) (p := z2) (g := 0) (s := 0) (au := false) (af := ⟨5, none, 0, []⟩) (u := 0) (n := 0) (tx := ⟨79, none, 0, 0, []⟩) (dy := ⟨81, none, 0, 0, []⟩) (im := ⟨5, none, 0, []⟩) (k := k) (N := 500) HX.out (by omega) (by omega) bN (OwnL.one (Own.nil 0 _ .u8 _)) (Qd 4 _ _) (Qd 2 _ _) (OwnL.one (Own.nil 0 _ .u8 _)) (fun b h => absurd h (noB b w)) (fun b h => absurd h (noF _ b)) (fun b h => absurd h (noF _ b)) (fun b h => absurd h (noB b w)) (.inl ⟨noF _, noF _, fun b => noB b w⟩) ⟨fun x hx => by simp at hx, fun x hx => by simp at hx⟩ ⟨.inl rfl, .inl rfl, .inl rfl⟩ (by simp) cW et (by omega);clear cW et gu;have eo := hid (HX.out.there 0 14 (Nat.le_refl 14));replace HR := hid HR;replace cy := hid cy
  go_wp2_with (refine wpList_store_mid rfl 28 _ _ rfl X 0 (O8 (drc 4 y1 z2 0 0 false ⟨5, none, 0, []⟩ 0 0 ⟨79, none, 0, 0, []⟩ ⟨81, none, 0, 0, []⟩ ⟨5, none, 0, []⟩)).toArray rfl rfl eo.out (by kernel_rfl) (PG _) ?_; rw [List.toList_toArray])
  generalize World.setCells _ X 0 _ = w9 at HR cy ⊢;refine bodyPost_ret (UL Tryz.results38 rfl cy.out.rangeAll Tryz.underlying28 rfl (by kernel_rfl)) rfl ?_;exact HR.out
 ·go_wp2_with fail
  refine (Pd 9 HS.out (by omega) (by constructor <;> decide)).mono ?_;rintro e zQ ⟨z1, rfl, hd, hs, ai⟩;obtain ⟨i7, iT⟩ := hd.2 (by decide);clear hd;replace HX := hid (HX.out.kept ai bN);replace HK := hid (HK.out.trans ai);replace HS := hid hs;clear hs ai
  go_wp2_with fail
  refine (TS HS.out (by omega)).mono ?_;rintro e l7 ⟨z2, rfl, lF, lJ, hs, ai⟩;replace HX := hid (HX.out.kept ai bN);replace HK := hid (HK.out.trans ai);replace HS := hid hs;clear hs ai;obtain ⟨y1, dM⟩ : ∃ y, 1 + z1 = y := ⟨_, rfl⟩;have cW := HS.out;have et := HK.out;have gu := fU.out;obtain ⟨HR, cy⟩ := SE (kd := 5) (t := y1) (p := z2) (g := 0) (s := 0) (au := false) (af := ⟨5, none, 0, []⟩) (u := 0) (n := 0) (tx := ⟨79, none, 0, 0, []⟩) (dy := ⟨81, none, 0, 0, []⟩) (im := ⟨5, none, 0, []⟩) (k := k) (N := 500) HX.out (by omega) (by omega) bN (OwnL.one (Own.nil 0 _ .u8 _)) (Qd 4 _ _) (Qd 2 _ _) (OwnL.one (Own.nil 0 _ .u8 _)) (fun b h => absurd h (noB b w)) (fun b h => absurd h (noF _ b)) (fun b h => absurd h (noF _ b)) (fun b h => absurd h (noB b w)) (.inl ⟨noF _, noF _, fun b => noB b w⟩) ⟨fun x hx => by simp at hx, fun x hx => by simp at hx⟩ ⟨.inl rfl, .inl rfl, .inl rfl⟩ (by simp) cW et (by omega);clear cW et gu;have eo := hid (HX.out.there 0 14 (Nat.le_refl 14));replace HR := hid HR;replace cy := hid cy
  go_wp2_with (refine wpList_store_mid rfl 28 _ _ rfl X 0 (O8 (drc 5 y1 z2 0 0 false ⟨5, none, 0, []⟩ 0 0 ⟨79, none, 0, 0, []⟩ ⟨81, none, 0, 0, []⟩ ⟨5, none, 0, []⟩)).toArray rfl rfl eo.out (by kernel_rfl) (PG _) ?_; rw [List.toList_toArray])
  generalize World.setCells _ X 0 _ = w9 at HR cy ⊢;refine bodyPost_ret (UL Tryz.results38 rfl cy.out.rangeAll Tryz.underlying28 rfl (by kernel_rfl)) rfl ?_;exact HR.out
 ·have cW := HS.out
  have et := HK.out;have gu := fU.out;obtain ⟨HR, cy⟩ := SE (kd := 6) (t := 0) (p := 0) (g := 0) (s := 0) (au := false) (af := ⟨5, none, 0, []⟩) (u := 0) (n := 0) (tx := ⟨79, none, 0, 0, []⟩) (dy := ⟨81, none, 0, 0, []⟩) (im := ⟨5, none, 0, []⟩) (k := k) (N := 500) HX.out (by omega) (by omega) bN (OwnL.one (Own.nil 0 _ .u8 _)) (Qd 4 _ _) (Qd 2 _ _) (OwnL.one (Own.nil 0 _ .u8 _)) (fun b h => absurd h (noB b w)) (fun b h => absurd h (noF _ b)) (fun b h => absurd h (noF _ b)) (fun b h => absurd h (noB b w)) (.inl ⟨noF _, noF _, fun b => noB b w⟩) ⟨fun x hx => by simp at hx, fun x hx => by simp at hx⟩ ⟨.inl rfl, .inl rfl, .inl rfl⟩ (by simp) cW et (by omega);clear cW et gu;have eo := hid (HX.out.there 0 14 (Nat.le_refl 14));replace HR := hid HR;replace cy := hid cy
  go_wp2_with (refine wpList_store_mid rfl 28 _ _ rfl X 0 (O8 (drc 6 0 0 0 0 false ⟨5, none, 0, []⟩ 0 0 ⟨79, none, 0, 0, []⟩ ⟨81, none, 0, 0, []⟩ ⟨5, none, 0, []⟩)).toArray rfl rfl eo.out (by kernel_rfl) (PG _) ?_; rw [List.toList_toArray])
  generalize World.setCells _ X 0 _ = w9 at HR cy ⊢;refine bodyPost_ret (UL Tryz.results38 rfl cy.out.rangeAll Tryz.underlying28 rfl (by kernel_rfl)) rfl ?_;exact HR.out
 ·go_wp2_with fail
  refine (Pd 30 HS.out (by omega) (by constructor <;> decide)).mono ?_;rintro e yZ ⟨z1, rfl, hd, hs, ai⟩;obtain ⟨i7, iT⟩ := hd.2 (by decide);clear hd;replace HX := hid (HX.out.kept ai bN);replace HK := hid (HK.out.trans ai);replace HS := hid hs;clear hs ai;have vr := HX.out.lt
  go_wp2_with fail
  refine (jeg HS.out (by omega)).mono ?_;rintro e um ⟨⟨te, ta, tn, tc, tb⟩, kt, rfl, ht, uk, s6, HE⟩;dsimp only [FR.v] at ht uk ⊢;subst ht;have hs := HE.src;have ai := HE.kept;have HE := hid HE;replace HX := hid (HX.out.kept ai bN);replace HK := hid (HK.out.trans ai);replace HS := hid hs;clear hs ai
  go_wp2_with fail
  refine (jcZ HS.out (by omega)).mono ?_;rintro e vK ⟨⟨de, da, dn, dc, db⟩, kd, rfl, hd, qz, ix, HD⟩;dsimp only [FR.v] at hd qz ⊢;subst hd;have hs := HD.src;have ai := HD.kept;have HD := hid HD;have Cl := hid (HE.out.own.kept ai (fun b hb e => (HE.out.ft b ((PL 4 _ b).1 hb)).2 e));have xN := (show Hid (∀ b, (Value.slice ta tn tc).ownBlock = some b → b < um.heap.size) from fun b hb => HE.out.own.lt b ((PL 4 ⟨79, ta, tn, tc, tb⟩ b).2 hb));have aZ := HE.out.kept.size;replace HX := hid (HX.out.kept ai bN);replace HK := hid (HK.out.trans ai);replace HS := hid hs;clear hs ai;obtain ⟨y1, dM⟩ : ∃ y, 1 + z1 = y := ⟨_, rfl⟩;have cW := HS.out;have et := HK.out;have gu := fU.out;obtain ⟨HR, cy⟩ := SE (kd := 7) (t := 0) (p := 0) (g := 0) (s := 0) (au := false) (af := ⟨5, none, 0, []⟩) (u := 0) (n := y1) (tx := ⟨79, ta, tn, tc, tb⟩) (dy := ⟨81, da, dn, dc, db⟩) (im := ⟨5, none, 0, []⟩) (k := k) (N := 500) HX.out (by omega) (by omega) bN (OwnL.one (Own.nil 0 _ .u8 _)) Cl.out HD.out.own (OwnL.one (Own.nil 0 _ .u8 _)) (fun b h => absurd h (noB b w)) (fun b h => by have h1 := HE.out.ft b h; have h2 := xN.out b h; exact ⟨by omega, by omega, by omega, fun e => by have h3 := HD.out.ft b e; omega⟩) (fun b h => by have h1 := HD.out.ft b h; omega) (fun b h => absurd h (noB b w)) (.inr ⟨fun b => noB b w, .inl (fun b => noB b w)⟩) ⟨fun x hx => by simp at hx, fun x hx => by simp at hx⟩ ⟨.inl rfl, .inl rfl, .inl rfl⟩ (by simp; omega) cW et (by omega);clear cW et gu;have eo := hid (HX.out.there 0 14 (Nat.le_refl 14));replace HR := hid HR;replace cy := hid cy
  go_wp2_with (refine wpList_store_mid rfl 28 _ _ rfl X 0 (O8 (drc 7 0 0 0 0 false ⟨5, none, 0, []⟩ 0 y1 ⟨79, ta, tn, tc, tb⟩ ⟨81, da, dn, dc, db⟩ ⟨5, none, 0, []⟩)).toArray rfl rfl eo.out (by kernel_rfl) (PG _) ?_; rw [List.toList_toArray])
  generalize World.setCells _ X 0 _ = w9 at HR cy ⊢;refine bodyPost_ret (UL Tryz.results38 rfl cy.out.rangeAll Tryz.underlying28 rfl (by kernel_rfl)) rfl ?_;exact HR.out
 ·go_wp2_with fail
  refine (Pd 30 HS.out (by omega) (by constructor <;> decide)).mono ?_;rintro e yZ ⟨z1, rfl, hd, hs, ai⟩;obtain ⟨i7, iT⟩ := hd.2 (by decide);clear hd;replace HX := hid (HX.out.kept ai bN);replace HK := hid (HK.out.trans ai);replace HS := hid hs;clear hs ai;have vr := HX.out.lt
  go_wp2_with fail
  refine (jeg HS.out (by omega)).mono ?_;rintro e um ⟨⟨te, ta, tn, tc, tb⟩, kt, rfl, ht, uk, s6, HE⟩;dsimp only [FR.v] at ht uk ⊢;subst ht;have hs := HE.src;have ai := HE.kept;have HE := hid HE;replace HX := hid (HX.out.kept ai bN);replace HK := hid (HK.out.trans ai);replace HS := hid hs;clear hs ai
  go_wp2_with fail
  refine (jcZ HS.out (by omega)).mono ?_;rintro e vK ⟨⟨de, da, dn, dc, db⟩, kd, rfl, hd, qz, ix, HD⟩;dsimp only [FR.v] at hd qz ⊢;subst hd;have hs := HD.src;have ai := HD.kept;have HD := hid HD;have Cl := hid (HE.out.own.kept ai (fun b hb e => (HE.out.ft b ((PL 4 _ b).1 hb)).2 e));have xN := (show Hid (∀ b, (Value.slice ta tn tc).ownBlock = some b → b < um.heap.size) from fun b hb => HE.out.own.lt b ((PL 4 ⟨79, ta, tn, tc, tb⟩ b).2 hb));have aZ := HE.out.kept.size;replace HX := hid (HX.out.kept ai bN);replace HK := hid (HK.out.trans ai);replace HS := hid hs;clear hs ai;obtain ⟨y1, dM⟩ : ∃ y, 1 + z1 = y := ⟨_, rfl⟩;have cW := HS.out;have et := HK.out;have gu := fU.out;obtain ⟨HR, cy⟩ := SE (kd := 7) (t := 0) (p := 0) (g := 0) (s := 0) (au := false) (af := ⟨5, none, 0, []⟩) (u := 0) (n := y1) (tx := ⟨79, ta, tn, tc, tb⟩) (dy := ⟨81, da, dn, dc, db⟩) (im := ⟨5, none, 0, []⟩) (k := k) (N := 500) HX.out (by omega) (by omega) bN (OwnL.one (Own.nil 0 _ .u8 _)) Cl.out HD.out.own (OwnL.one (Own.nil 0 _ .u8 _)) (fun b h => absurd h (noB b w)) (fun b h => by have h1 := HE.out.ft b h; have h2 := xN.out b h; exact ⟨by omega, by omega, by omega, fun e => by have h3 := HD.out.ft b e; omega⟩) (fun b h => by have h1 := HD.out.ft b h; omega) (fun b h => absurd h (noB b w)) (.inr ⟨fun b => noB b w, .inl (fun b => noB b w)⟩) ⟨fun x hx => by simp at hx, fun x hx => by simp at hx⟩ ⟨.inl rfl, .inl rfl, .inl rfl⟩ (by simp; omega) cW et (by omega);clear cW et gu;have eo := hid (HX.out.there 0 14 (Nat.le_refl 14));replace HR := hid HR;replace cy := hid cy
  go_wp2_with (refine wpList_store_mid rfl 28 _ _ rfl X 0 (O8 (drc 7 0 0 0 0 false ⟨5, none, 0, []⟩ 0 y1 ⟨79, ta, tn, tc, tb⟩ ⟨81, da, dn, dc, db⟩ ⟨5, none, 0, []⟩)).toArray rfl rfl eo.out (by kernel_rfl) (PG _) ?_; rw [List.toList_toArray])
  generalize World.setCells _ X 0 _ = w9 at HR cy ⊢;refine bodyPost_ret (UL Tryz.results38 rfl cy.out.rangeAll Tryz.underlying28 rfl (by kernel_rfl)) rfl ?_;exact HR.out
 by_cases h8 : z0 = 8
 ·subst h8
  go_wp2_with fail
  refine (Pd 4 HS.out (by omega) (by constructor <;> decide)).mono ?_;rintro e oJ ⟨z1, rfl, hd, hs, ai⟩;obtain ⟨i7, iT⟩ := hd.2 (by decide);clear hd;replace HX := hid (HX.out.kept ai bN);replace HK := hid (HK.out.trans ai);replace HS := hid hs;clear hs ai;have vr := HX.out.lt
  go_wp2_with fail
  refine (jgh z1 (by omega) (by omega) HS.out (by omega)).mono ?_;rintro e lI ⟨g, c, ib, kp, rfl, uc, LG, ho, jH, AR, hs, OS, ai⟩;rw [show (4096 : Nat) = ib.length from uc.symm] at ho ⊢;have HO := hid ho.low
  have Jp : ib.length ≤ 4096 := by omega
  clear ho uc;replace HX := hid (HX.out.kept ai bN);replace HK := hid (HK.out.trans ai);replace HS := hid hs;clear hs ai;have cW := HS.out;have et := HK.out;have gu := fU.out;obtain ⟨HR, cy⟩ := SE (kd := 8) (t := 0) (p := 0) (g := z1) (s := 0) (au := false) (af := ⟨5, none, 0, []⟩) (u := 0) (n := 0) (tx := ⟨79, none, 0, 0, []⟩) (dy := ⟨81, none, 0, 0, []⟩) (im := ⟨5, some ⟨g, 0, none⟩, c, ib⟩) (k := k) (N := 500) HX.out (by omega) (by omega) bN (OwnL.one (Own.nil 0 _ .u8 _)) (Qd 4 _ _) (Qd 2 _ _) (OwnL.one HO.out) (fun b h => absurd h (noB b w)) (fun b h => absurd h (noF _ b)) (fun b h => absurd h (noF _ b)) (fun b h => by have e1 : g = b := (by simpa [BS.v, Value.ownBlock] using h); omega) (.inr ⟨fun b => noB b w, .inr ⟨noF _, noF _⟩⟩) ⟨fun x hx => by simp at hx, LG⟩ ⟨.inl rfl, .inl rfl, .inl rfl⟩ (by simp; omega) cW et (by omega);clear cW et gu;have eo := hid (HX.out.there 0 14 (Nat.le_refl 14));replace HR := hid HR;replace cy := hid cy
  go_wp2_with (refine wpList_store_mid rfl 28 _ _ rfl X 0 (O8 (drc 8 0 0 z1 0 false ⟨5, none, 0, []⟩ 0 0 ⟨79, none, 0, 0, []⟩ ⟨81, none, 0, 0, []⟩ ⟨5, some ⟨g, 0, none⟩, c, ib⟩)).toArray rfl rfl eo.out (by kernel_rfl) (PG _) ?_; rw [List.toList_toArray])
  generalize World.setCells _ X 0 _ = w9 at HR cy ⊢;refine bodyPost_ret (UL Tryz.results38 rfl cy.out.rangeAll Tryz.underlying28 rfl (by kernel_rfl)) rfl ?_;exact HR.out
 have Lw : 8 < z0 := by omega
 have vr := HX.out.lt
 go_wp2_with fail
 refine (jfw HS.out (by omega)).mono ?_;rintro e GM ⟨y, ku, rfl, dQ, rj, pZ, jx, Ov, hs, ai⟩;have HO := hid pZ;have HF := hid jx;have jn := hid dQ;clear pZ jx dQ;replace HX := hid (HX.out.kept ai bN);replace HK := hid (HK.out.trans ai);replace HS := hid hs;clear hs ai;have cW := HS.out;have et := HK.out;have gu := fU.out;obtain ⟨HR, cy⟩ := jdd (k := k) (N := 500) HX.out (by omega) (by omega) bN HO.out (fun b hb => by have := HF.out b hb; omega) jn.out rj cW et (by omega);clear cW et gu;have eo := hid (HX.out.there 0 14 (Nat.le_refl 14));replace HR := hid HR;replace cy := hid cy
 go_wp2_with (refine wpList_store_mid rfl 28 _ _ rfl X 0 (O8 y).toArray rfl rfl eo.out (by kernel_rfl) (PG _) ?_; rw [List.toList_toArray])
 generalize World.setCells _ X 0 _ = w9 at HR cy ⊢;refine bodyPost_ret (UL Tryz.results38 rfl cy.out.rangeAll Tryz.underlying28 rfl (by kernel_rfl)) rfl ?_;exact HR.out
def BnG (R : Nat → Prop) (g : Nat) (w0 w w' : World) (e : Ending) (B : Nat) (v : Value) (cs : List Int) (k : Nat) (size : Int) : Prop :=
 ∃ (off n c : Nat) (bs : List Int) (k' : Nat), e = .returned (.slice (some ⟨g, off, none⟩) n c) ∧ bs.length = n ∧ n ≤ 4096 ∧ IsB bs ∧ RdA w0.heap.size w'.heap.size B w' (.slice (some ⟨g, off, none⟩) n c) bs ∧ k' ≤ k ∧ SrcR w0 w' B v cs k' size ∧ Kept R w w'
theorem jbe {bs : List Int} (h : IsB bs) (i : Nat) (x : Int) (hx : 0 ≤ x ∧ x ≤ 255) : IsB (bs.set i x) := by
 intro y hy
 rcases List.mem_or_eq_of_mem_set hy with hy | rfl
 ·exact h y hy
 ·exact hx
theorem jfA {R : Nat → Prop} {w0 w w' : World} {B : Nat} {v : Value} {cs : List Int} {k k' : Nat} {size : Int} {g c : Nat} {bs : List Int} (ho : Own 0 5 .u8 w' (Q3 g 4096 c) bs) (hl : bs.length = 4096) (hB : IsB bs) (hg : ¬ g = B) (hw : w0.heap.size ≤ g) (hk : k' ≤ k) (hs : SrcR w0 w' B v cs k' size) (ai : Kept R w w') : BnG R g w0 w w' (.returned (Q3 g 4096 c)) B v cs k size :=
 ⟨0, 4096, c, bs, k', rfl, hl, Nat.le_refl _, hB, ho.rdA (fun b hb => by have e1 : g = b := (by simpa [Value.ownBlock] using hb); have := (ho.lt b hb).2; omega), hk, hs, ai⟩
structure BnI (w0 w wr : World) (B : Nat) (v : Value) (cs : List Int) (k : Nat) (size : Int) (g c : Nat) (bs : List Int) : Prop where
 src : SrcR w0 wr B v cs k size
 own : Own 0 5 .u8 wr (Q3 g 4096 c) bs
 kept : Kept (fun b => b = B ∨ b = g) w wr
 len : bs.length = 4096
 isB : IsB bs
section
variable {w0 w wr wx : World} {B : Nat} {v : Value} {cs : List Int} {k k' kE : Nat} {size : Int} {g c : Nat} {bs : List Int}
theorem BnI.same (h : BnI w0 w wr B v cs k size g c bs) (hk : Same wr wx) : BnI w0 w wx B v cs k size g c bs :=
 ⟨h.src.same hk, h.own.same hk, h.kept.trans (hk.mono (fun _ _ e => e.elim)), h.len, h.isB⟩
theorem BnI.draw (h : BnI w0 w wr B v cs k size g c bs) (hg : ¬ g = B) (hs : SrcR w0 wx B v cs k' size) (hk : Kept (fun b => b = B) wr wx) : BnI w0 w wx B v cs k' size g c bs :=
 ⟨hs, h.own.kept hk (fun b hb e => by have e1 : g = b := (by simpa [Value.ownBlock] using hb); omega), h.kept.trans (hk.mono (fun _ _ e => .inl e)), h.len, h.isB⟩
theorem BnI.store (h : BnI w0 w wr B v cs k size g c bs) (hg : ¬ g = B) (hw : w0.heap.size ≤ g) (j : Nat) (x : Int) (hx : 0 ≤ x ∧ x ≤ 255) : BnI w0 w (wr.setCell ⟨g, j, none⟩ (.int .u8 x)) B v cs k size g c (bs.set j x) := by
 have aX : Kept (fun b => b = g) wr (wr.setCell ⟨g, j, none⟩ (.int .u8 x)) := (Kept.refl (fun b => b = g) wr).setCell (p := ⟨g, j, none⟩) (.inr rfl) _;exact ⟨h.src.on aX (fun e => by omega) (fun i hi e => by omega), h.own.stored h.len.symm j x, h.kept.trans (aX.mono (fun _ _ e => .inr e)), by rw [List.length_set, h.len], jbe h.isB j x hx⟩
theorem BnI.other {ys : List Int} (h : BnI w0 w wr B v cs k size g c bs) (hg : ¬ g = B) (hw : w0.heap.size ≤ g) (ho : Own 0 5 .u8 wx (Q3 g 4096 c) ys) (aX : Kept (fun b => b = g) wr wx) (hl : ys.length = 4096) (hB : IsB ys) : BnI w0 w wx B v cs k size g c ys :=
 ⟨h.src.on aX (fun e => by omega) (fun i hi e => by omega), ho, h.kept.trans (aX.mono (fun _ _ e => .inr e)), hl, hB⟩
theorem BnI.fin (h : BnI w0 w wr B v cs k size g c bs) (hg : ¬ g = B) (hw : w0.heap.size ≤ g) (hk : k ≤ kE) : BnG (fun b => b = B ∨ b = g) g w0 w wr (.returned (Q3 g 4096 c)) B v cs kE size := jfA h.own h.len h.isB hg hw hk h.src h.kept
end
theorem jeX {w0 w : World} {B : Nat} {v : Value} {cs : List Int} {k : Nat} {size : Int} (g c : Nat) (bs : List Int) (h : SrcR w0 w B v cs k size) (hk : k ≤ 1073741000) (hg : ¬ g = B) (hw : w0.heap.size ≤ g) (hl : bs.length = 4096) (bk : IsB bs) (ho : Own 0 5 .u8 w (Q3 g 4096 c) bs) :
  Calls Tryz.prog 96 #[Q2 B 0, Q3 g 4096 c] w fun e w' => BnG (fun b => b = B ∨ b = g) g w0 w w' e B v cs (k + 4) size := by
 have nE : 4096 ≤ c := ho.caps.2;have HI : Hid (BnI w0 w w B v cs k size g c bs) := ⟨h, ho, kZ0, hl, bk⟩;clear h ho hl bk
 go_enter Tryz.func96, Tryz.ntmps96
 go_wp2_with fail
 refine (Pd 9 HI.out.src (by omega) (by constructor <;> decide)).mono ?_;rintro e w1 ⟨z, rfl, hd, fi, ah⟩;have bD := hid (HI.out.draw hg fi ah);clear hd fi ah HI
 by_cases z0 : z = 0
 ·subst z0
  have h1 : ¬ c = 1 := by omega
  have h2 : (1 : Int) ≤ (c : Int) := by omega
  have HE := (show Hid (BnG (fun b => b = B ∨ b = g) g w0 w w1 (.returned (.slice (some ⟨g, 1, none⟩) 4095 (c - 1))) B v cs (k + 4) size) from ⟨1, 4095, c - 1, (bs.drop 1).take 4095, k + 1, rfl, by rw [List.length_take, List.length_drop, bD.out.len]; rfl, by omega, Qz (Rp bD.out.isB _) _, fun w2 h2 => by
   have ho := bD.out.own.kept h2 (fun b hb e => by have e1 : g = b := (by simpa [Value.ownBlock] using hb); have := (bD.out.own.lt b hb).2; omega);have h := Rd.part (k := .u8) (w := w2) (b := g) (off := 0) (n := 4095) (c := c - 1) (bs := bs) (fun i hi => by rw [Nat.zero_add]; exact ho.cell bD.out.len.symm i (by rw [← bD.out.len]; exact hi)) 1 4095 (by rw [bD.out.len]; omega) rfl (by omega) (by unfold maxLen; omega);rw [Nat.zero_add] at h
   exact h, by omega, bD.out.src, bD.out.kept⟩)
  go_wp2;go_ret;exact HE.out
 have e0 : (z == 0) = false := by simp [z0]
 by_cases z1 : z = 1
 ·subst z1
  have u0 := bD.out.own.cell bD.out.len.symm 15 (by omega);have uf := bD.out.own.frozen bD.out.len.symm 15;have bL := hid (bD.out.store hg hw 15 _ (R3 (bs.getD 15 0 + 1)));clear bD;go_wp2;go_ret;exact bL.out.fin hg hw (by omega)
 have e1 : (z == 1) = false := by simp [z1]
 by_cases z2 : z = 2
 ·subst z2
  go_wp2_with fail
  refine (Pd 256 bD.out.src (by omega) (by constructor <;> decide)).mono ?_;rintro e w2 ⟨r, rfl, hd, aT, aQ⟩;obtain ⟨du, aS⟩ := hd.2 (by decide);have bL := hid (bD.out.draw hg aT aQ);clear hd aT aQ bD;have u0 := bL.out.own.cell bL.out.len.symm 4 (by omega);have uf := bL.out.own.frozen bL.out.len.symm 4;have ct := hid (bL.out.store hg hw 4 r (by omega));clear bL;go_wp2;go_ret;exact ct.out.fin hg hw (by omega)
 have e2 : (z == 2) = false := by simp [z2]
 by_cases z3 : z = 3
 ·subst z3
  go_wp2_with fail
  refine (Pd 2 bD.out.src (by omega) (by constructor <;> decide)).mono ?_;rintro e w2 ⟨r, rfl, hd, aT, aQ⟩;obtain ⟨du, aS⟩ := hd.2 (by decide);have bL := hid (bD.out.draw hg aT aQ);clear hd aT aQ bD;obtain ⟨r, rfl⟩ : ∃ m : Nat, r = (m : Int) := ⟨r.toNat, by omega⟩;obtain ⟨at1, fH⟩ : ∃ m : Nat, 18 + r = m := ⟨_, rfl⟩
  have q1 : IntKind.i64.wrap (18 + (r : Int)) = (at1 : Int) := by rw [IntKind.wrap_i64]; omega
  have Eo : at1 ≤ 19 := by omega
  clear fH;have u0 := bL.out.own.cell bL.out.len.symm at1 (by omega);have uf := bL.out.own.frozen bL.out.len.symm at1;have ct := hid (bL.out.store hg hw at1 1 (by omega));clear bL;go_wp2;go_ret;exact ct.out.fin hg hw (by omega)
 have e3 : (z == 3) = false := by simp [z3]
 by_cases z4 : z = 4
 ·subst z4
  go_wp2_with fail
  refine (Pd 20 bD.out.src (by omega) (by constructor <;> decide)).mono ?_;rintro e w2 ⟨r, rfl, hd, aT, aQ⟩;obtain ⟨du, aS⟩ := hd.2 (by decide);have bL := hid (bD.out.draw hg aT aQ);clear hd aT aQ bD;have u0 := bL.out.own.cell bL.out.len.symm 16 (by omega);have uf := bL.out.own.frozen bL.out.len.symm 16;have ct := hid (bL.out.store hg hw 16 r (by omega));clear bL;go_wp2;go_ret;exact ct.out.fin hg hw (by omega)
 have e4 : (z == 4) = false := by simp [z4]
 by_cases z5 : z = 5
 ·subst z5
  go_wp2_with fail
  refine (Pd 128 bD.out.src (by omega) (by constructor <;> decide)).mono ?_;rintro e w2 ⟨r, rfl, hd, aT, aQ⟩;obtain ⟨du, aS⟩ := hd.2 (by decide);have bL := hid (bD.out.draw hg aT aQ);clear hd aT aQ bD;obtain ⟨r, rfl⟩ : ∃ m : Nat, r = (m : Int) := ⟨r.toNat, by omega⟩;obtain ⟨at1, fH⟩ : ∃ m : Nat, 20 + r = m := ⟨_, rfl⟩
  have q1 : IntKind.i64.wrap (20 + (r : Int)) = (at1 : Int) := by rw [IntKind.wrap_i64]; omega
  have Eo : at1 ≤ 147 := by omega
  clear fH
  go_wp2_with fail
  refine (Pd 256 bL.out.src (by omega) (by constructor <;> decide)).mono ?_;rintro e w3 ⟨q, rfl, hd, aT, aQ⟩;obtain ⟨fj, gV⟩ := hd.2 (by decide);have ct := hid (bL.out.draw hg aT aQ);clear hd aT aQ bL;have u0 := ct.out.own.cell ct.out.len.symm at1 (by omega);have uf := ct.out.own.frozen ct.out.len.symm at1;have eE := hid (ct.out.store hg hw at1 q (by omega));clear ct;go_wp2;go_ret;exact eE.out.fin hg hw (by omega)
 have e5 : (z == 5) = false := by simp [z5]
 by_cases z6 : z = 6
 ·subst z6
  have n1 : ¬ c = 144 := by omega
  have n2 : ¬ c = 20 := by omega
  have g1 : (144 : Int) ≤ (c : Int) := by omega
  have g2 : (24 : Int) ≤ (c : Int) := by omega
  have hr : Rd .u8 w1 (.slice (some ⟨g, 20, none⟩) 4 (c - 20)) ((bs.drop 20).take 4) := by
   have h := Rd.part (k := .u8) (w := w1) (b := g) (off := 0) (n := 4) (c := c - 20) (bs := bs) (fun i hi => by rw [Nat.zero_add]; exact bD.out.own.cell bD.out.len.symm i (by rw [← bD.out.len]; exact hi)) 20 4 (by rw [bD.out.len]; omega) rfl (by omega) (by unfold maxLen; omega);rw [Nat.zero_add] at h;exact h
  obtain ⟨ys, Ak⟩ : ∃ ys, (bs.drop 20).take 4 = ys := ⟨_, rfl⟩
  have qZ : ys.length = 4 := by rw [← Ak, List.length_take, List.length_drop, bD.out.len]; rfl
  have jn := (show Hid (IsB ys) from by unfold Hid; rw [← Ak]; exact Qz (Rp bD.out.isB _) _);rw [Ak] at hr;clear Ak;have ix : Same w1 w1.drew := kZ0.drew;have iL := Ql (P := Tryz.prog) 3 Tryz.underlying22 Rj (bD.out.own.same ix) bD.out.len.symm 144 (by omega) (hr.same ix);rw [show behind g c 144 = some ⟨g, 144, none⟩ from if_neg n1, qZ] at iL;have bL := hid (bD.out.other hg hw ((bD.out.own.same ix).laid bD.out.len.symm 144 ys (by omega)) (Kept.setCells (R := fun b => b = g) (.inr rfl) _ _ (ix.mono (fun _ _ e => e.elim))) (by rw [Pk _ _ _ (by rw [bD.out.len]; omega), bD.out.len]) (TN bD.out.isB jn.out _));clear ix hr jn
  go_wp2_with fail
  have hS : (fun _ : World => True) w1.drew := by trivial
  refine O0 (fun _ : World => True) 99 5 ?_;refine tk 0 54 hS ?_;refine tkV 1 55 (.slice (some ⟨g, 144, none⟩) (4096 - 144) (c - 144)) hS ?_;refine tk 2 56 hS ?_;refine tkV 3 57 (.slice (some ⟨g, 20, none⟩) 4 (c - 20)) hS ?_;refine o1Q 4 (fun K hK => ?_);go_simp;refine hK.out _ _ (fun _ => trivial) ?_;clear hK K;refine OZ ?_
  try simp only [Sp]
  generalize w1.drew.setCells g 144 (vals .u8 ys) = w2 at bL ⊢;clear iL hS;go_wp2;go_ret;exact bL.out.fin hg hw (by omega)
 have e6 : (z == 6) = false := by simp [z6]
 by_cases z7 : z = 7
 ·subst z7
  go_wp2_with fail
  refine (Pd 3 bD.out.src (by omega) (by constructor <;> decide)).mono ?_;rintro e w2 ⟨r, rfl, hd, aT, aQ⟩;obtain ⟨du, aS⟩ := hd.2 (by decide);have bL := hid (bD.out.draw hg aT aQ);clear hd aT aQ bD
  have q1 : IntKind.i64.wrap (4096 - r) = 4096 - r := by rw [IntKind.wrap_i64]; omega
  go_wp2_with fail
  refine (Pd 3 bL.out.src (by omega) (by constructor <;> decide)).mono ?_;rintro e w3 ⟨q, rfl, hd, aT, aQ⟩;obtain ⟨fj, gV⟩ := hd.2 (by decide);have ct := hid (bL.out.draw hg aT aQ);clear hd aT aQ bL
  go_wp2_with fail
  refine (RY g c bs 30 (4096 - r) q w3 ct.out.len (by decide) (by omega) (by omega) ct.out.own).mono ?_;rintro e w4 ⟨rfl, gY, cS⟩;have eE := hid (ct.out.other hg hw gY cS (by rw [Pk _ _ _ (by rw [Pk _ _ _ (by rw [OY, ct.out.len]; omega), OY, ct.out.len]; omega), Pk _ _ _ (by rw [OY, ct.out.len]; omega), ct.out.len]) (TN (TN ct.out.isB (QR _ _) _) (QR _ _) _));clear gY cS ct;go_wp2;go_ret;exact eE.out.fin hg hw (by omega)
 have e7 : (z == 7) = false := by simp [z7]
 by_cases z8 : z = 8
 ·subst z8
  have gm := Rq bs bD.out.isB 16 2 (by decide) (by decide) (by rw [bD.out.len]; decide)
  go_wp2_with fail
  refine (RF g 0 c bs w1 bD.out.isB bD.out.len bD.out.own.rd).mono ?_;rintro e w2 ⟨rfl, aj⟩;have bL := hid (bD.out.same aj);clear aj bD;obtain ⟨nb, wI⟩ : ∃ x, O4 bs 16 2 = x := ⟨_, rfl⟩;rw [wI] at gm ⊢;clear wI
  go_wp2_with fail
  refine (Pd 2 bL.out.src (by omega) (by constructor <;> decide)).mono ?_;rintro e w3 ⟨q, rfl, hd, aT, aQ⟩;obtain ⟨fj, gV⟩ := hd.2 (by decide);have ct := hid (bL.out.draw hg aT aQ);clear hd aT aQ bL
  have q1 : IntKind.i64.wrap (q * 1000) = q * 1000 := by rw [IntKind.wrap_i64]; omega
  go_wp2_with fail
  refine (RY g c bs 29 nb (q * 1000) w3 ct.out.len (by decide) (by omega) (by omega) ct.out.own).mono ?_;rintro e w4 ⟨rfl, gY, cS⟩;have eE := hid (ct.out.other hg hw gY cS (by rw [Pk _ _ _ (by rw [Pk _ _ _ (by rw [OY, ct.out.len]; omega), OY, ct.out.len]; omega), Pk _ _ _ (by rw [OY, ct.out.len]; omega), ct.out.len]) (TN (TN ct.out.isB (QR _ _) _) (QR _ _) _));clear gY cS ct;go_wp2;go_ret;exact eE.out.fin hg hw (by omega)
 have e8 : (z == 8) = false := by simp [z8]
 go_wp2;go_ret;exact bD.out.fin hg hw (by omega)
end Go.Proofs.YtapdfgkbhaoelaaGreatDoor
