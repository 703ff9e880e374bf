import Derived.Test.YtapdfgkbhaoelaaGreatDoorBd4
import Derived.Lib.LazyBuf
import Derived.Lib.AppendZerosOnto
import Derived.Laws.CopyOwn
namespace Go.Proofs.YtapdfgkbhaoelaaGreatDoor
set_option maxRecDepth 100000
set_option maxHeartbeats 8000000
set_option linter.unusedVariables false
set_option linter.unusedSimpArgs false
open Go Go.RowKit
def MbR (w0 w w' : World) (e : Ending) (B : Nat) (v : Value) (cs : List Int) (k : Nat) (size : Int) : Prop :=
 ∃ (y : StLogRecord) (k' : Nat), e = .returned (.agg (O8 y).toArray) ∧ StLogRecord.rd w' y ∧ k' ≤ k + 600 ∧ SrcR w0 w' B v cs k' size ∧ (IsB y.before.data.bs ∧ IsB y.after.data.bs ∧ IsB y.image.bs) ∧ y.szs ≤ 7000 ∧ (∀ b, O6 y.rows b → w.heap.size ≤ b) ∧ Kept (fun b => b = B) w w'
def MbI (w0 w : World) (B : Nat) (v : Value) (cs : List Int) (k : Nat) (size : Int) (Y X : Nat) (n : Nat) (wr : World) : Prop :=
 ∃ (y : StLogRecord) (k' : Nat), Blk wr Y 28 (O8 y) ∧ Blk wr X 28 rcZ ∧ StLogRecord.rd wr y ∧ (∀ b, O6 y.rows b → X < b ∧ ¬ b = Y) ∧ k' ≤ k + n ∧ SrcR w0 wr B v cs k' size ∧ (IsB y.before.data.bs ∧ IsB y.after.data.bs ∧ IsB y.image.bs) ∧ y.szs ≤ 7000 ∧ Kept (fun b => b = B) w wr
theorem jdZ {w0 w : World} {B : Nat} {v : Value} {cs : List Int} {k : Nat} {size : Int} (h : SrcR w0 w B v cs k size) (hk : k ≤ 1071000000) :
  Calls Tryz.prog 24 #[Q2 B 0] w fun e w' => MbR w0 w w' e B v cs k size := by
 have b0 := Blk.newL w rcZ 28;have eT := h.lt;have gU := h.kept.size;have aW : Same w (w.alloc (.cells rcZ.toArray 28)) := kZ0.alloc _;have HS := hid (h.same aW);have j6 := hid (aW.mono (R' := fun b => b = B) (fun _ _ e => e.elim));unfold rcZ at b0 HS j6;dsimp only [List.toArray] at b0 HS j6;clear h aW
 go_enter Tryz.func24, Tryz.ntmps24
 go_upto_region 1 with fail
 obtain ⟨X, hX⟩ : ∃ X, w.heap.size = X := ⟨_, rfl⟩;have fU := hid hX;rw [hX] at b0 eT gU ⊢;clear hX;generalize w.alloc (.cells #[Q1 0, Q1 0, Q1 0, Q1 0, Q1 0, .bool false, Q4, .bool false, Q4, Q1 0, Q1 0, Q4, Q4, Q4] 28) = w1 at b0 HS j6 ⊢;have HX := hid b0
 have bN : ¬ X = B := by omega
 have se := b0.lt;clear b0
 go_wp2_with fail
 refine (jde HS.out (by omega)).mono ?_;rintro e w2 ⟨y, k2, rfl, dQ, rj, pZ, jx, aj, hs, ai⟩;replace HX := hid (HX.out.kept ai bN);replace HS := hid hs;have HO := hid pZ;have oE : Hid (∀ b, O6 y.rows b → w1.heap.size ≤ b ∧ ¬ b = B) := jx;have jn := hid dQ;have sG := ai.size;replace j6 := hid (j6.out.trans ai);clear hs ai pZ jx dQ;have Ag := (show Hid (∀ b, O6 y.rows b → b < w2.heap.size) from fun b hb => HO.out.lt b hb);have dk : Same w2 (w2.alloc (.cells (O8 y).toArray 28)) := kZ0.alloc _;have HY := hid (Blk.newL w2 (O8 y) 28);have mZ := hid (HX.out.same dk);have qy := hid (HS.out.same dk);have m5 := hid (HO.out.same dk);replace j6 := hid (j6.out.next dk (fun _ _ e => e.elim));clear dk HX HS HO;obtain ⟨kd, tx, pv, pg, sl, ⟨bU, ⟨bE, bA, bC, bB⟩⟩, ⟨aU, ⟨aE, aA, aC, aB⟩⟩, un, nt, ⟨tE, tA, tN, tC, tB⟩, ⟨dE, dA, dN, dC, dB⟩, ⟨iE, iA, iC, iB⟩⟩ := y;dsimp only [StLogRecord.val, StPageRecord.val, BS.v, FR.v, O8, List.toArray] at HY mZ qy m5 j6 ⊢
 go_upto_region 2 with fail
 obtain ⟨Y, hY⟩ : ∃ Y, w2.heap.size = Y := ⟨_, rfl⟩;have Cx := mZ.out.lt;rw [hY] at HY Ag sG ⊢;clear hY;generalize w2.alloc _ = w3 at HY mZ qy m5 j6 Cx ⊢
 have dH : ¬ Y = B := by omega
 have tW : ¬ X = Y := by omega
 go_wp2_with fail
 refine (SA 4 qy.out (by omega) (by constructor <;> decide)).mono ?_;rintro e w4 ⟨ch, rfl, hs, ai⟩;replace mZ := hid (mZ.out.kept ai bN);replace HY := hid (HY.out.kept ai dH);replace qy := hid hs;replace j6 := hid (j6.out.trans ai);replace m5 := hid (m5.out.kept ai (fun b hb e => (oE.out b hb).2 e));clear hs ai;obtain ⟨z0, z1, z2, z3, z4, z5, z6, z7, z8, z9, bV, bW, bX, bY⟩ := HY.out.all14
 go_upto_if 7 with fail
 go_cut [3] (fun x wx => x = Q2 Y 0 ∧ Hid (MbI w0 w B v cs k size Y X 600 wx))
 case first =>
  cases ch
  case false =>
   go_wp2_with fail
   go_meet
   case rel => exact ⟨rfl, ⟨kd, tx, pv, pg, sl, ⟨bU, ⟨bE, bA, bC, bB⟩⟩, ⟨aU, ⟨aE, aA, aC, aB⟩⟩, un, nt, ⟨tE, tA, tN, tC, tB⟩, ⟨dE, dA, dN, dC, dB⟩, ⟨iE, iA, iC, iB⟩⟩, _, HY.out, mZ.out, StLogRecord.own_rd m5.out, fun b hb => by have h1 := oE.out b hb; have h2 := Ag.out b hb; omega, by omega, qy.out, ⟨jn.out.1, jn.out.2.1, jn.out.2.2.1⟩, by omega, j6.out⟩
  go_wp2_with fail
  have Jq := qy.out.kept.size;have LM := HY.out.lt;have MF := mZ.out.lt;refine (jdn qy.out (by omega) (by omega) ⟨kd, tx, pv, pg, sl, ⟨bU, ⟨bE, bA, bC, bB⟩⟩, ⟨aU, ⟨aE, aA, aC, aB⟩⟩, un, nt, ⟨tE, tA, tN, tC, tB⟩, ⟨dE, dA, dN, dC, dB⟩, ⟨iE, iA, iC, iB⟩⟩ ⟨jn.out, rj⟩ m5.out (fun b hb => by have h1 := oE.out b hb; omega)).mono ?_;rintro e w5 ⟨y, k5, rfl, b9, jx, bF, hs, ai, dQ, sg⟩;replace mZ := hid (mZ.out.kept ai (fun e => e.elim (fun e => bN e) (fun e => by have h1 := oE.out X e; omega)));replace HY := hid (HY.out.kept ai (fun e => e.elim (fun e => dH e) (fun e => by have h1 := Ag.out Y e; omega)));have cd := hid (j6.out.next ai (fun i hi e => e.elim (fun e => e) (fun e => by have h1 := oE.out i e; have h2 := fU.out; omega)))
  have HF := (show Hid (∀ b, O6 y.rows b → X < b ∧ ¬ b = Y) from fun b hb => by
   rcases (jx b hb).1 with h1 | h1
   ·have h2 := oE.out b h1; have h3 := Ag.out b h1; omega
   ·omega)
  have aX : Kept (fun b => b = Y) w5 (w5.setCells Y 0 (O8 y)) := Kept.setCells (R := fun b => b = Y) (.inr rfl) _ _ kZ0;have HE : Hid (MbI w0 w B v cs k size Y X 600 (w5.setCells Y 0 (O8 y))) := ⟨y, _, R4 HY.out _ rfl, mZ.out.kept aX tW, b9.kept aX (fun b hb e => (HF.out b hb).2 e), HF.out, by omega, hs.on aX (fun e => dH e.symm) (fun i hi e => by have e' : i = Y := e; omega), dQ, sg, cd.out.next aX (fun i hi e => by have e' : i = Y := e; have := fU.out; omega)⟩;have eo := hid (HY.out.there 0 14 (Nat.le_refl 14));clear z0 z1 z2 z3 z4 z5 z6 z7 z8 z9 bV bW bX bY b9 jx hs ai dQ aX
  go_wp2_with (refine wpList_store_mid rfl 28 _ _ rfl Y 0 (O8 y).toArray rfl rfl eo.out (by kernel_rfl) (PG _) ?_; rw [List.toList_toArray])
  generalize World.setCells _ Y 0 _ = w9 at HE ⊢
  go_meet
  case rel => exact ⟨rfl, HE⟩
 case rest =>
 obtain ⟨rfl, HE⟩ := hcut;clear HY mZ qy m5 z0 z1 z2 z3 z4 z5 z6 z7 z8 z9 bV bW bX bY;obtain ⟨y, k9, hY, hX, b9, jx, cA, hs, dQ, sg, Gx⟩ := HE.out;have HY := hid hY;have HX := hid hX;have eo := hid (hX.there 0 14 (Nat.le_refl 14));have aX : Kept (fun b => b = X) wc (wc.setCells X 0 (O8 y)) := Kept.setCells (R := fun b => b = X) (.inr rfl) _ _ kZ0;have gd : Hid (MbR w0 w (wc.setCells X 0 (O8 y)) (.returned (.agg (O8 y).toArray)) B v cs k size) := ⟨y, k9, rfl, b9.kept aX (fun b hb e => by have e' : b = X := e; have := (jx b hb).1; omega), cA, hs.on aX (fun e => bN e.symm) (fun i hi e => by have e' : i = X := e; omega), dQ, sg, fun b hb => by have := (jx b hb).1; have := fU.out; omega, Gx.next aX (fun i hi e => by have e' : i = X := e; have := fU.out; omega)⟩;have gE := hid (R4 hX (O8 y) rfl);clear HE hY hX b9 jx hs dQ aX Gx
 go_wp2_with (first | (refine wpList_load_mid rfl 28 _ rfl Y 0 rfl (O8 y) _ HY.out.rangeAll Tryz.underlying28 rfl (by kernel_rfl) ?_) | (refine wpList_store_mid rfl 28 _ _ rfl X 0 (O8 y).toArray rfl rfl eo.out (by kernel_rfl) (PG _) ?_; rw [List.toList_toArray]))
 generalize World.setCells _ X 0 _ = w9 at gd gE ⊢;exact bodyPost_ret (UL Tryz.results24 rfl gE.out.rangeAll Tryz.underlying28 rfl (by kernel_rfl)) rfl gd.out
theorem jgi {fn : Func} {p q r : Tmp} {ty : TypeId} {tmps : Array Value} {P : Program} {w : World} {Z : Nat} {cs : List Value} {d : TypeDesc} (h : fn.results = #[.tmp p, .tmp q, .cell r ty]) (hr : tmps.getD r undef = Q2 Z 0) (hc : w.rangeAt Z 0 cs)
  (hu : P.underlying ty = some d) (hd : d.isRow = true) (hi : (P.info? ty).map (·.size) = some cs.length) : (results fn tmps).run P w = .ok (.tuple #[tmps.getD p undef, tmps.getD q undef, .agg cs.toArray]) w := by
 rw [Array.getD_eq_getD_getElem?] at hr;simp only [results, h];simp [Sem.run_bind, Result.andThen, hr, asAddr, run_loadVar_mid w Z 0 ty cs d hc hu hd hi]
theorem jaS (v : Value) (cs : List Int) (w : World) (hb : IsB cs) (hn : cs.length ≤ 1048576) (hv : Rd .u8 w v cs) :
  Calls Tryz.prog 4 #[v] w fun ex w' => ∃ (p q : Int) (y : StLogRecord), ex = .returned (.tuple #[Q1 p, Q1 q, .agg (O8 y).toArray]) ∧ IsI p ∧ IsI q ∧ StLogRecord.rd w' y ∧ (IsB y.before.data.bs ∧ IsB y.after.data.bs ∧ IsB y.image.bs) ∧ y.szs ≤ 7000 ∧ Same w w' := by
 obtain ⟨HK, HX⟩ := new1 w [Q1 0, Q1 0, Q1 0, Q1 0, Q1 0, .bool false, Q4, .bool false, Q4, Q1 0, Q1 0, Q4, Q4, Q4] 28;dsimp only [List.toArray] at HK HX;have HV := hid (hv.same HK.out);clear hv
 go_enter Tryz.func4, Tryz.ntmps4
 go_upto_region 1 with fail
 obtain ⟨X, hX⟩ : ∃ X, w.heap.size = X := ⟨_, rfl⟩;have fU := hid hX;rw [hX] at HX ⊢;clear hX;generalize w.alloc _ = w1 at HK HX HV ⊢;have se := HX.out.lt
 go_wp2_with fail
 refine (Xd v cs w1 hb hn HV.out).mono ?_;rintro ex w2 ⟨B, size, rfl, ud, hs, hk⟩;replace HX := hid (HX.out.same hk);have aO := hid (HK.out.trans hk);have HS := hid hs
 have bN : ¬ X = B := by omega
 clear hk HV hs HK
 go_wp2_with fail
 refine (TS HS.out (by omega)).mono ?_;rintro ex w3 ⟨p, rfl, js, iK, hs, ai⟩;replace HX := hid (HX.out.kept ai bN);replace HS := hid hs;clear hs ai
 go_wp2_with fail
 refine (Pd 5 HS.out (by omega) (by constructor <;> decide)).mono ?_;rintro ex w4 ⟨q0, rfl, hd, hs, ai⟩;obtain ⟨fj, gV⟩ := hd.2 (by decide);replace HX := hid (HX.out.kept ai bN);replace HS := hid hs;clear hd hs ai
 go_wp2_with fail
 refine (Pd 15 HS.out (by omega) (by constructor <;> decide)).mono ?_;rintro ex w5 ⟨z, rfl, hd, hs, ai⟩;obtain ⟨cE, cP⟩ := hd.2 (by decide);replace HX := hid (HX.out.kept ai bN);replace HS := hid hs;have Jh := HS.out.lt;clear hd hs ai
 go_upto_block 0 with fail
 go_cut [6, 7] (fun a b wx => ∃ (p q : Int), a = Q1 p ∧ b = Q1 q ∧ IsI p ∧ IsI q ∧ Hid (Blk wx X 28 [Q1 0, Q1 0, Q1 0, Q1 0, Q1 0, .bool false, Q4, .bool false, Q4, Q1 0, Q1 0, Q4, Q4, Q4]) ∧ Hid (∃ k', k' ≤ 10 ∧ SrcR w2 wx B v cs k' size))
 case first =>
  by_cases h0 : z = 0
  ·subst h0
   have dk : Same w5 (w5.alloc (.cells #[Q1 0, Q1 1099511627776, Q1 1099511627777] 2)) := kZ0.alloc _;have HN := hid (Blk.newL w5 [Q1 0, Q1 1099511627776, Q1 1099511627777] 2);dsimp only [List.toArray] at HN;replace HX := hid (HX.out.same dk);replace HS := hid (HS.out.same dk)
   have rI : ¬ w5.heap.size = B := by omega
   clear dk
   go_wp2_with fail
   refine (Pd 3 HS.out (by omega) (by constructor <;> decide)).mono ?_;rintro ex w6 ⟨r, rfl, hd, hs, ai⟩;obtain ⟨du, aS⟩ := hd.2 (by decide);replace HX := hid (HX.out.kept ai bN);replace HN := hid (HN.out.kept ai rI);replace HS := hid hs;clear hd hs ai;obtain ⟨n0, n1, n2⟩ := HN.out.all3
   obtain rfl | rfl | rfl : r = 0 ∨ r = 1 ∨ r = 2 := by omega
   all_goals
    go_wp2_with fail
    go_meet
    case rel => exact ⟨_, _, rfl, rfl, ⟨by omega, by omega⟩, ⟨by omega, by omega⟩, HX, _, by omega, HS.out⟩
  by_cases h1 : z = 1
  ·subst h1
   have dk : Same w5 (w5.alloc (.cells #[Q1 0, Q1 4294967295, Q1 4294967296] 2)) := kZ0.alloc _;have HN := hid (Blk.newL w5 [Q1 0, Q1 4294967295, Q1 4294967296] 2);dsimp only [List.toArray] at HN;replace HX := hid (HX.out.same dk);replace HS := hid (HS.out.same dk)
   have rI : ¬ w5.heap.size = B := by omega
   clear dk
   go_wp2_with fail
   refine (Pd 3 HS.out (by omega) (by constructor <;> decide)).mono ?_;rintro ex w6 ⟨r, rfl, hd, hs, ai⟩;obtain ⟨du, aS⟩ := hd.2 (by decide);replace HX := hid (HX.out.kept ai bN);replace HN := hid (HN.out.kept ai rI);replace HS := hid hs;clear hd hs ai;obtain ⟨n0, n1, n2⟩ := HN.out.all3
   obtain rfl | rfl | rfl : r = 0 ∨ r = 1 ∨ r = 2 := by omega
   all_goals
    go_wp2_with fail
    go_meet
    case rel => exact ⟨_, _, rfl, rfl, ⟨by omega, by omega⟩, ⟨by omega, by omega⟩, HX, _, by omega, HS.out⟩
  have e0 : (z == 0) = false := by simp [h0]
  have e1 : (z == 1) = false := by simp [h1]
  go_wp2_with fail
  go_meet
  case rel => exact ⟨_, _, rfl, rfl, ⟨by omega, by omega⟩, ⟨by omega, by omega⟩, HX, _, by omega, HS.out⟩
 case rest =>
 clear HX HS;obtain ⟨p', q', rfl, rfl, hp, hq, HX, oL⟩ := hcut;obtain ⟨k', aQ, hS⟩ := oL.out;clear oL
 go_wp2_with fail
 refine (jdZ hS (by omega)).mono ?_;rintro ex w7 ⟨y, k7, rfl, b9, cL, hs, dQ, rj, jx, ai⟩;have OD := HX.out.lt;have wF := hs.kept;have Ci := HX.out.kept ai bN;have aX : Kept (fun b => b = X) w7 (w7.setCells X 0 (O8 y)) := Kept.setCells (R := fun b => b = X) (.inr rfl) _ _ kZ0;have gu := fU.out;have fQ := aO.out.size;have gd : Hid (StLogRecord.rd (w7.setCells X 0 (O8 y)) y ∧ Same w (w7.setCells X 0 (O8 y))) := ⟨b9.kept aX (fun b hb e => by have e' : b = X := e; have := jx b hb; omega), (aO.out.next wF (fun i hi e => by have e' : i = B := e; omega)).next aX (fun i hi e => by have e' : i = X := e; omega)⟩;have gE := hid (R4 Ci (O8 y) rfl);have eo := hid (Ci.there 0 14 (Nat.le_refl 14));have jn := hid dQ;clear b9 hs jx ai wF Ci aX hS HX dQ
 go_wp2_with (refine wpList_store_mid rfl 28 _ _ rfl X 0 (O8 y).toArray rfl rfl eo.out (by kernel_rfl) (PG _) ?_; rw [List.toList_toArray])
 generalize World.setCells _ X 0 _ = w9 at gd gE ⊢;exact bodyPost_ret (jgi Tryz.results4 rfl gE.out.rangeAll Tryz.underlying28 rfl (by kernel_rfl)) rfl ⟨p', q', y, rfl, hp, hq, gd.out.1, jn.out, rj, gd.out.2⟩
def hp4 : List Int := [104, 101, 97, 112]
def mH (s e c l : Int) : List Int := hp4 ++ O5 s 8 ++ O5 e 4 ++ O5 c 8 ++ O5 l 8
def mB (s e c l : Int) : List Int := mH s e c l ++ O5 (Pp 0 (mH s e c l)) 4 ++ List.replicate 476 0
def Uw (s e c l : Int) : List Int := if mF s e c l = 0 then mB s e c l else []
theorem RB (s e c l : Int) : (mH s e c l).length = 32 := by simp [mH, hp4, OY]
theorem QF (s e c l : Int) : (mB s e c l).length = 512 := by simp [mB, RB, OY]
theorem Tw (v : Int) (n : Nat) : IsB (O5 v n) := by
 induction n with
 | zero => intro y hy; cases hy
 | succ k ih =>
  intro y hy;rw [O5] at hy
  rcases List.mem_cons.1 hy with rfl | h
  ·omega
  ·exact ih y h
theorem Ut {a b : List Int} (ha : IsB a) (hb : IsB b) : IsB (a ++ b) := fun y hy => (List.mem_append.1 hy).elim (ha y) (hb y)
theorem jd0 : IsB hp4 := by intro y hy; simp [hp4] at hy; omega
theorem jaT (s e c l : Int) : IsB (mH s e c l) := Ut (Ut (Ut (Ut jd0 (Tw _ _)) (Tw _ _)) (Tw _ _)) (Tw _ _)
theorem jdf (n : Nat) : IsB (List.replicate n 0) := fun y hy => by rw [List.eq_of_mem_replicate hy]; omega
theorem jeY (s e c l : Int) : IsB (mB s e c l) := Ut (Ut (jaT _ _ _ _) (Tw _ _)) (jdf _)
theorem jd1 (s e c l : Int) : cont (mH s e c l ++ O5 (Pp 0 (mH s e c l)) 4) (List.replicate 512 0) = mB s e c l := by
 unfold cont mB;rw [List.drop_replicate, List.length_append, RB, OY]
theorem Tx {w : World} {B : Nat} {t : TypeId} {A raw : List Int} (o n c : Nat) (x : Int) (hb : Blk w B t (vals .u8 (cont A raw))) (ho : o = A.length) (hl : o + n ≤ raw.length) (hm : raw.length = 512) (h0 : 0 ≤ x) (h1 : x ≤ 9223372036854775807) :
  Calls Tryz.prog 49 #[.slice (some ⟨B, o, none⟩) n c, Q1 x] w fun e' w' => e' = .returned (.tuple #[]) ∧ Blk w' B t (vals .u8 (cont (A ++ O5 x n) raw)) ∧ Kept (fun b => b = B) w w' := by
 refine (Qm B o n c t _ x w hb (by rw [O1, Qe _ _ (by omega)]; exact hl) h0 h1 (by omega)).mono ?_;rintro e' w' ⟨rfl, iu, hk⟩;exact ⟨rfl, Blk.more o (O5 x n) iu ho (by rw [OY]; omega), hk⟩
structure SecS (w wx : World) (s e c l : Int) (A : List Int) : Prop where
 box : Blk wx w.heap.size 40 [Q1 s, Q1 e, Q1 c, Q1 l]
 arr : Blk wx (w.heap.size + 1 + 1) 88 (vals .u8 (cont A (List.replicate 512 0)))
 res : Blk wx (w.heap.size + 1) 88 (vals .u8 (List.replicate 512 0))
 same : Same w wx
 sz : w.heap.size + 3 ≤ wx.heap.size
theorem SecS.next {w wx wy : World} {s e c l : Int} {A A' : List Int} (h : SecS w wx s e c l A) (hk : Kept (fun b => b = w.heap.size + 1 + 1) wx wy) (hb : Blk wy (w.heap.size + 1 + 1) 88 (vals .u8 (cont A' (List.replicate 512 0)))) : SecS w wy s e c l A' :=
 ⟨h.box.kept hk (by omega), hb, h.res.kept hk (by omega), h.same.next hk (fun i hi e => by omega), Nat.le_trans h.sz hk.size⟩
theorem SecS.on {w wx wy : World} {s e c l : Int} {A : List Int} (h : SecS w wx s e c l A) (hk : Same wx wy) : SecS w wy s e c l A :=
 ⟨h.box.same hk, h.arr.same hk, h.res.same hk, h.same.trans hk, Nat.le_trans h.sz hk.size⟩
theorem jd2 : Tryz.zeroCells88.toList = vals .u8 (List.replicate 512 0) := by kernel_rfl
theorem Xj : (Tryz.prog.info? 88).map (·.size) = some 512 := by kernel_rfl
theorem jfB : ∀ w, (Go.sizeOf 5).run Tryz.prog w = .ok 1 w := by
 intro w
 kernel_rfl
theorem Ty (s e c l : Int) (w : World) (hg : mF s e c l = 0) :
  Calls Tryz.prog 47 #[.agg #[Q1 s, Q1 e, Q1 c, Q1 l]] w fun ex w' => ex = .returned (.agg (vals .u8 (mB s e c l)).toArray) ∧ Same w w' := by
 obtain ⟨⟨fi, eL⟩, ⟨s7, Cm⟩, oI, je, lM⟩ := Yv hg;clear hg;have cp : (List.replicate 512 (0 : Int)).length = 512 := List.length_replicate;obtain ⟨W0, CK⟩ : ∃ W0, ((w.alloc (.cells #[Q1 s, Q1 e, Q1 c, Q1 l] 40)).alloc (.cells Tryz.zeroCells88 88)).alloc (.cells Tryz.zeroCells88 88) = W0 := ⟨_, rfl⟩
 have jl := (show Hid (SecS w W0 s e c l []) from by
  rw [← CK];have h2 := Blk.new (w.alloc (.cells #[Q1 s, Q1 e, Q1 c, Q1 l] 40)) Tryz.zeroCells88 88;have h3 := Blk.new ((w.alloc (.cells #[Q1 s, Q1 e, Q1 c, Q1 l] 40)).alloc (.cells Tryz.zeroCells88 88)) Tryz.zeroCells88 88;rw [World.size_alloc] at h2;rw [World.size_alloc, World.size_alloc] at h3;rw [jd2] at h2 h3;have k1 : Same w (w.alloc (.cells #[Q1 s, Q1 e, Q1 c, Q1 l] 40)) := kZ0.alloc _
  refine ⟨((Blk.new w #[Q1 s, Q1 e, Q1 c, Q1 l] 40).same (kZ0.alloc _)).same (kZ0.alloc _), by rw [Zn]; exact h3, h2.same (kZ0.alloc _), (k1.alloc _).alloc _, by simp [World.size_alloc]⟩)
 have iL := run_copy_string (P := Tryz.prog) W0 22 9 3 5 (w.heap.size + 1 + 1) 0 512 512 { data := #[104, 101, 97, 112] } Tryz.underlying22 jfB (by decide)
  (fun j hj => by rw [jl.out.arr.cell, List.getElem?_eq_getElem (by rw [O1, Qe _ _ (by simp), cp]; have : j < 4 := hj; omega)]; rfl) (fun j _ => jl.out.arr.frozen _)
 obtain ⟨w1, fG⟩ : ∃ w1, W0.setCells (w.heap.size + 1 + 1) 0 (vals .u8 hp4) = w1 := ⟨_, rfl⟩
 have iL : (Builtin.copy_ #[22, 9] 3 #[.slice (some ⟨w.heap.size + 1 + 1, 0, none⟩) 512 512, .string { data := #[104, 101, 97, 112] }]).run Tryz.prog W0 = .ok (Q1 4) w1 := by rw [← fG]; exact iL
 have nK := (show Hid (SecS w w1 s e c l ([] ++ hp4)) from by
  have hb := jl.out.arr.setCells (vals .u8 hp4) 0 (by rw [O1, O1, Qe _ _ (by simp), cp]; decide);have hk := Kept.setCells (R := fun b => b = w.heap.size + 1 + 1) (a := W0) (B := w.heap.size + 1 + 1) (.inr rfl) (vals .u8 hp4) 0 kZ0;rw [fG] at hb hk
  exact jl.out.next hk (Blk.more 0 hp4 hb rfl (by rw [cp]; decide)))
 clear fG jl;rw [← CK] at iL;clear CK
 go_enter Tryz.func47, Tryz.ntmps47
 go_wp2_with fail
 clear iL;have hE := nK.out.on kZ0.drew
 have hS : (fun wx : World => D0 wx w.heap.size 0 (Q1 s)) w1.drew := by exact hE.box.cell 0
 refine O0 (fun wx : World => D0 wx w.heap.size 0 (Q1 s)) 99 4 ?_;refine tk 0 6 hS ?_;refine tk 1 7 hS ?_;refine tk 2 8 hS ?_;refine o1Q 3 (fun K hK => ?_);go_simp;have hc := Tx 4 8 508 s hE.arr (by simp [hp4, OY]) (by rw [cp]; decide) cp (by omega) (by omega)
 with_reducible refine hc.mono ?_
 rintro ex w2 ⟨rfl, hb, hk⟩;have uo : Hid (SecS w w2 s e c l ([] ++ hp4 ++ O5 s 8)) := hE.next hk hb;have fk : (fun wx : World => D0 wx w.heap.size 0 (Q1 s)) w2 := uo.out.box.cell 0;clear hb hk hE hc hS;refine hK.out _ _ (fun _ => fk) ?_;clear hK K fk nK;refine OZ ?_
 try simp only [Sp]
 go_wp2_with fail
 have hE := uo.out.on kZ0.drew
 have hS : (fun wx : World => D0 wx w.heap.size 1 (Q1 e)) w2.drew := by exact hE.box.cell 1
 refine O0 (fun wx : World => D0 wx w.heap.size 1 (Q1 e)) 99 4 ?_;refine tk 0 10 hS ?_;refine tk 1 11 hS ?_;refine tk 2 12 hS ?_;refine o1Q 3 (fun K hK => ?_);go_simp;have hc := Tx 12 4 500 e hE.arr (by simp [hp4, OY]) (by rw [cp]; decide) cp (by omega) (by omega)
 with_reducible refine hc.mono ?_
 rintro ex w3 ⟨rfl, hb, hk⟩;have tm : Hid (SecS w w3 s e c l ([] ++ hp4 ++ O5 s 8 ++ O5 e 4)) := hE.next hk hb;have fk : (fun wx : World => D0 wx w.heap.size 1 (Q1 e)) w3 := tm.out.box.cell 1;clear hb hk hE hc hS;refine hK.out _ _ (fun _ => fk) ?_;clear hK K fk uo;refine OZ ?_
 try simp only [Sp]
 go_wp2_with fail
 have hE := tm.out.on kZ0.drew
 have hS : (fun wx : World => D0 wx w.heap.size 2 (Q1 c)) w3.drew := by exact hE.box.cell 2
 refine O0 (fun wx : World => D0 wx w.heap.size 2 (Q1 c)) 99 4 ?_;refine tk 0 14 hS ?_;refine tk 1 15 hS ?_;refine tk 2 16 hS ?_;refine o1Q 3 (fun K hK => ?_);go_simp;have hc := Tx 16 8 496 c hE.arr (by simp [hp4, OY]) (by rw [cp]; decide) cp (by omega) (by omega)
 with_reducible refine hc.mono ?_
 rintro ex w4 ⟨rfl, hb, hk⟩;have sM : Hid (SecS w w4 s e c l ([] ++ hp4 ++ O5 s 8 ++ O5 e 4 ++ O5 c 8)) := hE.next hk hb;have fk : (fun wx : World => D0 wx w.heap.size 2 (Q1 c)) w4 := sM.out.box.cell 2;clear hb hk hE hc hS;refine hK.out _ _ (fun _ => fk) ?_;clear hK K fk tm;refine OZ ?_
 try simp only [Sp]
 go_wp2_with fail
 have hE := sM.out.on kZ0.drew
 have hS : (fun wx : World => D0 wx w.heap.size 3 (Q1 l)) w4.drew := by exact hE.box.cell 3
 refine O0 (fun wx : World => D0 wx w.heap.size 3 (Q1 l)) 99 4 ?_;refine tk 0 18 hS ?_;refine tk 1 19 hS ?_;refine tk 2 20 hS ?_;refine o1Q 3 (fun K hK => ?_);go_simp;have hc := Tx 24 8 488 l hE.arr (by simp [hp4, OY]) (by rw [cp]; decide) cp (by omega) (by omega)
 with_reducible refine hc.mono ?_
 rintro ex w5 ⟨rfl, hb, hk⟩;have jd : Hid (SecS w w5 s e c l ([] ++ hp4 ++ O5 s 8 ++ O5 e 4 ++ O5 c 8 ++ O5 l 8)) := hE.next hk hb;have fk : (fun wx : World => D0 wx w.heap.size 3 (Q1 l)) w5 := jd.out.box.cell 3;clear hb hk hE hc hS;refine hK.out _ _ (fun _ => fk) ?_;clear hK K fk sM;refine OZ ?_
 try simp only [Sp]
 go_wp2_with fail
 have lS := jd.out;rw [show [] ++ hp4 ++ O5 s 8 ++ O5 e 4 ++ O5 c 8 ++ O5 l 8 = mH s e c l from rfl] at lS;have HE : Hid (SecS w w5 s e c l (mH s e c l)) := lS;clear lS jd;have hE := HE.out.on kZ0.drew
 have hS : (fun wx : World => True) w5.drew := by trivial
 refine O0 (fun wx : World => True) 99 4 ?_;refine tk 0 22 hS ?_;refine tk 1 23 hS ?_;refine o1Q 2 (fun K hK => ?_);go_simp
 have b9 : Rd .u8 w5.drew (.slice (some ⟨w.heap.size + 1 + 1, 0, none⟩) 32 512) (mH s e c l) := by
  have h := Blk.rd hE.arr 0 32 512 (by rw [Qe _ _ (by rw [RB, cp]; decide), cp]; decide) (by decide) (by rw [Qe _ _ (by rw [RB, cp]; decide), cp]; decide);rw [show ((cont (mH s e c l) (List.replicate 512 0)).drop 0).take 32 = mH s e c l from by rw [List.drop_zero]; unfold cont; rw [List.take_append_of_le_length (by rw [RB]; decide), List.take_of_length_le (by rw [RB]; decide)]] at h;exact h
 have hc := TU _ _ _ (jaT s e c l) (by rw [RB]; decide) b9
 with_reducible refine hc.mono ?_
 rintro ex w6 ⟨rfl, hk⟩;have fE : Hid (SecS w w6 s e c l (mH s e c l)) := hE.on hk;clear hk hE hc b9;refine hK.out _ _ (fun _ => trivial) ?_;clear hK K
 try simp only [Sp]
 refine o1Q 3 (fun K hK => ?_);go_simp;have hq := R6 0 (mH s e c l) (by decide) (by decide) (jaT s e c l);have hc := Tx 32 4 480 (Pp 0 (mH s e c l)) fE.out.arr (by rw [RB]) (by rw [cp]; decide) cp hq.1 (by omega)
 with_reducible refine hc.mono ?_
 rintro ex w7 ⟨rfl, hb, hk⟩;have ux := fE.out.next hk hb;rw [show (SecS w w7 s e c l (mH s e c l ++ O5 (Pp 0 (mH s e c l)) 4)) = SecS w w7 s e c l (mH s e c l ++ O5 (Pp 0 (mH s e c l)) 4) from rfl] at ux;have jM := ux.arr;rw [jd1] at jM;have pX := ux.res;have cL := ux.same;have Oa := ux.sz;clear hb hk ux hc fE;refine hK.out _ _ (fun _ => trivial) ?_;clear hK K hS HE;refine OZ ?_
 try simp only [Sp]
 have cg : (vals .u8 (mB s e c l)).length = 512 := by rw [O1, QF]
 obtain ⟨cs, ey⟩ : ∃ cs : List Value, vals .u8 (mB s e c l) = cs := ⟨_, rfl⟩;have iQ := (show Hid (cs.toArray.all (·.oneCell') = true) from by rw [← ey]; exact all_oneCell_toArray Qy);have ol := (show Hid (w7.rangeAt (w.heap.size + 1 + 1) 0 cs) from by rw [← ey]; exact jM.rangeAll);have HI := (show Hid ((Tryz.prog.info? 88).map (·.size) = some cs.length) from by rw [← ey, cg]; exact Xj);have bL := (show Hid ((Tryz.prog.info? 88).map (·.size) = some cs.toArray.size) from by rw [List.size_toArray]; exact HI.out);have HT : Hid (w7.there (w.heap.size + 1) 0 cs.toArray.size) := pX.there 0 _ (by rw [List.size_toArray, ← ey, cg, O1, cp]; decide)
 have HB := (show Hid (Blk (w7.setCells (w.heap.size + 1) 0 cs) (w.heap.size + 1) 88 cs) from by
  have h := pX.setCells cs 0 (by rw [← ey, cg, O1, cp]; decide)
  rwa [lay_all _ _ (by rw [← ey, cg, O1, cp])] at h)
 have jL : Hid (Same w (w7.setCells (w.heap.size + 1) 0 cs)) := Kept.setCells (.inl (Nat.le_succ _)) cs 0 cL;have rf : Hid (vals .u8 (mB s e c l) = cs) := ey;clear ey cg jM pX
 go_wp2_with (first | (refine wpList_load_mid rfl 88 _ rfl (w.heap.size + 1 + 1) 0 rfl cs _ ol.out Tryz.underlying88 rfl HI.out ?_) | (refine wpList_store_mid rfl 88 _ _ rfl (w.heap.size + 1) 0 cs.toArray rfl rfl HT.out bL.out iQ.out ?_))
 have tt := HB.out.rangeAll;have DV := run_loadVar_mid (P := Tryz.prog) _ (w.heap.size + 1) 0 88 cs _ tt Tryz.underlying88 rfl HI.out;refine bodyPost_ret (v := .agg cs.toArray) ?_ rfl ?_
 ·try simp only [Act.put, List.setIfInBounds_toArray, List.set_cons_zero, List.set_cons_succ]
  simp [results, Tryz.results47, asAddr, DV]
 ·rw [rf.out]
  exact ⟨rfl, jL.out⟩
theorem U9 {s e c l : Int} (h : mF s e c l = 0) : Uw s e c l = mB s e c l := if_pos h
theorem jd3 {s e c l : Int} (h : mF s e c l ≠ 0) : Uw s e c l = [] := if_neg h
theorem jbf {a0 a1 a2 : Addr} {s e c l : Int} (h : mF s e c l ≠ 0) : ∃ a, jds a0 a1 a2 (mF s e c l) = .iface 188 (.pointer (some a)) := by
 rcases jci s e c l with h0 | h0 | h0 | h0
 ·exact absurd h0 h
 ·rw [h0]; exact ⟨a0, rfl⟩
 ·rw [h0]; exact ⟨a1, rfl⟩
 ·rw [h0]; exact ⟨a2, rfl⟩
theorem jaU (s e c l : Int) (a0 a1 a2 : Addr) (w : World) (hE : Errs w a0 a1 a2) :
  Calls Tryz.prog 13 #[.agg #[Q1 s, Q1 e, Q1 c, Q1 l]] w fun ex w' => ∃ a c', ex = .returned (.slice a (Uw s e c l).length c') ∧ (∀ b, (Value.slice a (Uw s e c l).length c').ownBlock = some b → w.heap.size ≤ b) ∧
   Own 0 88 .u8 w' (.slice a (Uw s e c l).length c') (Uw s e c l) ∧ Same w w' := by
 have aP := hid (Rv w [Q1 s, Q1 e, Q1 c, Q1 l] 40);have k1 := TQ s e c l a0 a1 a2 _ (hE.same aP.out);clear hE;have b0 := Blk.new w #[Q1 s, Q1 e, Q1 c, Q1 l] 40
 by_cases hg : mF s e c l = 0
 ·rw [hg, show jds a0 a1 a2 0 = .nilIface from rfl] at k1
  rw [U9 hg, QF];have k2 := fun wx => Ty s e c l wx hg
  have fQ : (vals .u8 (mB s e c l)).toArray.size = 512 := by rw [List.size_toArray, O1, QF]
  obtain ⟨cs, ey⟩ : ∃ cs : Array Value, (vals .u8 (mB s e c l)).toArray = cs := ⟨_, rfl⟩;have rf : Hid ((vals .u8 (mB s e c l)).toArray = cs) := ey;have iQ := (show Hid (cs.all (·.oneCell') = true) from by rw [← ey]; exact all_oneCell_toArray Qy);rw [ey] at k2 fQ;clear ey hg
  go_enter Tryz.func13, Tryz.ntmps13
  go_wp2_with (first
   | (go_at_call 46; (with_reducible refine k1.mono ?_); rintro ex w1 ⟨rfl, ah⟩; have b1 := b0.same ah; obtain ⟨d0, d1, d2, d3⟩ := b1.all4; have aN : Hid (Same w w1) := aP.out.trans ah; clear ah)
   | (go_at_call 47; (with_reducible refine (k2 _).mono ?_); rintro ex w2 ⟨rfl, aj⟩; have aO : Hid (Same w w2) := aN.out.trans aj; clear aj; have lK := run_storeCells_new (P := Tryz.prog) w2 88 Tryz.zeroCells88 cs (by rw [fQ]; exact Xj) (by rw [fQ]; exact Tryz.zeroCells88_size) iQ.out))
  go_ret;have hb := Blk.new w2 cs 88;rw [← rf.out] at hb;refine ⟨_, _, rfl, ?_, ?_, aO.out.alloc _⟩
  ·intro b iu
   have : w2.heap.size = b := by simpa [Value.ownBlock] using iu
   have := aO.out.size;omega
  ·rw [← rf.out]
   have h2 : Blk (w2.alloc (.cells (vals .u8 (mB s e c l)).toArray 88)) w2.heap.size 88 (vals .u8 (mB s e c l)) := hb;have h3 := Blk.own h2 (by rw [QF]; decide)
   rwa [QF] at h3
 ·obtain ⟨a, ha⟩ := jbf (a0 := a0) (a1 := a1) (a2 := a2) hg
  rw [ha] at k1;rw [jd3 hg]
  go_enter Tryz.func13, Tryz.ntmps13
  go_wp2_with (first
   | (go_at_call 46; (with_reducible refine k1.mono ?_); rintro ex w1 ⟨rfl, ah⟩; have aN : Hid (Same w w1) := aP.out.trans ah; clear ah))
  go_ret;exact ⟨none, 0, rfl, fun b hb => by simp [Value.ownBlock] at hb, Own.nil _ _ _ _, aN.out⟩
structure OutS (w wx : World) (s e c l : Int) (v : Value) (A : List Int) : Prop where
 box : Blk wx w.heap.size 40 [Q1 s, Q1 e, Q1 c, Q1 l]
 own : Own 0 5 .u8 wx v A
 fresh : ∀ b, v.ownBlock = some b → w.heap.size < b
 same : Same w wx
theorem OutS.on {w wx wy : World} {s e c l : Int} {v : Value} {A : List Int} (h : OutS w wx s e c l v A) (hk : Same wx wy) : OutS w wy s e c l v A := ⟨h.box.same hk, h.own.same hk, h.fresh, h.same.trans hk⟩
theorem OutS.next {w wx wy : World} {s e c l : Int} {v v' : Value} {A A' : List Int} (h : OutS w wx s e c l v A) (hg : Grew wx v wy v') (ho : Own 0 5 .u8 wy v' A') : OutS w wy s e c l v' A' :=
 ⟨h.box.kept hg.kept (fun hb => by have := h.fresh _ hb; omega), ho, fun b hb => (hg.own b hb).elim (fun h1 => h.fresh b h1) (fun h1 => Nat.lt_of_lt_of_le h.box.lt h1), hg.same h.same (fun b hb => Nat.le_of_lt (h.fresh b hb))⟩
def jeZ (n : Nat) (p : Int × List Int) : Prop := 0 ≤ p.1 ∧ p.1 < n ∧ p.2.length = 512
def jb3 (len m : Nat) : Prop := len % 512 = 0 ∧ 1 ≤ len / 512 ∧ len / 512 ≤ 1024 ∧ m ≤ 8192
def Valid (len : Nat) (ds : List (Int × List Int)) : Prop := jb3 len ds.length ∧ ∀ p ∈ ds, jeZ (len / 512) p
def Yo (s : Int) : List (Int × List Int) → Option (List Int)
 | [] => none
 | p :: ps => match Yo s ps with
  | some bs => some bs
  | none => if p.1 = s then some p.2 else none
def jfC (s : Int) (dur : List Int) (ds : List (Int × List Int)) : List Int := (Yo s ds).getD ((dur.drop (s.toNat * 512)).take 512)
def IsRead (s : Int) (dur : List Int) (ds : List (Int × List Int)) (bs : List Int) : Prop :=
 (Valid dur.length ds ∧ 0 ≤ s ∧ s < (dur.length / 512 : Nat) ∧ bs = jfC s dur ds) ∨ (¬ (Valid dur.length ds ∧ 0 ≤ s ∧ s < (dur.length / 512 : Nat)) ∧ bs = [])
theorem IsRead.one {s : Int} {dur : List Int} {ds : List (Int × List Int)} {bs cs : List Int} (h : IsRead s dur ds bs) (k : IsRead s dur ds cs) : bs = cs := by
 rcases h with ⟨h1, h2, h3, rfl⟩ | ⟨h, rfl⟩ <;> rcases k with ⟨k1, k2, k3, rfl⟩ | ⟨k, rfl⟩
 ·rfl
 ·exact absurd ⟨h1, h2, h3⟩ k
 ·exact absurd ⟨k1, k2, k3⟩ h
 ·rfl
theorem jb4 (s : Int) (ds : List (Int × List Int)) (bs : List Int) (h : Yo s ds = some bs) : ∃ p ∈ ds, p.2 = bs := by
 induction ds with
 | nil => simp [Yo] at h
 | cons p ds ih =>
  unfold Yo at h
  split at h
  ·next cs hc =>
   obtain ⟨q, hq, e⟩ := ih (by rw [hc, ← h]);exact ⟨q, List.mem_cons_of_mem _ hq, e⟩
  ·split at h
   ·simp at h
    exact ⟨p, List.mem_cons_self .., h⟩
   ·simp at h
theorem IsRead.len {s : Int} {dur : List Int} {ds : List (Int × List Int)} {bs : List Int} (h : IsRead s dur ds bs) : bs.length ≤ 512 := by
 rcases h with ⟨hv, _, _, rfl⟩ | ⟨_, rfl⟩
 ·unfold jfC
  cases hl : Yo s ds with
  | none => simp; omega
  | some cs =>
   obtain ⟨p, hp, rfl⟩ := jb4 s ds cs hl;have := (hv.2 p hp).2.2;simp [this]
 ·simp
def Ans (P : Prop) (r0 : List Int) (Ah : List (Int × List Int)) (dur : List Int) (ds : List (Int × List Int)) (r : List Int) (rs : List (Int × List Int)) : Prop := (P ∧ r = r0 ∧ rs = Ah) ∨ (¬ P ∧ r = dur ∧ rs = ds)
theorem Ans.one {P : Prop} {r0 dur r r' : List Int} {Ah ds rs lz : List (Int × List Int)} (h : Ans P r0 Ah dur ds r rs) (h' : Ans P r0 Ah dur ds r' lz) : r = r' ∧ rs = lz := by
 rcases h with ⟨h, rfl, rfl⟩ | ⟨h, rfl, rfl⟩ <;> rcases h' with ⟨h', rfl, rfl⟩ | ⟨h', rfl, rfl⟩ <;> simp_all
def DiskB (dur : List Int) (ps : List PW) : Prop := IsB dur ∧ ∀ p ∈ ps, IsB p.bs
theorem DiskB.dat {dur : List Int} {ps qs : List PW} (h : DiskB dur ps) (hq : jcf qs = jcf ps) : DiskB dur qs := ⟨h.1, fun p hp => by
 have h1 : (p.sec, p.bs) ∈ jcf ps := by rw [← hq]; exact List.mem_map.2 ⟨p, hp, rfl⟩
 obtain ⟨p', K9, he⟩ := List.mem_map.1 h1;have : p'.bs = p.bs := congrArg Prod.snd he;rw [← this]
 exact h.2 p' K9⟩
def MsR (w0 w w' : World) (ex : Ending) (B : Nat) (v : Value) (cs : List Int) (k : Nat) (size : Int) : Prop :=
 ∃ (s e c l : Int) (k' : Nat), ex = .returned (.agg #[Q1 s, Q1 e, Q1 c, Q1 l]) ∧ mF s e c l = 0 ∧ k' ≤ k + 4 ∧ SrcR w0 w' B v cs k' size ∧ Kept (fun b => b = B) w w'
theorem jgj {w0 w : World} {B : Nat} {v : Value} {cs : List Int} {k : Nat} {size : Int} (h : SrcR w0 w B v cs k size) (hk : k ≤ 1073741000) :
  Calls Tryz.prog 91 #[Q2 B 0] w fun e w' => MsR w0 w w' e B v cs k size := by
 have b0 := Blk.new w #[Q1 0, Q1 0, Q1 0, Q1 0] 40;have eT := h.lt;have gU := h.kept.size;have aW : Same w (w.alloc (.cells #[Q1 0, Q1 0, Q1 0, Q1 0] 40)) := kZ0.alloc _;have HS := hid (h.same aW);clear h
 go_enter Tryz.func91, Tryz.ntmps91
 go_upto_region 1 with fail
 obtain ⟨X, hX⟩ : ∃ X, w.heap.size = X := ⟨_, rfl⟩;have HX := hid hX;rw [hX] at b0 eT gU;generalize fG : w.alloc (.cells #[Q1 0, Q1 0, Q1 0, Q1 0] 40) = w1 at *;have HK : Hid (Kept (fun b => b = B) w w1) := aW.mono (fun _ _ e => e.elim);have HB := hid b0
 try rw [hX]
 clear aW b0 hX fG
 go_wp2_with fail
 refine (Pd 20 HS.out (by omega) (by constructor <;> decide)).mono ?_;rintro e w2 ⟨s, rfl, hd, aT, aQ⟩;obtain ⟨fi, eL⟩ := hd.2 (by decide);have cH := hid (HB.out.kept aQ (fun e => by omega));have cF := hid (HK.out.trans aQ);clear HS HB HK;have HS := hid aT;have HB := cH;have HK := cF;clear hd aT aQ cH cF
 have q1 : IntKind.i64.wrap (1 + s) = 1 + s := by rw [IntKind.wrap_i64]; omega
 go_wp2_with fail
 refine (Pd 20 HS.out (by omega) (by constructor <;> decide)).mono ?_;rintro e w3 ⟨e, rfl, hd, aT, aQ⟩;obtain ⟨s7, Cm⟩ := hd.2 (by decide);have cH := hid (HB.out.kept aQ (fun e => by omega));have cF := hid (HK.out.trans aQ);clear HS HB HK;have HS := hid aT;have HB := cH;have HK := cF;clear hd aT aQ cH cF
 have q2 : IntKind.i64.wrap (1 + e) = 1 + e := by rw [IntKind.wrap_i64]; omega
 go_wp2_with fail
 refine (TS HS.out (by omega)).mono ?_;rintro e w4 ⟨l, rfl, oI, je, aT, aQ⟩;have cH := hid (HB.out.kept aQ (fun e => by omega));have cF := hid (HK.out.trans aQ);clear HS HB HK;have HS := hid aT;have HB := cH;have HK := cF;clear aT aQ cH cF;have bF : Same w4 (w4.alloc (.cells #[Q1 (1 + s), Q1 (1 + e), Q1 0, Q1 l] 40)) := kZ0.alloc _;have HM := hid (Blk.new w4 #[Q1 (1 + s), Q1 (1 + e), Q1 0, Q1 l] 40);have wK := hid (HS.out.same bF);have cH := hid (HB.out.same bF);have cF := hid (HK.out.trans (bF.mono (fun _ _ e => e.elim)));have DI : X < w4.heap.size := HB.out.lt;have oq : B < w4.heap.size := HS.out.lt;have Jn := HK.out.size;obtain ⟨Y, hY⟩ : ∃ X, w4.heap.size = X := ⟨_, rfl⟩;rw [hY] at HM DI oq Jn;have HY := hid hY;clear bF HS HB HK hY
 go_upto_region 2 with fail
 try rw [HY.out]
 generalize w4.alloc (.cells #[Q1 (1 + s), Q1 (1 + e), Q1 0, Q1 l] 40) = w5 at *;clear HY;refine O0 (fun wx : World => D0 wx Y 3 (Q1 l)) 6 7 ?_;have tI : Same w5 w5.drew := kZ0.drew;have HS := hid (wK.out.same tI);have HB := hid (cH.out.same tI);have DJ := hid (HM.out.same tI);have HK := hid (cF.out.trans (tI.mono (fun _ _ e => e.elim)));generalize w5.drew = v1 at *;clear tI wK cH cF HM;have hS : (fun wx : World => D0 wx Y 3 (Q1 l)) v1 := DJ.out.cell 3;refine tk 0 13 hS ?_;refine tk 1 14 hS ?_;refine tk 2 15 hS ?_;refine o1Q 3 (fun K hK => ?_);go_simp;refine (Pd 3000 HS.out (by omega) (by constructor <;> decide)).mono ?_;rintro e' v2 ⟨r, rfl, hd, aT, aQ⟩;obtain ⟨du, aS⟩ := hd.2 (by decide);have cH := hid (HB.out.kept aQ (fun e => by omega));have oM := hid (DJ.out.kept aQ (fun e => by omega));have cF := hid (HK.out.trans aQ);have wK := hid aT;have hS : (fun wx : World => D0 wx Y 3 (Q1 l)) v2 := oM.out.cell 3;clear hd aT aQ HS HB HK DJ
 go_wp2_with fail
 refine hK.out _ _ (fun _ => hS) ?_;clear hK K
 try simp only [Sp]
 have q3 : IntKind.i64.wrap (l + r) = l + r := by rw [IntKind.wrap_i64]; omega
 refine tkV 4 17 (Q1 (l + r)) hS ?_;refine tk 5 18 hS ?_;obtain ⟨_, _, z2, _⟩ := oM.out.all4;have zf := oM.out.frozen;have An : Kept (fun b => b = Y) v2 (v2.setCell ⟨Y, 2, none⟩ (Q1 (l + r))) := (Kept.refl (fun b => b = Y) v2).setCell (p := ⟨Y, 2, none⟩) (.inr rfl) _;have HS := hid (wK.out.on An (fun e => by omega) (fun i hi e => by omega));have HB := hid (cH.out.kept An (fun e => by omega));have Df := hid (oM.out.stored 2 (Q1 (l + r)));have HK := hid (cF.out.next An (fun i hi e => by omega));refine o1Q 6 (fun K hK => ?_);go_simp;refine hK.out _ _ (fun h => absurd rfl h) ?_;clear hK K;refine OZ ?_
 try simp only [Sp]
 generalize v2.setCell ⟨Y, 2, none⟩ (Q1 (l + r)) = v3 at *;clear hS z2 zf An wK cH oM cF;obtain ⟨m0, m1, m2, m3⟩ := Df.out.all4;obtain ⟨b0, b1, b2, b3⟩ := HB.out.all4;have fb := HB.out.frozen;have jA : Kept (fun b => b = X) v3 ((((v3.setCell ⟨X, 0, none⟩ (Q1 (1 + s))).setCell ⟨X, 1, none⟩ (Q1 (1 + e))).setCell ⟨X, 2, none⟩ (Q1 (l + r))).setCell ⟨X, 3, none⟩ (Q1 l)) := (by show Kept _ _ _; (iterate 4 refine kS0 ?_); exact Kept.refl _ _);have fp := hid ((((HB.out.stored 0 (Q1 (1 + s))).stored 1 (Q1 (1 + e))).stored 2 (Q1 (l + r))).stored 3 (Q1 l));have gd : Hid (MsR w0 w ((((v3.setCell ⟨X, 0, none⟩ (Q1 (1 + s))).setCell ⟨X, 1, none⟩ (Q1 (1 + e))).setCell ⟨X, 2, none⟩ (Q1 (l + r))).setCell ⟨X, 3, none⟩ (Q1 l)) (.returned (.agg #[Q1 (1 + s), Q1 (1 + e), Q1 (l + r), Q1 l])) B v cs k size) := ⟨_, _, _, _, _, rfl, mF0 (by omega) (by omega) (by omega), Nat.le_refl _, HS.out.on jA (fun e => by omega) (fun i hi e => by omega), HK.out.next jA (fun i hi e => by have := HX.out; omega)⟩;clear jA;go_wp2;generalize (((v3.setCell ⟨X, 0, none⟩ (Q1 (1 + s))).setCell ⟨X, 1, none⟩ (Q1 (1 + e))).setCell ⟨X, 2, none⟩ (Q1 (l + r))).setCell ⟨X, 3, none⟩ (Q1 l) = wz at *;obtain ⟨x0, x1, x2, x3⟩ := fp.out.all4;exact bodyPost_ret (v := .agg #[Q1 (1 + s), Q1 (1 + e), Q1 (l + r), Q1 l]) (by simp [results, Tryz.results91, go_sem, x0, x1, x2, x3]) rfl gd.out
end Go.Proofs.YtapdfgkbhaoelaaGreatDoor
