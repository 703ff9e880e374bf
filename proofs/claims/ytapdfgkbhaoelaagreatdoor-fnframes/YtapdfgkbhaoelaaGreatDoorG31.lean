import Derived.Test.YtapdfgkbhaoelaaGreatDoorG30
import Derived.Deep.Onto
namespace Go.Proofs.YtapdfgkbhaoelaaGreatDoor
set_option maxRecDepth 100000
set_option maxHeartbeats 16000000
set_option linter.unusedVariables false
set_option linter.unusedSimpArgs false
open Go.RowKit Go
theorem Own.low {base : Nat} {e : TypeId} {k : IntKind} {w : World} {v : Value} {bs : List Int} (h : Own base e k w v bs) : Own 0 e k w v bs := World.ownsRow.mono h (Nat.zero_le _)
def jcV (w0 w w' : World) (e : Ending) (B : Nat) (v : Value) (cs : List Int) (k : Nat) (size : Int) : Prop :=
 ∃ (u : Bool) (a : Option Addr) (c : Nat) (d : List Int) (k' : Nat), e = .returned (.agg #[.bool u, .slice a d.length c]) ∧ d.length ≤ 1000 ∧ IsB d ∧ Own 0 5 .u8 w' (.slice a d.length c) d ∧ (∀ b, (Value.slice a d.length c).ownBlock = some b → w.heap.size ≤ b ∧ ¬ b = B) ∧ k' ≤ k + 8 ∧ SrcR w0 w' B v cs k' size ∧ Kept (fun b => b = B) w w'
theorem ja8 {w0 w : World} {B : Nat} {v : Value} {cs : List Int} {k : Nat} {size : Int} (h : SrcR w0 w B v cs k size) (hk : k ≤ 1073741800) :
  Calls Tryz.prog 85 #[Q2 B 0] w fun e w' => jcV w0 w w' e B v cs k size := by
 have b0 := Blk.new w #[.bool false, Q4] 24;have eT := h.lt;have gU := h.kept.size;have aW : Same w (w.alloc (.cells #[.bool false, Q4] 24)) := kZ0.alloc _;have jl := hid (h.same aW);clear h
 go_enter Tryz.func85, Tryz.ntmps85
 go_upto_region 1 with fail
 obtain ⟨X, hX⟩ : ∃ X, w.heap.size = X := ⟨_, rfl⟩;have HX := hid hX;rw [hX] at b0 eT gU;generalize fG : w.alloc (.cells #[.bool false, Q4] 24) = w1 at *;have aP := hid aW;have dO := hid b0;rw [hX];clear aW b0 hX fG
 go_wp2_with fail
 refine (Pd 10 jl.out (by omega) (by constructor <;> decide)).mono ?_;rintro e w2 ⟨z, rfl, hd, eL, aj⟩;obtain ⟨cE, cP⟩ := hd.2 (by decide);have fW := hid eL;have aO : Hid (Kept (fun b => b = B) w w2) := (aP.out.mono (fun _ _ e => e.elim)).trans aj;have eI := hid (dO.out.kept aj (fun e => by omega));clear hd eL aj jl dO
 by_cases z0 : z = 0
 ·subst z0
  obtain ⟨r0, r1⟩ := eI.out.all2;have fr := eI.out.frozen;have lr := eI.out.lt;have aX : Kept (fun b => b = X) w2 ((w2.setCell ⟨X, 0, none⟩ (.bool false)).setCell ⟨X, 1, none⟩ (Q4)) := ((Kept.refl (fun b => b = X) w2).setCell (p := ⟨X, 0, none⟩) (.inr rfl) _).setCell (p := ⟨X, 1, none⟩) (.inr rfl) _;have gd : Hid (jcV w0 w ((w2.setCell ⟨X, 0, none⟩ (.bool false)).setCell ⟨X, 1, none⟩ (Q4)) (.returned (.agg #[.bool false, Q4])) B v cs k size) := ⟨false, none, 0, [], k + 1, rfl, by simp, fun x hx => by simp at hx, Own.nil _ _ _ _, fun b hb => by simp [Value.ownBlock] at hb, by omega, fW.out.on aX (fun e => by omega) (fun i hi e => by omega), aO.out.next aX (fun i hi e => by have := HX.out; omega)⟩;have fp := hid ((eI.out.stored 0 (.bool false)).stored 1 (Q4));clear aX;go_wp2;generalize (w2.setCell ⟨X, 0, none⟩ (.bool false)).setCell ⟨X, 1, none⟩ (Q4) = wz at *;obtain ⟨x0, x1⟩ := fp.out.all2;exact bodyPost_ret (v := .agg #[.bool false, Q4]) (by simp [results, Tryz.results85, go_sem, x0, x1]) rfl gd.out
 have e0 : (z == 0) = false := by simp [z0]
 have HS := fW;have HB := eI;have HK := aO;clear fW eI aO
 go_wp2_with fail
 refine (Pd 60 HS.out (by omega) (by constructor <;> decide)).mono ?_;rintro e w3 ⟨n1, rfl, hd, aT, aQ⟩;obtain ⟨Dh, pO⟩ := hd.2 (by decide);have cH := hid (HB.out.kept aQ (fun e => by omega));have cF := hid (HK.out.trans aQ);clear HS HB HK;have HS := hid aT;have HB := cH;have HK := cF;clear hd aT aQ cH cF;obtain ⟨n1, rfl⟩ : ∃ m : Nat, n1 = (m : Int) := ⟨n1.toNat, by omega⟩
 by_cases z4 : z < 4
 ·have e4 : (z == 4) = false := by simp; omega
  go_wp2_with fail
  refine (Pd 3 HS.out (by omega) (by constructor <;> decide)).mono ?_;rintro e w4 ⟨q, rfl, hd, aT, aQ⟩;obtain ⟨fj, gV⟩ := hd.2 (by decide);have cH := hid (HB.out.kept aQ (fun e => by omega));have cF := hid (HK.out.trans aQ);clear HS HB HK;have HS := hid aT;have HB := cH;have HK := cF;clear hd aT aQ cH cF
  go_wp2_with fail
  refine (Pd 200 HS.out (by omega) (by constructor <;> decide)).mono ?_;rintro e w5 ⟨r, rfl, hd, aT, aQ⟩;obtain ⟨du, aS⟩ := hd.2 (by decide);have cH := hid (HB.out.kept aQ (fun e => by omega));have cF := hid (HK.out.trans aQ);clear HS HB HK;have HS := hid aT;have HB := cH;have HK := cF;clear hd aT aQ cH cF;obtain ⟨m, hm⟩ : ∃ m, q * r = m := ⟨_, rfl⟩
  have i6 : 0 ≤ m := by rw [← hm]; exact Int.mul_nonneg (by omega) (by omega)
  have CX : m ≤ 398 := by
   have h := Int.mul_le_mul (show q ≤ 2 from by omega) (show r ≤ 199 from by omega) (by omega) (by omega);omega
  have q1 : IntKind.i64.wrap (q * r) = m := by rw [IntKind.wrap_i64, hm]; omega
  obtain ⟨N, hN⟩ : ∃ N : Nat, 1000 - m = (N : Int) := ⟨(1000 - m).toNat, by omega⟩
  have q2 : IntKind.i64.wrap (1000 - m) = (N : Int) := by rw [IntKind.wrap_i64, hN]; omega
  have Mv : N ≤ 1000 := by omega
  clear hm hN
  go_wp2_with fail
  refine (Uc N HS.out (by omega) (by omega)).mono ?_;rintro e w9 ⟨g, bs, rfl, eC, bk, ho, jH, hs, jj, cA⟩;have HO := hid ho;have cx := hid hs;have cM := hid (HB.out.kept cA (fun e => by omega));have gy := hid (HK.out.trans cA);have nv := (ho.lt g rfl).2;have zu : X < w9.heap.size := cM.out.lt
  have vN : X ≤ g := by have := HB.out.lt; omega
  have vA : ¬ g = X := fun e => by have := HB.out.lt; omega
  clear ho hs cA HS HB HK jj;obtain ⟨r0, r1⟩ := cM.out.all2;have fr := cM.out.frozen;have aX : Kept (fun b => b = X) w9 ((w9.setCell ⟨X, 0, none⟩ (.bool true)).setCell ⟨X, 1, none⟩ (Q3 g N N)) := ((Kept.refl (fun b => b = X) w9).setCell (p := ⟨X, 0, none⟩) (.inr rfl) _).setCell (p := ⟨X, 1, none⟩) (.inr rfl) _
  have gd := (show Hid (jcV w0 w ((w9.setCell ⟨X, 0, none⟩ (.bool true)).setCell ⟨X, 1, none⟩ (Q3 g N N)) (.returned (.agg #[.bool true, Q3 g N N])) B v cs k size) from ⟨true, some ⟨g, 0, none⟩, N, bs, _, by rw [eC], by omega, bk, by
   rw [eC]
   exact Own.low (HO.out.kept aX (fun b hb e => by have e1 : g = b := (by simpa [Value.ownBlock] using hb); omega)), by
   rw [eC];intro b hb;have e1 : g = b := (by simpa [Value.ownBlock] using hb);subst e1
   exact ⟨by have := HX.out; omega, jH⟩, by omega, cx.out.on aX (fun e => by omega) (fun i hi e => by omega), gy.out.next aX (fun i hi e => by have := HX.out; omega)⟩)
  have fp := hid ((cM.out.stored 0 (.bool true)).stored 1 (Q3 g N N));clear aX;go_wp2;generalize (w9.setCell ⟨X, 0, none⟩ (.bool true)).setCell ⟨X, 1, none⟩ (Q3 g N N) = wz at *;obtain ⟨x0, x1⟩ := fp.out.all2;exact bodyPost_ret (v := .agg #[.bool true, Q3 g N N]) (by simp [results, Tryz.results85, go_sem, x0, x1]) rfl gd.out
 by_cases z5 : z = 4
 ·subst z5
  go_wp2_with fail
  refine (Uc 0 HS.out (by omega) (by omega)).mono ?_;rintro e w9 ⟨g, bs, rfl, eC, bk, ho, jH, hs, jj, cA⟩;have HO := hid ho;have cx := hid hs;have cM := hid (HB.out.kept cA (fun e => by omega));have gy := hid (HK.out.trans cA);have nv := (ho.lt g rfl).2;have zu : X < w9.heap.size := cM.out.lt
  have vN : X ≤ g := by have := HB.out.lt; omega
  have vA : ¬ g = X := fun e => by have := HB.out.lt; omega
  clear ho hs cA HS HB HK jj;obtain ⟨r0, r1⟩ := cM.out.all2;have fr := cM.out.frozen;have aX : Kept (fun b => b = X) w9 ((w9.setCell ⟨X, 0, none⟩ (.bool true)).setCell ⟨X, 1, none⟩ (Q3 g 0 0)) := ((Kept.refl (fun b => b = X) w9).setCell (p := ⟨X, 0, none⟩) (.inr rfl) _).setCell (p := ⟨X, 1, none⟩) (.inr rfl) _
  have gd := (show Hid (jcV w0 w ((w9.setCell ⟨X, 0, none⟩ (.bool true)).setCell ⟨X, 1, none⟩ (Q3 g 0 0)) (.returned (.agg #[.bool true, Q3 g 0 0])) B v cs k size) from ⟨true, some ⟨g, 0, none⟩, 0, bs, _, by rw [eC], by omega, bk, by
   rw [eC]
   exact Own.low (HO.out.kept aX (fun b hb e => by have e1 : g = b := (by simpa [Value.ownBlock] using hb); omega)), by
   rw [eC];intro b hb;have e1 : g = b := (by simpa [Value.ownBlock] using hb);subst e1
   exact ⟨by have := HX.out; omega, jH⟩, by omega, cx.out.on aX (fun e => by omega) (fun i hi e => by omega), gy.out.next aX (fun i hi e => by have := HX.out; omega)⟩)
  have fp := hid ((cM.out.stored 0 (.bool true)).stored 1 (Q3 g 0 0));clear aX;go_wp2;generalize (w9.setCell ⟨X, 0, none⟩ (.bool true)).setCell ⟨X, 1, none⟩ (Q3 g 0 0) = wz at *;obtain ⟨x0, x1⟩ := fp.out.all2;exact bodyPost_ret (v := .agg #[.bool true, Q3 g 0 0]) (by simp [results, Tryz.results85, go_sem, x0, x1]) rfl gd.out
 have e4 : (z == 4) = false := by simp [z5]
 have L5 : ¬ z < 4 := z4
 go_wp2_with fail
 refine (Uc n1 HS.out (by omega) (by omega)).mono ?_;rintro e w9 ⟨g, bs, rfl, eC, bk, ho, jH, hs, jj, cA⟩;have HO := hid ho;have cx := hid hs;have cM := hid (HB.out.kept cA (fun e => by omega));have gy := hid (HK.out.trans cA);have nv := (ho.lt g rfl).2;have zu : X < w9.heap.size := cM.out.lt
 have vN : X ≤ g := by have := HB.out.lt; omega
 have vA : ¬ g = X := fun e => by have := HB.out.lt; omega
 clear ho hs cA HS HB HK jj;obtain ⟨r0, r1⟩ := cM.out.all2;have fr := cM.out.frozen;have aX : Kept (fun b => b = X) w9 ((w9.setCell ⟨X, 0, none⟩ (.bool true)).setCell ⟨X, 1, none⟩ (Q3 g n1 n1)) := ((Kept.refl (fun b => b = X) w9).setCell (p := ⟨X, 0, none⟩) (.inr rfl) _).setCell (p := ⟨X, 1, none⟩) (.inr rfl) _
 have gd := (show Hid (jcV w0 w ((w9.setCell ⟨X, 0, none⟩ (.bool true)).setCell ⟨X, 1, none⟩ (Q3 g n1 n1)) (.returned (.agg #[.bool true, Q3 g n1 n1])) B v cs k size) from ⟨true, some ⟨g, 0, none⟩, n1, bs, _, by rw [eC], by omega, bk, by
  rw [eC]
  exact Own.low (HO.out.kept aX (fun b hb e => by have e1 : g = b := (by simpa [Value.ownBlock] using hb); omega)), by
  rw [eC];intro b hb;have e1 : g = b := (by simpa [Value.ownBlock] using hb);subst e1
  exact ⟨by have := HX.out; omega, jH⟩, by omega, cx.out.on aX (fun e => by omega) (fun i hi e => by omega), gy.out.next aX (fun i hi e => by have := HX.out; omega)⟩)
 have fp := hid ((cM.out.stored 0 (.bool true)).stored 1 (Q3 g n1 n1));clear aX;go_wp2;generalize (w9.setCell ⟨X, 0, none⟩ (.bool true)).setCell ⟨X, 1, none⟩ (Q3 g n1 n1) = wz at *;obtain ⟨x0, x1⟩ := fp.out.all2;exact bodyPost_ret (v := .agg #[.bool true, Q3 g n1 n1]) (by simp [results, Tryz.results85, go_sem, x0, x1]) rfl gd.out
def RcT (r : StLogRecord) : Prop := (r.txns.e = 79 ∨ r.txns.a = none) ∧ (r.dirty.e = 81 ∨ r.dirty.a = none) ∧ (r.image.e = 5 ∨ r.image.a = none)
def RcR (w0 w w' : World) (e : Ending) (B : Nat) (v : Value) (cs : List Int) (k : Nat) (size : Int) (n : Nat) : Prop :=
 ∃ (y : StLogRecord) (k' : Nat), e = .returned y.val ∧ (IsB y.before.data.bs ∧ IsB y.after.data.bs ∧ IsB y.image.bs ∧ RcT y) ∧ y.szs ≤ 5000 ∧ OwnL w' y.rows ∧ (∀ b, O6 y.rows b → w.heap.size ≤ b ∧ ¬ b = B) ∧ k' ≤ k + n ∧ SrcR w0 w' B v cs k' size ∧ Kept (fun b => b = B) w w'
def jeU (txn prev page slot : Int) (bu : Bool) (ba : Option Addr) (bc : Nat) (bd : List Int) (au : Bool) (aa : Option Addr) (ac : Nat) (ad : List Int) : StLogRecord := ⟨1, txn, prev, page, slot, ⟨bu, ⟨5, ba, bc, bd⟩⟩, ⟨au, ⟨5, aa, ac, ad⟩⟩, 0, 0, ⟨79, none, 0, 0, []⟩, ⟨81, none, 0, 0, []⟩, ⟨5, none, 0, []⟩⟩
def jbV (txn prev page slot : Int) (bu : Bool) (ba : Option Addr) (bc : Nat) (bd : List Int) (au : Bool) (aa : Option Addr) (ac : Nat) (ad : List Int) : List Value := [Q1 1, Q1 txn, Q1 prev, Q1 page, Q1 slot, .bool bu, .slice ba bd.length bc, .bool au, .slice aa ad.length ac, Q1 0, Q1 0, Q4, Q4, Q4]
theorem UL {fn : Func} {p : Tmp} {ty : TypeId} {tmps : Array Value} {P : Program} {w : World} {Z : Nat} {cs : List Value} {d : TypeDesc} (h : fn.results = #[.cell p ty]) (hp : tmps.getD p undef = Q2 Z 0) (hc : w.rangeAt Z 0 cs)
  (hu : P.underlying ty = some d) (hd : d.isRow = true) (hi : (P.info? ty).map (·.size) = some cs.length) : (results fn tmps).run P w = .ok (.agg cs.toArray) w := by
 rw [Array.getD_eq_getD_getElem?] at hp;simp only [results, h];simp [Sem.run_bind, Result.andThen, hp, asAddr, run_loadVar_mid w Z 0 ty cs d hc hu hd hi]
theorem Qd (m : Nat) (e : TypeId) (w : World) : OwnL w (FR.rows m ⟨e, none, 0, 0, []⟩) :=
 ⟨fun r hr => by rw [List.mem_singleton.1 hr]; exact ⟨by simp [vals], .inl ⟨rfl, rfl⟩⟩, List.pairwise_singleton _ _⟩
def jgg (v : Value) : Prop := ∃ b : Bool, v = .bool b
def UpI (w0 w : World) (B X Y : Nat) (v : Value) (cs : List Int) (k : Nat) (size z1 z2 z3 : Int) (bu : Bool) (ba : Option Addr) (bc : Nat) (bd : List Int) (aa : Option Addr) (ac : Nat) (ad : List Int) (n : Nat) (wx : World) : Prop :=
 ∃ (prev : Int) (au : Bool) (k' : Nat), Blk wx Y 28 (jbV z1 prev z2 z3 bu ba bc bd au aa ac ad) ∧ Blk wx X 28 [Q1 0, Q1 0, Q1 0, Q1 0, Q1 0, .bool false, Q4, .bool false, Q4, Q1 0, Q1 0, Q4, Q4, Q4] ∧ SrcR w0 wx B v cs k' size ∧ k' ≤ k + n ∧ Own 0 5 .u8 wx (.slice ba bd.length bc) bd ∧ Own 0 5 .u8 wx (.slice aa ad.length ac) ad ∧ Kept (fun b => b = B) w wx
theorem jfw {w0 w : World} {B : Nat} {v : Value} {cs : List Int} {k : Nat} {size : Int} (h : SrcR w0 w B v cs k size) (hk : k ≤ 1073741000) :
  Calls Tryz.prog 89 #[Q2 B 0] w fun e w' => RcR w0 w w' e B v cs k size 40 := by
 have b0 := Blk.new w #[Q1 0, Q1 0, Q1 0, Q1 0, Q1 0, .bool false, Q4, .bool false, Q4, Q1 0, Q1 0, Q4, Q4, Q4] 28;have eT := h.lt;have gU := h.kept.size;have aW : Same w (w.alloc (.cells #[Q1 0, Q1 0, Q1 0, Q1 0, Q1 0, .bool false, Q4, .bool false, Q4, Q1 0, Q1 0, Q4, Q4, Q4] 28)) := kZ0.alloc _;have HS := hid (h.same aW);clear h
 go_enter Tryz.func89, Tryz.ntmps89
 go_upto_region 1 with fail
 obtain ⟨X, hX⟩ : ∃ X, w.heap.size = X := ⟨_, rfl⟩;have HX := hid hX;rw [hX] at b0 eT gU;generalize fG : w.alloc (.cells #[Q1 0, Q1 0, Q1 0, Q1 0, Q1 0, .bool false, Q4, .bool false, Q4, Q1 0, Q1 0, Q4, Q4, Q4] 28) = w1 at *;have HK := hid (aW.mono (R' := fun b => b = B) (fun _ _ e => e.elim));have HB := hid b0;rw [hX];clear aW b0 hX fG
 go_wp2_with fail
 refine (Pd 9 HS.out (by omega) (by constructor <;> decide)).mono ?_;rintro e w2 ⟨z1, rfl, hd, aT, aQ⟩;have cH := hid (HB.out.kept aQ (fun e => by omega));have cF := hid (HK.out.trans aQ);clear HS HB HK;have HS := hid aT;have HB := cH;have HK := cF;have KY := aQ.size;have ML := HB.out.lt;obtain ⟨i7, iT⟩ := hd.2 (by decide);clear hd;clear aT aQ cH cF
 go_wp2_with fail
 refine (Pd 4 HS.out (by omega) (by constructor <;> decide)).mono ?_;rintro e w3 ⟨z2, rfl, hd, aT, aQ⟩;have cH := hid (HB.out.kept aQ (fun e => by omega));have cF := hid (HK.out.trans aQ);clear HS HB HK;have HS := hid aT;have HB := cH;have HK := cF;have Je := aQ.size;have KA := HB.out.lt;obtain ⟨lF, lJ⟩ := hd.2 (by decide);clear hd;clear aT aQ cH cF
 go_wp2_with fail
 refine (Pd 6 HS.out (by omega) (by constructor <;> decide)).mono ?_;rintro e w4 ⟨z3, rfl, hd, aT, aQ⟩;have cH := hid (HB.out.kept aQ (fun e => by omega));have cF := hid (HK.out.trans aQ);clear HS HB HK;have HS := hid aT;have HB := cH;have HK := cF;have Jj := aQ.size;have L8 := HB.out.lt;obtain ⟨oQ, oY⟩ := hd.2 (by decide);clear hd;clear aT aQ cH cF
 go_wp2_with fail
 refine (ja8 HS.out (by omega)).mono ?_;rintro e w5 ⟨bu, ba, bc, bd, kb, rfl, uc, bk, ho, hf, M9, aT, aQ⟩;have cH := hid (HB.out.kept aQ (fun e => by omega));have cF := hid (HK.out.trans aQ);clear HS HB HK;have HS := hid aT;have HB := cH;have HK := cF;have K8 := aQ.size;have Lv := HB.out.lt;have kA := hid ho;have nO := (show Hid (∀ b, (Value.slice ba bd.length bc).ownBlock = some b → X ≤ b ∧ ¬ b = B ∧ w4.heap.size ≤ b ∧ b < w5.heap.size) from fun b hb => by have h1 := hf b hb; have h2 := (ho.lt b hb).2; have h3 := HX.out; omega);have J2 := hid bk;clear ho hf bk;clear aT aQ cH cF
 go_wp2_with fail
 refine (ja8 HS.out (by omega)).mono ?_;rintro e w6 ⟨au, aa, ac, ad, ka, rfl, Hd, ja, ho, hf, BU, aT, aQ⟩;have cH := hid (HB.out.kept aQ (fun e => by omega));have cF := hid (HK.out.trans aQ);have yQ := hid (kA.out.kept aQ (fun b hb e => by have := nO.out b hb; omega));clear HS HB HK kA;have HS := hid aT;have HB := cH;have HK := cF;have kA := yQ;have L6 := aQ.size;have KP := HB.out.lt;have mT := hid ho;have oN := (show Hid (∀ b, (Value.slice aa ad.length ac).ownBlock = some b → X ≤ b ∧ ¬ b = B ∧ w5.heap.size ≤ b ∧ b < w6.heap.size) from fun b hb => by have h1 := hf b hb; have h2 := (ho.lt b hb).2; have h3 := HX.out; omega);have KU := hid ja;clear ho hf ja;clear aT aQ cH cF yQ;obtain ⟨mf, KG⟩ : ∃ z, 1 + z1 = z := ⟨_, rfl⟩
 have cU : IntKind.i64.wrap mf = mf := by rw [IntKind.wrap_i64]; omega
 have Jr := HB.out.lt;have vS := HX.out
 have dH : ¬ w6.heap.size = B := by omega
 have tW : ¬ w6.heap.size = X := by omega
 have dk : Same w6 (w6.alloc (.cells (jbV mf 0 z2 z3 bu ba bc bd au aa ac ad).toArray 28)) := kZ0.alloc _;have fD : Hid (UpI w0 w B X w6.heap.size v cs k size mf z2 z3 bu ba bc bd aa ac ad 20 (w6.alloc (.cells (jbV mf 0 z2 z3 bu ba bc bd au aa ac ad).toArray 28))) := ⟨0, au, _, Blk.newL _ _ _, HB.out.same dk, HS.out.same dk, by omega, kA.out.same dk, mT.out.same dk, HK.out.next dk (fun i hi e => e.elim)⟩;have kI : Hid ((∀ b, (Value.slice ba bd.length bc).ownBlock = some b → X ≤ b ∧ ¬ b = B ∧ b < w6.heap.size) ∧ (∀ b, (Value.slice aa ad.length ac).ownBlock = some b → X ≤ b ∧ ¬ b = B ∧ b < w6.heap.size) ∧ (∀ b, (Value.slice ba bd.length bc).ownBlock = some b → ¬ (Value.slice aa ad.length ac).ownBlock = some b) ∧ (∀ b, (Value.slice ba bd.length bc).ownBlock = some b → ¬ b = X) ∧ ∀ b, (Value.slice aa ad.length ac).ownBlock = some b → ¬ b = X) := ⟨fun b hb => by have := nO.out b hb; omega, fun b hb => by have := oN.out b hb; omega, fun b hb h => by have h1 := nO.out b hb; have h2 := oN.out b h; omega, fun b hb e => by have := nO.out b hb; have h2 := HB.out.lt; omega, fun b hb e => by have := oN.out b hb; omega⟩;clear dk HB HS HK kA mT nO oN M9 BU;unfold jbV at fD;dsimp only [List.toArray] at fD;obtain ⟨Y, hY⟩ : ∃ Y, w6.heap.size = Y := ⟨_, rfl⟩;have BN : X < w6.heap.size := Jr;rw [hY] at fD kI dH tW BN;clear vS;have HY := hid hY;clear hY
 go_upto_region 2 with fail
 rw [HY.out];generalize World.alloc w6 _ = w7 at fD ⊢;clear HY;obtain ⟨prev, Iv, k7, oq, oe, hS, cL, qd, rk, hK⟩ := fD.out;clear fD;have eK := hid oq;have gE := hid oe;have HS := hid hS;have kA := hid qd;have mT := hid rk;have HK := hid hK;clear oq oe hS qd rk hK
 go_wp2_with fail
 refine (SA 2 HS.out (by omega) (by constructor <;> decide)).mono ?_;rintro ex w8 ⟨ch, rfl, hs, fo⟩;have oG := hid hs;have sE := hid (eK.out.kept fo dH);have r9 := hid (gE.out.kept fo (by omega));have sW := hid (kA.out.kept fo (fun b hb e => (kI.out.1 b hb).2.1 e));have sK := hid (mT.out.kept fo (fun b hb e => (kI.out.2.1 b hb).2.1 e));have dG := hid (HK.out.trans fo);clear hs fo HS eK gE kA mT HK
 go_upto_if 17 with fail
 go_cut [3] (fun x wx => x = Q2 Y 0 ∧ Hid (UpI w0 w B X Y v cs k size mf z2 z3 bu ba bc bd aa ac ad 24 wx))
 case first =>
  cases ch
  case false =>
   go_wp2_with fail
   go_meet
   case rel => exact ⟨rfl, prev, Iv, _, sE.out, r9.out, oG.out, by omega, sW.out, sK.out, dG.out⟩
  go_wp2_with fail
  refine (TS oG.out (by omega)).mono ?_;rintro ex w9 ⟨r, rfl, du, aS, hs, cA⟩;have tK := hid (sE.out.kept cA dH);have c2 : w9.cell? ⟨Y, 2, none⟩ = some (Q1 prev) := tK.out.cell 2;have fy := tK.out.frozen;have aX : Kept (fun b => b = Y) w9 (w9.setCell ⟨Y, 2, none⟩ (Q1 r)) := Kept.setCell (R := fun b => b = Y) kZ0 (p := ⟨Y, 2, none⟩) (.inr rfl) _;have HE : Hid (UpI w0 w B X Y v cs k size mf z2 z3 bu ba bc bd aa ac ad 24 (w9.setCell ⟨Y, 2, none⟩ (Q1 r))) := ⟨r, Iv, _, tK.out.stored 2 _, (r9.out.kept cA (by omega)).kept aX (fun e => tW e.symm), hs.on aX (fun e => dH e.symm) (fun i hi e => by have e' : i = Y := e; have := HX.out; omega), by omega, (sW.out.kept cA (fun b hb e => (kI.out.1 b hb).2.1 e)).kept aX (fun b hb e => by have e' : b = Y := e; have := (kI.out.1 b hb).2.2; omega), (sK.out.kept cA (fun b hb e => (kI.out.2.1 b hb).2.1 e)).kept aX (fun b hb e => by have e' : b = Y := e; have := (kI.out.2.1 b hb).2.2; omega), (dG.out.trans cA).next aX (fun i hi e => by have e' : i = Y := e; have := HX.out; omega)⟩;clear hs cA aX
  go_wp2_with fail
  generalize w9.setCell ⟨Y, 2, none⟩ (Q1 r) = mQ at HE ⊢
  go_meet
  case rel => exact ⟨rfl, HE⟩
 case rest =>
 obtain ⟨rfl, fD⟩ := hcut;clear oG sE r9 sW sK dG;obtain ⟨rA, vL⟩ : ∃ z, wc = z := ⟨_, rfl⟩;rw [vL] at fD ⊢;clear vL
 rename_i Oo _
 obtain ⟨prev, au, k7, oq, oe, hS, cL, qd, rk, hK⟩ := fD.out;clear fD;have eK := hid oq;have gE := hid oe;have HS := hid hS;have kA := hid qd;have mT := hid rk;have HK := hid hK;clear oq oe hS qd rk hK;have c5 : rA.cell? ⟨Y, 5, none⟩ = some (.bool bu) := eK.out.cell 5;have c7 : rA.cell? ⟨Y, 7, none⟩ = some (.bool au) := eK.out.cell 7;have fy := eK.out.frozen
 go_upto_region 4 with fail
 go_cut [30] (fun x wx => Hid (jgg x) ∧ rA = wx)
 case first =>
  cases bu <;> cases au
  all_goals
   go_wp2_with fail
   go_meet
   case rel => exact ⟨⟨_, rfl⟩, rfl⟩
 case rest =>
 obtain ⟨⟨Me, rfl⟩, rfl⟩ := hcut;clear c5
 go_upto_if 30 with fail
 go_cut [3] (fun x wx => x = Q2 Y 0 ∧ Hid (UpI w0 w B X Y v cs k size mf z2 z3 bu ba bc bd aa ac ad 24 wx))
 case first =>
  have uK : Hid (UpI w0 w B X Y v cs k size mf z2 z3 bu ba bc bd aa ac ad 24 rA) := ⟨prev, au, _, eK.out, gE.out, HS.out, cL, kA.out, mT.out, HK.out⟩;have aX : Kept (fun b => b = Y) rA (rA.setCell ⟨Y, 7, none⟩ (.bool true)) := Kept.setCell (R := fun b => b = Y) kZ0 (p := ⟨Y, 7, none⟩) (.inr rfl) _;have HE : Hid (UpI w0 w B X Y v cs k size mf z2 z3 bu ba bc bd aa ac ad 24 (rA.setCell ⟨Y, 7, none⟩ (.bool true))) := ⟨prev, true, _, eK.out.stored 7 _, gE.out.kept aX (fun e => tW e.symm), HS.out.on aX (fun e => dH e.symm) (fun i hi e => by have e' : i = Y := e; have := HX.out; omega), cL, kA.out.kept aX (fun b hb e => by have e' : b = Y := e; have := (kI.out.1 b hb).2.2; omega), mT.out.kept aX (fun b hb e => by have e' : b = Y := e; have := (kI.out.2.1 b hb).2.2; omega), HK.out.next aX (fun i hi e => by have e' : i = Y := e; have := HX.out; omega)⟩;clear aX
  cases Me
  all_goals
   go_wp2_with fail
   try generalize rA.setCell ⟨Y, 7, none⟩ (.bool true) = mQ at HE ⊢
   go_meet
   case rel => first | exact ⟨rfl, HE⟩ | exact ⟨rfl, uK⟩
 case rest =>
 obtain ⟨rfl, fD⟩ := hcut;clear eK gE HS kA mT HK c7 fy
 rename_i Nm _
 obtain ⟨prev, au, k7, oq, oe, hS, cL, qd, rk, hK⟩ := fD.out;clear fD;have eK := hid oq;have gE := hid oe;have HS := hid hS;have kA := hid qd;have mT := hid rk;have HK := hid hK;clear oq oe hS qd rk hK;obtain ⟨cl, gA⟩ : ∃ z, jbV mf prev z2 z3 bu ba bc bd au aa ac ad = z := ⟨_, rfl⟩;have lH := hid gA
 have lp : Hid (cl.length = 14) := by unfold Hid; rw [← gA]; rfl
 have DZ : Hid (cl.toArray.all (·.oneCell') = true) := by unfold Hid; rw [← gA]; simp [jbV, Value.oneCell']
 rw [gA] at eK;clear gA;have eo := hid (gE.out.there 0 cl.toArray.size (by rw [List.size_toArray, lp.out]; exact Nat.le_refl 14))
 go_wp2_with (first | (refine wpList_load_mid rfl 28 _ rfl Y 0 rfl cl _ eK.out.rangeAll Tryz.underlying28 rfl (by rw [lp.out]; kernel_rfl) ?_) | (refine wpList_store_mid rfl 28 _ _ rfl X 0 cl.toArray rfl rfl eo.out (by rw [List.size_toArray, lp.out]; kernel_rfl) DZ.out ?_; rw [List.toList_toArray]))
 have aX : Kept (fun b => b = X) wc (wc.setCells X 0 cl) := Kept.setCells (R := fun b => b = X) (.inr rfl) _ _ kZ0
 have vZ : Blk (wc.setCells X 0 cl) X 28 cl := by
  have h1 := gE.out.setCells cl 0 (by rw [lp.out]; exact Nat.le_refl 14)
  rwa [lay_all _ _ (by rw [lp.out]; rfl)] at h1
 generalize wc.setCells X 0 cl = wz at aX vZ ⊢;refine bodyPost_ret (v := .agg cl.toArray) (UL Tryz.results89 rfl vZ.rangeAll Tryz.underlying28 rfl (by rw [lp.out]; kernel_rfl)) rfl ?_;have vS := HX.out;have dL := kA.out.kept aX (fun b hb e => kI.out.2.2.2.1 b hb e);have eZ := mT.out.kept aX (fun b hb e => kI.out.2.2.2.2 b hb e)
 have fB : ∀ b, ¬ O6 [ints 5 .u8 (Q4) []] b := fun b h => by have h := (Pv _ _ _ _ _).1 h; simp [Value.ownBlock] at h
 have fF : ∀ (m : Nat) (t : TypeId) (b : Nat), ¬ O6 (FR.rows m ⟨t, none, 0, 0, []⟩) b := fun m t b h => by have h := (PD _ _).1 h; simp [FR.v, Value.ownBlock] at h
 have fT : ∀ b, ¬ O6 (FR.rows 4 ⟨79, none, 0, 0, []⟩ ++ (FR.rows 2 ⟨81, none, 0, 0, []⟩ ++ [ints 5 .u8 (Q4) []])) b := fun b h => by
  rcases (OX _ _ _).1 h with h | h
  ·exact fF _ _ _ h
  rcases (OX _ _ _).1 h with h | h
  ·exact fF _ _ _ h
  ·exact fB _ h
 refine ⟨jeU mf prev z2 z3 bu ba bc bd au aa ac ad, k7, by rw [← lH.out]; rfl, ⟨J2.out, KU.out, fun x hx => by simp [jeU] at hx, .inl rfl, .inl rfl, .inl rfl⟩, ?_, ?_, ?_, by omega, HS.out.on aX (fun e => by omega) (fun i hi e => by have e' : i = X := e; omega), HK.out.next aX (fun i hi e => by have e' : i = X := e; omega)⟩
 ·simp only [StLogRecord.szs, StPageRecord.szs, jeU, List.length_nil]
  omega
 ·exact (OwnL.one dL).append ((OwnL.one eZ).append ((Qd 4 _ wz).append ((Qd 2 _ wz).append (OwnL.one (Own.nil 0 _ .u8 _)) (fun b h => (fF _ _ _ h).elim)) (fun b h => (fF _ _ _ h).elim)) (fun b _ e => fT b e)) (fun b hb e => by
   rcases (OX _ _ _).1 e with e | e
   ·exact kI.out.2.2.1 b ((Pv _ _ _ _ _).1 hb) ((Pv _ _ _ _ _).1 e)
   ·exact fT b e)
 ·intro b hb
  rcases (OX _ _ _).1 hb with hb | hb
  ·have := kI.out.1 b ((Pv _ _ _ _ _).1 hb); omega
  rcases (OX _ _ _).1 hb with hb | hb
  ·have := kI.out.2.1 b ((Pv _ _ _ _ _).1 hb); omega
  ·exact absurd hb (fT b)
structure StLog where
 sectors : Int
 epoch : Int
 stop : Int
 flushed : Int
 tail : BS
def StLog.val (x : StLog) : Value := .agg #[Q1 x.sectors, Q1 x.epoch, Q1 x.stop, Q1 x.flushed, x.tail.v]
def StLog.rows (x : StLog) : List Row := x.tail.rows
def StLog.dat (x : StLog) : Int × Int × Int × Int × List Int := (x.sectors, x.epoch, x.stop, x.flushed, x.tail.bs)
def StLog.size (x : StLog) : Int := (x.tail.bs.length : Int)
def StLog.marked (x : StLog) (k : Int) : StLog := ⟨x.sectors, x.epoch, x.stop, x.flushed, x.tail.marked (k)⟩
def StLog.rd (w : World) (x : StLog) : Prop := Rd .u8 w x.tail.v x.tail.bs
theorem StLog.rd.kept {R : Nat → Prop} {w w' : World} {x : StLog} (h : StLog.rd w x) (hk : Kept R w w') (hr : ∀ b, O6 x.rows b → ¬ R b) : StLog.rd w' x :=
 Rd.kept (h) hk (fun b hb => hr b (((Pv _ _ _ _ _).2 hb)))
theorem StLog.rd.same {w w' : World} {x : StLog} (h : StLog.rd w x) (hk : Same w w') : StLog.rd w' x := h.kept hk (fun _ _ => id)
theorem StLog.own_rd {w : World} {x : StLog} (h : OwnL w x.rows) : StLog.rd w x :=
 (OwnL.of_one h).rd
def StLog.szs (x : StLog) : Int := (x.tail.bs.length : Int)
structure StAppendResult where
 code : Int
 lsn : Int
 log : StLog
def StAppendResult.val (x : StAppendResult) : Value := .agg #[Q1 x.code, Q1 x.lsn, Q1 x.log.sectors, Q1 x.log.epoch, Q1 x.log.stop, Q1 x.log.flushed, x.log.tail.v]
def StAppendResult.rows (x : StAppendResult) : List Row := x.log.rows
def StAppendResult.dat (x : StAppendResult) : Int × Int × (Int × Int × Int × Int × List Int) := (x.code, x.lsn, x.log.dat)
def StAppendResult.size (x : StAppendResult) : Int := x.log.size
def StAppendResult.marked (x : StAppendResult) (k : Int) : StAppendResult := ⟨x.code, x.lsn, x.log.marked (k)⟩
def StAppendResult.rd (w : World) (x : StAppendResult) : Prop := StLog.rd w x.log
theorem StAppendResult.rd.kept {R : Nat → Prop} {w w' : World} {x : StAppendResult} (h : StAppendResult.rd w x) (hk : Kept R w w') (hr : ∀ b, O6 x.rows b → ¬ R b) : StAppendResult.rd w' x :=
 StLog.rd.kept (h) hk (fun b hb => hr b (hb))
theorem StAppendResult.rd.same {w w' : World} {x : StAppendResult} (h : StAppendResult.rd w x) (hk : Same w w') : StAppendResult.rd w' x := h.kept hk (fun _ _ => id)
theorem StAppendResult.own_rd {w : World} {x : StAppendResult} (h : OwnL w x.rows) : StAppendResult.rd w x :=
 (StLog.own_rd h)
def StAppendResult.szs (x : StAppendResult) : Int := x.log.szs
def StLog.isB (x : StLog) : Prop := IsB x.tail.bs
def RcB (r : StLogRecord) : Prop := (IsB r.before.data.bs ∧ IsB r.after.data.bs ∧ IsB r.image.bs ∧ RcT r) ∧ r.szs ≤ 5000
section
variable {lo B H : Nat} {x : StLog} {fa : Option Addr} {fn fc : Nat} {qs : List StLogFrame} {g1 g2 g3 : Nat} {l1 l2 l3 : List Int} {w w' : World}
end
section
variable {lo B H : Nat} {x : StLog} {fa : Option Addr} {fn fc : Nat} {qs : List StLogFrame} {g1 g2 g3 : Nat} {l1 l2 l3 : List Int} {w w' : World}
end
theorem Blk.front {w : World} {b : Nat} {e : TypeId} {xs ys : List Value} (h : Blk w b e (xs ++ ys)) : w.rangeAt b 0 xs := h.range 0 xs (fun j v hv => by rw [Nat.zero_add, List.getElem?_append_left (List.getElem?_eq_some_iff.1 hv).1]; exact hv)
def StAppendResult.cls (x : StAppendResult) : List Value := [Q1 x.code, Q1 x.lsn, Q1 x.log.sectors, Q1 x.log.epoch, Q1 x.log.stop, Q1 x.log.flushed, x.log.tail.v]
section
variable {lo B H : Nat} {x : StLog} {fa : Option Addr} {fn fc : Nat} {qs : List StLogFrame} {g1 g2 g3 : Nat} {l1 l2 l3 : List Int} {w w' : World}
def FrH (w : World) (b off : Nat) (ps : List StLogFrame) : Prop := ∀ j i, (h : j < ps.length) → i < 16 → w.cell? ⟨b, off + (j * 16 + i), none⟩ = (kFr.cells ps[j])[i]?
theorem FrH.lsn {b off : Nat} {ps : List StLogFrame} (h : FrH w b off ps) (k : Nat) (hk : k < ps.length) : w.cell? ⟨b, off + k * 16, none⟩ = some (Q1 ps[k].lsn) := by
 have := h k 0 hk (by omega)
 simpa [kFr, StLogFrame.cells] using this
def O8 (r : StLogRecord) : List Value := [Q1 r.kind, Q1 r.txn, Q1 r.prev, Q1 r.page, Q1 r.slot, .bool r.before.used, r.before.data.v, .bool r.after.used, r.after.data.v, Q1 r.uN, Q1 r.nT, r.txns.v, r.dirty.v, r.image.v]
theorem PG (r : StLogRecord) : (O8 r).toArray.all (·.oneCell') = true := all_oneCell_toArray (fun v hv => by
 simp only [O8, List.mem_cons, List.not_mem_nil, or_false] at hv
 rcases hv with rfl | rfl | rfl | rfl | rfl | rfl | rfl | rfl | rfl | rfl | rfl | rfl | rfl | rfl <;> rfl)
end
section
variable {w0 w wr wx : World} {lo B H : Nat} {v : Value} {cs : List Int} {k k' : Nat} {size : Int} {x : StLog} {fa : Option Addr} {fn fc : Nat} {qs : List StLogFrame} {g1 g2 g3 : Nat} {l1 l2 l3 : List Int}
theorem U6 (w : World) (zs cs : List Value) (e : TypeId) (hl : zs.length = cs.length) : Blk ((w.alloc (.cells zs.toArray e)).setCells w.heap.size 0 cs) w.heap.size e cs ∧ Same w ((w.alloc (.cells zs.toArray e)).setCells w.heap.size 0 cs) := by
 have aW : Same w (w.alloc (.cells zs.toArray e)) := kZ0.alloc _;refine ⟨?_, aW.next (Kept.setCells (R := fun b => b = w.heap.size) (.inr rfl) _ _ kZ0) (fun i hi e => by have e' : i = w.heap.size := e; omega)⟩;have h1 := (Blk.newL w zs e).setCells cs 0 (by rw [hl]; exact Nat.le_of_eq (Nat.zero_add _))
 rwa [lay_all _ _ hl.symm] at h1
end
theorem Q6 {P : Program} {o : Oper} {ev : Operand → Value} {ty : TypeId} {x : Operand} {b off : Nat} {cs : List Value} {d : TypeDesc} {w : World} (ho : o.op = .load ty x) (hx : ev x = .pointer (some ⟨b, off, none⟩)) (hc : w.rangeAt b off cs)
  (hu : P.underlying ty = some d) (hd : d.isRow = true) (hi : (P.info? ty).map (·.size) = some cs.length) : (execOp ev o).run P w = .ok (.value (.agg cs.toArray)) w := by
 unfold execOp;simp only [ho, hx, Instr.loadAt, Instr.sureAddr, Sem.run_bind, Sem.run_pure, Result.andThen_ok, run_loadVar_mid w b off ty cs d hc hu hd hi]
section
variable {P : Program} {md : Region.Mode} {bf : Array Oper} {Q : Exit → Act → World → Prop} {S : World → Prop} {s : Nat}
theorem tkE (i : Nat) {o : Oper} {fuel : Nat} {listed : Array Bool} {a : Act} {a' : Value → Act} {w w7 : World} {f : Nat} {args : Array Value} {A : World → Value → World → Prop}
  (kc : ∀ wx, Same w7 wx → Calls P f args wx fun e w' => ∃ v, e = .returned v ∧ A wx v w' ∧ Same wx w') (aR : ∀ wx, Same w7 wx → S wx) (hq : Same w7 w)
  (h : ∀ v wq, A w v wq → Same w7 wq → S wq → QA P md bf Q S s fuel (listed.setIfInBounds i true) (a' v) wq)
  (hr : Region.ready md bf listed = [i] := by kernel_rfl) (ho : bf[i]? = some o := by rfl) (hg : Region.wanted o (yielded bf a.tmps) = true := by rfl)
  (hc : (Calls P f args w fun e w' => ∃ v, e = .returned v ∧ A w v w' ∧ Same w w') → ∀ K' : Act → World → Prop, (∀ v wq, A w v wq → Same w wq → K' (a' v) wq) → Oper.wp P o a w K' Q := by
   intro kk K' hK; go_simp; with_reducible refine kk.mono ?_; rintro e wq ⟨v, rfl, hA, ai⟩; exact hK v _ hA ai) : QA P md bf Q S s (fuel + 1) listed a w := by
 refine OV hr ho (fun K' hK => ?_);rw [if_pos hg];exact hc (kc w hq) K' (fun v wq hA ai => hK.out _ _ (fun _ => aR _ (hq.trans ai)) (h v wq hA (hq.trans ai) (aR _ (hq.trans ai))))
end
theorem Yj {x : StLogRecord} (h : x.isB) : IsB (P8 x.dat) := by
 by_cases hz : O9 x.dat = 0
 ·rw [P9 hz]
  exact Sk h hz
 ·rw [show P8 x.dat = [] from by unfold P8; rw [if_pos (by simpa using hz)]]
  exact ja2
theorem ZW (x y : StLogRecord) (w : World) (EL : x.isB) (Gs : x.szs ≤ 1073741824) (Hc : StLogRecord.rd w x) (GR : y.isB) (F8 : y.szs ≤ 1073741824) (GZ : StLogRecord.rd w y) (hd : x.dat = y.dat) :
  Calls Tryz.prog 8 #[x.val, y.val] w fun e w' => e = .returned (.bool true) ∧ Same w w' := by
 have IZ : x.val = .agg (O8 x).toArray := rfl;have I6 : y.val = .agg (O8 y).toArray := rfl;have kE : ∀ wx, Same w wx → Calls Tryz.prog 37 #[.agg (O8 x).toArray] wx fun e w' => ∃ v, e = .returned v ∧ Own 0 5 .u8 w' v (P8 x.dat) ∧ Same wx w' := fun wx hx => (Rz x wx EL Gs (Hc.same hx)).mono (fun e w' ⟨a, c, h1, _, h2, h3⟩ => ⟨_, h1, h2, h3⟩)
 have kF : ∀ wx, Same w wx → Calls Tryz.prog 37 #[.agg (O8 y).toArray] wx fun e w' => ∃ v, e = .returned v ∧ Own 0 5 .u8 w' v (P8 x.dat) ∧ Same wx w' := fun wx hx => (Rz y wx GR F8 (GZ.same hx)).mono (fun e w' ⟨a, c, h1, _, h2, h3⟩ => ⟨_, h1, by rw [hd]; exact h2, h3⟩)
 have hB : IsB (P8 x.dat) := Yj EL;have Fy : (O8 x).length = 14 := rfl;have G6 : (O8 y).length = 14 := rfl;have Ga : (O8 x)[0]? = some (Q1 x.kind) := rfl
 have GY : (O8 y)[0]? = some (Q1 x.kind) := by rw [show x.kind = y.kind from congrArg Prod.fst hd]; rfl
 rw [IZ, I6];generalize O8 x = cs at *;generalize O8 y = ds at *;generalize P8 x.dat = E at *;generalize x.kind = kd at *;clear EL Gs Hc GR F8 GZ hd IZ I6
 have hI : (Tryz.prog.info? 28).map (·.size) = some 14 := by kernel_rfl
 have HI := (show Hid ((Tryz.prog.info? 28).map (·.size) = some cs.length) by unfold Hid; rw [Fy]; exact hI);have HJ := (show Hid ((Tryz.prog.info? 28).map (·.size) = some ds.length) by unfold Hid; rw [G6]; exact hI);have HB := hid hB;have G4 := Blk.newL w cs 28;have ah : Same w (w.alloc (.cells cs.toArray 28)) := kZ0.alloc _;have Dy := Blk.newL (w.alloc (.cells cs.toArray 28)) ds 28;have aj : Same (w.alloc (.cells cs.toArray 28)) ((w.alloc (.cells cs.toArray 28)).alloc (.cells ds.toArray 28)) := kZ0.alloc _;have hs : (w.alloc (.cells cs.toArray 28)).heap.size = w.heap.size + 1 := Array.size_push _;rw [hs] at Dy;have HX := hid (G4.same aj);have HY := hid Dy;have HK := hid (ah.trans aj);have JS := hid Ga;have MA := hid GY;have HS := hid hs;clear G4 Dy ah aj hI Fy G6 Ga GY hB hs
 go_enter Tryz.func8, Tryz.ntmps8
 go_upto_region 1 with fail
 try rw [HS.out]
 generalize (w.alloc (.cells cs.toArray 28)).alloc (.cells ds.toArray 28) = w1 at HX HY HK ⊢;obtain ⟨X, hX⟩ : ∃ X, w.heap.size = X := ⟨_, rfl⟩;obtain ⟨Y, hY⟩ : ∃ Y, w.heap.size + 1 = Y := ⟨_, rfl⟩;rw [hY] at HY ⊢;rw [hX] at HX ⊢;clear hX hY HS;have oe := HX.out;refine O0 (fun wx : World => Blk wx X 28 cs ∧ Blk wx Y 28 ds ∧ D0 wx X 0 (Q1 kd) ∧ D0 wx Y 0 (Q1 kd)) 99 13 ?_;have HV : Hid (Same w1 w1.drew) := kZ0.drew;have HA := hid HX.out;have HG := (show Hid (∀ wx, Same w1 wx → (Blk wx X 28 cs ∧ Blk wx Y 28 ds ∧ D0 wx X 0 (Q1 kd) ∧ D0 wx Y 0 (Q1 kd))) from fun wx h => ⟨HX.out.same h, HY.out.same h, ((HX.out.same h).cell 0).trans JS.out, ((HY.out.same h).cell 0).trans MA.out⟩);clear oe HA;refine tkV 0 5 (.agg cs.toArray) (HG.out _ HV.out) ?_ (hy := fun wx aR => Q6 rfl rfl aR.1.rangeAll Tryz.underlying28 rfl HI.out);refine tkV 2 7 (.agg ds.toArray) (HG.out _ HV.out) ?_ (hy := fun wx aR => Q6 rfl rfl aR.2.1.rangeAll Tryz.underlying28 rfl HJ.out);refine tkE 1 (fun wx h => kE wx (HK.out.trans h)) HG.out HV.out ?_;clear HV;intro v1 w2 dL aj fk;refine tkE 3 (w7 := w2) (A := fun wx v w' => Own 0 5 .u8 w' v E ∧ Same wx w') (fun wx h => (kF wx (HK.out.trans (aj.trans h))).mono (fun e w' ⟨v, a, b, c⟩ => ⟨v, a, ⟨b, c⟩, c⟩)) (fun wx h => HG.out _ (aj.trans h)) kZ0 ?_;rintro v2 w3 ⟨eZ, _⟩ aZ Ow;have dU := hid (dL.rd.same aZ);have gi := hid eZ.rd;have bo := hid (aj.trans aZ);clear dL eZ aj aZ;refine tkE 4 (w7 := w3) (A := fun _ v _ => v = .bool true) (fun wx h => (Yh v1 v2 E E wx HB.out HB.out (dU.out.same h) (gi.out.same h)).mono (fun e w' ⟨a, b⟩ => ⟨_, a, by rw [decide_eq_true rfl], b⟩)) (fun wx h => HG.out _ (bo.out.trans h)) kZ0 ?_;rintro _ w4 rfl cS pr;refine tk 5 10 pr ?_;refine tk 6 11 pr ?_;refine tkV 7 12 (Q1 kd) pr ?_;refine tk 8 13 pr ?_;refine tkV 9 14 (Q1 kd) pr ?_;refine tkV 10 15 (.bool true) pr ?_;refine tkV 11 16 (.bool true) pr ?_;refine tkV 12 4 (.bool true) pr ?_;refine OZ ?_;have bp := hid ((HK.out.trans bo.out).trans cS);clear pr cS dU gi bo HG HX HY HK;go_wp2;go_ret;exact ⟨rfl, bp.out⟩
def cZ (c : Int) : List Value := [Q1 c, Q1 0, Q1 0, Q1 0, Q1 0, Q1 0, Q1 0, Q1 0, .bool false, Q4, .bool false, Q4, Q1 0, Q1 0, Q4, Q4, Q4]
theorem Yk {P : Program} {id : Nat} {o1 o2 : Oper} {Q : Exit → Act → World → Prop} {a : Act} {w : World} (d : Nat) (ty : TypeId) (parts : Array (Nat × Operand)) (x : Operand) (Z : Nat) (cells : Array Value)
  (h1 : o1.op = .build ty parts) (g1 : o1.guard = none) (d1 : o1.dst = some d) (h2 : o2.op = .store ty x (.tmp d)) (g2 : o2.guard = none) (d2 : o2.dst = none)
  (hb : ∀ wx, (execOp a.eval o1).run P wx = .ok (.value (.agg cells)) wx) (hx : (a.put (some d) (.agg cells)).eval x = Q2 Z 0) (hy : (a.put (some d) (.agg cells)).eval (.tmp d) = .agg cells)
  (ht : w.there Z 0 cells.size) (hi : (P.info? ty).map (·.size) = some cells.size) (hc : cells.all (·.oneCell') = true)
  (h : Q .normal (a.put (some d) (.agg cells)) (w.setCells Z 0 cells.toList)) : (Code.region id #[o1, o2] false).wp P Q a w := by
 refine wp_region_lit (l := [o1, o2]) ?_;refine wpList_plain g1 (fun K hK => ?_);unfold Oper.wp;rw [hb];refine hK _ _ ?_;rw [d1];refine wpList_store_mid g2 ty x (.tmp d) h2 Z 0 cells hx hy ht hi hc ?_;rw [d2];exact h
theorem RU : (Tryz.prog.info? 50).map (·.size) = some 17 := by kernel_rfl
theorem jaN {fn : Func} {p : Tmp} {ty : TypeId} {tmps : Array Value} {P : Program} {w : World} {Z : Nat} {cs : List Value} {d : TypeDesc} (h : fn.results = #[.cell p ty]) (hp : tmps.getD p undef = Q2 Z 0) (hc : w.rangeAt Z 0 cs)
  (hu : P.underlying ty = some d) (hd : d.isRow = true) (hi : (P.info? ty).map (·.size) = some cs.length) : (results fn tmps).run P w = .ok (.agg cs.toArray) w := by
 rw [Array.getD_eq_getD_getElem?] at hp;simp only [results, h];simp [Sem.run_bind, Result.andThen, hp, asAddr, run_loadVar_mid w Z 0 ty cs d hc hu hd hi]
theorem R4 {w : World} {Z : Nat} {e : TypeId} {xs : List Value} (h : Blk w Z e xs) (vs : List Value) (hl : vs.length = xs.length) : Blk (w.setCells Z 0 vs) Z e vs := by
 have h1 := h.setCells vs 0 (by omega)
 rwa [lay_all _ _ (by omega)] at h1
theorem Blk.all17 {w : World} {B : Nat} {e : TypeId} {v0 v1 v2 v3 v4 v5 v6 v7 v8 v9 v10 v11 il i4 nV qI qK : Value} (h : Blk w B e [v0, v1, v2, v3, v4, v5, v6, v7, v8, v9, v10, v11, il, i4, nV, qI, qK]) : w.cell? ⟨B, 0, none⟩ = some v0 ∧ w.cell? ⟨B, 1, none⟩ = some v1 ∧ w.cell? ⟨B, 2, none⟩ = some v2 ∧ w.cell? ⟨B, 3, none⟩ = some v3 ∧ w.cell? ⟨B, 4, none⟩ = some v4 ∧ w.cell? ⟨B, 5, none⟩ = some v5 ∧ w.cell? ⟨B, 6, none⟩ = some v6 ∧ w.cell? ⟨B, 7, none⟩ = some v7 ∧ w.cell? ⟨B, 8, none⟩ = some v8 ∧ w.cell? ⟨B, 9, none⟩ = some v9 ∧ w.cell? ⟨B, 10, none⟩ = some v10 ∧ w.cell? ⟨B, 11, none⟩ = some v11 ∧ w.cell? ⟨B, 12, none⟩ = some il ∧ w.cell? ⟨B, 13, none⟩ = some i4 ∧ w.cell? ⟨B, 14, none⟩ = some nV ∧ w.cell? ⟨B, 15, none⟩ = some qI ∧ w.cell? ⟨B, 16, none⟩ = some qK := ⟨h.cell 0, h.cell 1, h.cell 2, h.cell 3, h.cell 4, h.cell 5, h.cell 6, h.cell 7, h.cell 8, h.cell 9, h.cell 10, h.cell 11, h.cell 12, h.cell 13, h.cell 14, h.cell 15, h.cell 16⟩
theorem jfx {w a : World} {Z : Nat} (h : Same w a) (hz : w.heap.size ≤ Z) (v0 v1 v2 v3 v4 v5 v6 v7 v8 v9 v10 v11 il i4 nV qI qK : Value) : Same w (((((((((((((((((a.setCell ⟨Z, 0, none⟩ v0).setCell ⟨Z, 1, none⟩ v1).setCell ⟨Z, 2, none⟩ v2).setCell ⟨Z, 3, none⟩ v3).setCell ⟨Z, 4, none⟩ v4).setCell ⟨Z, 5, none⟩ v5).setCell ⟨Z, 6, none⟩ v6).setCell ⟨Z, 7, none⟩ v7).setCell ⟨Z, 8, none⟩ v8).setCell ⟨Z, 9, none⟩ v9).setCell ⟨Z, 10, none⟩ v10).setCell ⟨Z, 11, none⟩ v11).setCell ⟨Z, 12, none⟩ il).setCell ⟨Z, 13, none⟩ i4).setCell ⟨Z, 14, none⟩ nV).setCell ⟨Z, 15, none⟩ qI).setCell ⟨Z, 16, none⟩ qK) := (((((((((((((((((h.setCell (p := ⟨Z, 0, none⟩) (.inl hz) v0).setCell (p := ⟨Z, 1, none⟩) (.inl hz) v1).setCell (p := ⟨Z, 2, none⟩) (.inl hz) v2).setCell (p := ⟨Z, 3, none⟩) (.inl hz) v3).setCell (p := ⟨Z, 4, none⟩) (.inl hz) v4).setCell (p := ⟨Z, 5, none⟩) (.inl hz) v5).setCell (p := ⟨Z, 6, none⟩) (.inl hz) v6).setCell (p := ⟨Z, 7, none⟩) (.inl hz) v7).setCell (p := ⟨Z, 8, none⟩) (.inl hz) v8).setCell (p := ⟨Z, 9, none⟩) (.inl hz) v9).setCell (p := ⟨Z, 10, none⟩) (.inl hz) v10).setCell (p := ⟨Z, 11, none⟩) (.inl hz) v11).setCell (p := ⟨Z, 12, none⟩) (.inl hz) il).setCell (p := ⟨Z, 13, none⟩) (.inl hz) i4).setCell (p := ⟨Z, 14, none⟩) (.inl hz) nV).setCell (p := ⟨Z, 15, none⟩) (.inl hz) qI).setCell (p := ⟨Z, 16, none⟩) (.inl hz) qK)
theorem jeV (a : World) (Z : Nat) (v0 v1 v2 v3 v4 v5 v6 v7 v8 v9 v10 v11 il i4 nV qI qK : Value) : Kept (fun b => b = Z) a (((((((((((((((((a.setCell ⟨Z, 0, none⟩ v0).setCell ⟨Z, 1, none⟩ v1).setCell ⟨Z, 2, none⟩ v2).setCell ⟨Z, 3, none⟩ v3).setCell ⟨Z, 4, none⟩ v4).setCell ⟨Z, 5, none⟩ v5).setCell ⟨Z, 6, none⟩ v6).setCell ⟨Z, 7, none⟩ v7).setCell ⟨Z, 8, none⟩ v8).setCell ⟨Z, 9, none⟩ v9).setCell ⟨Z, 10, none⟩ v10).setCell ⟨Z, 11, none⟩ v11).setCell ⟨Z, 12, none⟩ il).setCell ⟨Z, 13, none⟩ i4).setCell ⟨Z, 14, none⟩ nV).setCell ⟨Z, 15, none⟩ qI).setCell ⟨Z, 16, none⟩ qK) := ((((((((((((((((((Kept.refl (fun b => b = Z) a).setCell (p := ⟨Z, 0, none⟩) (.inr rfl) v0).setCell (p := ⟨Z, 1, none⟩) (.inr rfl) v1).setCell (p := ⟨Z, 2, none⟩) (.inr rfl) v2).setCell (p := ⟨Z, 3, none⟩) (.inr rfl) v3).setCell (p := ⟨Z, 4, none⟩) (.inr rfl) v4).setCell (p := ⟨Z, 5, none⟩) (.inr rfl) v5).setCell (p := ⟨Z, 6, none⟩) (.inr rfl) v6).setCell (p := ⟨Z, 7, none⟩) (.inr rfl) v7).setCell (p := ⟨Z, 8, none⟩) (.inr rfl) v8).setCell (p := ⟨Z, 9, none⟩) (.inr rfl) v9).setCell (p := ⟨Z, 10, none⟩) (.inr rfl) v10).setCell (p := ⟨Z, 11, none⟩) (.inr rfl) v11).setCell (p := ⟨Z, 12, none⟩) (.inr rfl) il).setCell (p := ⟨Z, 13, none⟩) (.inr rfl) i4).setCell (p := ⟨Z, 14, none⟩) (.inr rfl) nV).setCell (p := ⟨Z, 15, none⟩) (.inr rfl) qI).setCell (p := ⟨Z, 16, none⟩) (.inr rfl) qK)
theorem Blk.all15 {w : World} {B : Nat} {e : TypeId} {v0 v1 v2 v3 v4 v5 v6 v7 v8 v9 v10 v11 il i4 nV : Value} (h : Blk w B e [v0, v1, v2, v3, v4, v5, v6, v7, v8, v9, v10, v11, il, i4, nV]) : w.cell? ⟨B, 0, none⟩ = some v0 ∧ w.cell? ⟨B, 1, none⟩ = some v1 ∧ w.cell? ⟨B, 2, none⟩ = some v2 ∧ w.cell? ⟨B, 3, none⟩ = some v3 ∧ w.cell? ⟨B, 4, none⟩ = some v4 ∧ w.cell? ⟨B, 5, none⟩ = some v5 ∧ w.cell? ⟨B, 6, none⟩ = some v6 ∧ w.cell? ⟨B, 7, none⟩ = some v7 ∧ w.cell? ⟨B, 8, none⟩ = some v8 ∧ w.cell? ⟨B, 9, none⟩ = some v9 ∧ w.cell? ⟨B, 10, none⟩ = some v10 ∧ w.cell? ⟨B, 11, none⟩ = some v11 ∧ w.cell? ⟨B, 12, none⟩ = some il ∧ w.cell? ⟨B, 13, none⟩ = some i4 ∧ w.cell? ⟨B, 14, none⟩ = some nV := ⟨h.cell 0, h.cell 1, h.cell 2, h.cell 3, h.cell 4, h.cell 5, h.cell 6, h.cell 7, h.cell 8, h.cell 9, h.cell 10, h.cell 11, h.cell 12, h.cell 13, h.cell 14⟩
def nzB : BS := ⟨5, none, 0, []⟩
def nzF (e : TypeId) : FR := ⟨e, none, 0, 0, []⟩
def recZ : StLogRecord := ⟨0, 0, 0, 0, 0, ⟨false, nzB⟩, ⟨false, nzB⟩, 0, 0, nzF 79, nzF 81, nzB⟩
theorem Sm {b : Nat} (h : O6 recZ.rows b) : False := by
 have fB : ∀ b, ¬ O6 nzB.rows b := fun b h => by have h := (Pv _ _ _ _ _).1 h; simp [nzB, BS.v, Value.ownBlock] at h
 have fF : ∀ (m : Nat) (e : TypeId) (b : Nat), ¬ O6 ((nzF e).rows m) b := fun m e b h => by have h := (PD _ _).1 h; simp [nzF, FR.v, Value.ownBlock] at h
 rcases (OX _ _ _).1 h with h | h
 ·exact fB _ h
 rcases (OX _ _ _).1 h with h | h
 ·exact fB _ h
 rcases (OX _ _ _).1 h with h | h
 ·exact fF _ _ _ h
 rcases (OX _ _ _).1 h with h | h
 ·exact fF _ _ _ h
 ·exact fB _ h
theorem Tn (w : World) : OwnL w recZ.rows :=
 have hB : OwnL w nzB.rows := OwnL.one (Own.nil 0 _ .u8 _)
 have fB : ∀ b, ¬ O6 nzB.rows b := fun b h => by have h := (Pv _ _ _ _ _).1 h; simp [nzB, BS.v, Value.ownBlock] at h
 have fF : ∀ (m : Nat) (e : TypeId) (b : Nat), ¬ O6 ((nzF e).rows m) b := fun m e b h => by have h := (PD _ _).1 h; simp [nzF, FR.v, Value.ownBlock] at h
 hB.append (hB.append ((RH 4 _ w).append ((RH 2 _ w).append hB (fun b h => (fF _ _ _ h).elim)) (fun b h => (fF _ _ _ h).elim)) (fun b h => (fB _ h).elim)) (fun b h => (fB _ h).elim)
theorem IsB.tk {xs : List Int} (n : Nat) (h : IsB xs) : IsB (xs.take n) := fun x hx => h x (List.mem_of_mem_take hx)
theorem take_len {xs : List Int} {a m : Nat} (h : a + m ≤ xs.length) : ((xs.drop a).take m).length = m := by simp; omega
structure StRecordResult where
 good : Bool
 record : StLogRecord
def StRecordResult.val (x : StRecordResult) : Value := .agg #[.bool x.good, Q1 x.record.kind, Q1 x.record.txn, Q1 x.record.prev, Q1 x.record.page, Q1 x.record.slot, .bool x.record.before.used, x.record.before.data.v, .bool x.record.after.used, x.record.after.data.v, Q1 x.record.uN, Q1 x.record.nT, x.record.txns.v, x.record.dirty.v, x.record.image.v]
def StRecordResult.rows (x : StRecordResult) : List Row := x.record.rows
def StRecordResult.dat (x : StRecordResult) : Bool × (Int × Int × Int × Int × Int × (Bool × List Int) × (Bool × List Int) × Int × Int × List Int × List Int × List Int) := (x.good, x.record.dat)
def StRecordResult.size (x : StRecordResult) : Int := x.record.size
def StRecordResult.marked (x : StRecordResult) (k : Int) : StRecordResult := ⟨x.good, x.record.marked (k)⟩
def StRecordResult.rd (w : World) (x : StRecordResult) : Prop := StLogRecord.rd w x.record
theorem StRecordResult.rd.kept {R : Nat → Prop} {w w' : World} {x : StRecordResult} (h : StRecordResult.rd w x) (hk : Kept R w w') (hr : ∀ b, O6 x.rows b → ¬ R b) : StRecordResult.rd w' x :=
 StLogRecord.rd.kept (h) hk (fun b hb => hr b (hb))
theorem StRecordResult.rd.same {w w' : World} {x : StRecordResult} (h : StRecordResult.rd w x) (hk : Same w w') : StRecordResult.rd w' x := h.kept hk (fun _ _ => id)
theorem StRecordResult.own_rd {w : World} {x : StRecordResult} (h : OwnL w x.rows) : StRecordResult.rd w x :=
 (StLogRecord.own_rd h)
def StRecordResult.szs (x : StRecordResult) : Int := x.record.szs
end Go.Proofs.YtapdfgkbhaoelaaGreatDoor
