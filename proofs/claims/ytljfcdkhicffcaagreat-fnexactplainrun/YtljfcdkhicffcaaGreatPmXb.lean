import Derived.Test.YtljfcdkhicffcaaGreatG24
import Derived.Laws.EntriesVeiled
namespace Go.Proofs.YtljfcdkhicffcaaGreat
set_option maxRecDepth 100000
set_option maxHeartbeats 8000000
set_option linter.unusedVariables false
set_option linter.unusedSimpArgs false
open Go Go.RowKit Go.MapKept
def Vs (gp : Int) (st : PlS) (s : StD) (ws : Option (List WrD)) : Int :=
 match ws with
 | none => 2
 | some ws =>
  if (s.1 = 2 ∨ s.1 = 3) ∧ (1000 : Int) < (s.2.2.2.2.1.length : Int) then 3
  else if s.1 = 3 ∨ s.1 = 4 ∨ s.1 = 5 then
   (if (decide (0 ≤ s.2.2.1) && decide (s.2.2.1 < gp * 32)) = false then 4
   else if WT (T9 s.2.1 s.2.2.1 0 st.locks) (if s.1 = 5 then 1 else 2) = false then 5
   else if (V7 st.recs ws s.2.2.1).1 = false then 6 else 0)
  else 0
structure ERu where
 code : Int
 fid : FuncId
 cap : List Value
 bit : Bool
def ERu.cells (r : ERu) : List Value := [V r.code, .func (.func r.fid) #[] r.cap.toArray]
def kRu : RowK ERu := ⟨2, ERu.cells, fun _ => rfl, fun _ => V0, fun _ => []⟩
def WR : List ERu → Int
 | [] => 0
 | r :: rs => if r.bit = true then r.code else WR rs
theorem jen : WR [] = 0 := rfl
theorem jdl (r : ERu) (rs : List ERu) : WR (r :: rs) = if r.bit = true then r.code else WR rs := rfl
theorem jbF : ∀ (rs : List ERu) (k : Nat) (hk : k < rs.length), (∀ j (hj : j < k), (rs[j]'(by omega)).bit = false) → rs[k].bit = true → WR rs = rs[k].code
 | [], k, hk, _, _ => by simp at hk
 | r :: rs, 0, hk, _, h => by
  show (if r.bit = true then r.code else WR rs) = r.code
  exact if_pos h
 | r :: rs, k + 1, hk, h, h2 => by
  have h0 := h 0 (by omega);have e0 : r.bit = false := h0
  show (if r.bit = true then r.code else WR rs) = _
  rw [if_neg (by rw [e0]; decide)];exact jbF rs k (by simpa using hk) (fun j hj => h (j + 1) (by omega)) h2
theorem Z0 : ∀ (rs : List ERu), (∀ j (hj : j < rs.length), rs[j].bit = false) → WR rs = 0
 | [], _ => rfl
 | r :: rs, h => by
  have e0 : r.bit = false := h 0 (by simp)
  show (if r.bit = true then r.code else WR rs) = _
  rw [if_neg (by rw [e0]; decide)];exact Z0 rs (fun j hj => h (j + 1) (by simpa using hj))
def jeo (wc : World) (r : ERu) : Prop := Ur r.fid ∧ ∀ wx, Same wc wx → Calls Tryz.prog r.fid r.cap.toArray wx fun e w' => e = .returned (.bool r.bit) ∧ Same wx w'
def RuA (wc : World) (rs : List ERu) : Prop := ∀ k (hk : k < rs.length), (∀ j (hj : j < k), (rs[j]'(by omega)).bit = false) → jeo wc rs[k]
theorem RuA.of {wc : World} {r : ERu} {rs : List ERu} (h1 : jeo wc r) (h : r.bit = false → ∀ y ∈ rs, jeo wc y) : RuA wc (r :: rs) := fun k hk hb => by
 cases k with
 | zero => exact h1
 | succ k => exact h (hb 0 (by omega)) _ (List.getElem_mem (by simpa using hk))
structure RuI (wc wx : World) (L : Nat) (cd : Int) (rs : List ERu) : Prop where
 row : Blk wx L 180 (kRu.all rs)
 few : rs.length ≤ 5
 each : RuA wc rs
 first : WR rs = cd
 same : Same wc wx
def ruL (p : Option Addr) (sn : Nat) (gp kd stx ah : Int) (st : PlS) (WS : List WrD) (Gb X : Nat) (ids : List Nat) : List ERu := ids.map fun i =>
 if i = 1 then ⟨2, 138, [Q3 Gb 0], decide (p = none)⟩ else if i = 2 then ⟨3, 139, [Q3 (X + 1) 0], decide ((1000 : Int) < (sn : Int))⟩ else if i = 3 then ⟨4, 140, [Q3 X 0, Q3 (X + 1) 0], !(decide (0 ≤ ah) && decide (ah < gp * 32))⟩ else if i = 4 then ⟨5, 141, [Q3 X 0, Q3 (X + 1) 0], !(WT (T9 stx ah 0 st.locks) (if kd = 5 then 1 else 2))⟩ else ⟨6, 144, [Q3 X 0, Q3 Gb 0, Q3 (X + 1) 0], !(V7 st.recs WS ah).1⟩
def jbh (kd : Int) : List Nat := if kd = 2 then [1, 2] else if kd = 3 then [1, 2, 3, 4, 5] else if kd = 4 then [1, 3, 4, 5] else if kd = 5 then [1, 3, 4, 5] else [1]
theorem jep (gp : Int) (st : PlS) (kd stx ah cnt : Int) (sd kb : List Int) (sn Gb X : Nat) (dk : sd.length = sn) (dN : 2 ≤ kd ∧ kd ≤ 7) (p : Option Addr) (ws : Option (List WrD)) (hp : (p = none ∧ ws = none) ∨ (∃ a, p = some a) ∧ ∃ l, ws = some l) :
  WR (ruL p sn gp kd stx ah st (ws.getD []) Gb X (jbh kd)) = Vs gp st (kd, stx, ah, cnt, sd, kb) ws := by
 subst dk
 have hk : kd = 2 ∨ kd = 3 ∨ kd = 4 ∨ kd = 5 ∨ kd = 6 ∨ kd = 7 := by omega
 rcases hp with ⟨rfl, rfl⟩ | ⟨⟨a, rfl⟩, l, rfl⟩
 ·rcases hk with rfl | rfl | rfl | rfl | rfl | rfl <;> rfl
 ·have e2 : (Option.getD (some l) []) = l := rfl
  rw [e2]
  have e3 : ∀ (q : Prop) [Decidable q] (u v : Int), (if q then u else v) = if decide q = true then u else v := fun q _ u v => by by_cases hq : q <;> simp [hq]
  unfold Vs;dsimp only;obtain ⟨R, hR⟩ : ∃ R, (decide (0 ≤ ah) && decide (ah < gp * 32)) = R := ⟨_, rfl⟩;obtain ⟨S, hS⟩ : ∃ S, (V7 st.recs l ah).1 = S := ⟨_, rfl⟩;obtain ⟨B, hB⟩ : ∃ S, decide ((1000 : Int) < (sd.length : Int)) = S := ⟨_, rfl⟩;obtain ⟨Q1, QW⟩ : ∃ S, WT (T9 stx ah 0 st.locks) 1 = S := ⟨_, rfl⟩;obtain ⟨Q2, QK⟩ : ∃ S, WT (T9 stx ah 0 st.locks) 2 = S := ⟨_, rfl⟩;rw [e3 ((kd = 2 ∨ kd = 3) ∧ _)]
  rcases hk with rfl | rfl | rfl | rfl | rfl | rfl
  all_goals
   simp only [ruL, jbh, List.map_cons, List.map_nil, jdl, jen, hR, hS, hB, QW, QK, reduceIte, reduceCtorEq, decide_true, decide_false, Int.reduceEq, Nat.reduceEqDiff, Bool.decide_and, Bool.decide_or, or_false, or_true, false_or, true_or, Bool.false_and, Bool.true_and, Bool.or_false, Bool.false_or, Bool.true_or, Bool.or_true]
  all_goals first | rfl | (cases B <;> cases R <;> cases S <;> cases Q1 <;> cases Q2 <;> rfl)
theorem jg8 (w : World) : (Instr.alloc 184 true (.tuple #[])).run Tryz.prog w = .ok (.pointer (some ⟨w.heap.size, 0, none⟩)) (w.alloc (.cells #[V0, V0, V0, V0, V0, V0, V0, V0] 184)) := by kernel_rfl
theorem jgA {P : Program} {o : Oper} {f : Operand → Value} {w w' : World} {ty : TypeId} {v : Value} (ho : o.op = .alloc ty) (hr : (Instr.alloc ty true (.tuple #[])).run P w = .ok v w') : (execOp f o).run P w = .ok (.value v) w' := by
 unfold execOp;simp only [ho]
 show Sem.run P (do pure (Next.value (← Instr.alloc ty true (.tuple #[])))) w = _
 simp only [Sem.run_bind, hr, Result.andThen_ok, Sem.run_pure]
theorem jdm (lo M : Nat) (gp gf gl : Int) (x : PmX) (st : PlS) (kd stx ah cnt : Int) (sa : Option Addr) (sn sc : Nat) (ka : Option Addr) (kn kc : Nat) (sd kb : List Int) (w : World) (h : PmI w lo M gp gf gl x) (hd : PmD x st) (hr : (st.txns.map (·.1)).Pairwise (· < ·)) (hG : GoodL st.locks) (hg : 0 ≤ gp ∧ gp ≤ 1000) (dk : sd.length = sn) (az : ∀ t ∈ x.te, t.ps.length ≤ 1048576) (dN : 2 ≤ kd ∧ kd ≤ 7) :
  Calls Tryz.prog 121 #[Q3 M 0, .agg #[V kd, V stx, V ah, V cnt, .slice sa sn sc, .slice ka kn kc]] w fun e w' => e = .returned (V (Vs gp st (kd, stx, ah, cnt, sd, kb) (Uw st.txns stx))) ∧ Same w w' := by
 obtain ⟨WS, re⟩ : ∃ z, (Uw st.txns stx).getD [] = z := ⟨_, rfl⟩;obtain ⟨CD, rC⟩ : ∃ z, Vs gp st (kd, stx, ah, cnt, sd, kb) (Uw st.txns stx) = z := ⟨_, rfl⟩;rw [rC];have Bc := (show Hid _ from XK hd hr stx);have jO := hid dN;have tN := hid hG;have vX := hid az;have qX := hid dk;have gH := hid hg;have yS := hid re;have Lz := hid rC;clear rC re dk az hG hr dN hg;obtain ⟨p, yg⟩ : ∃ z, YV x.te stx = z := ⟨_, rfl⟩
 have dH : ∀ wx, Same w wx → (Instr.lookup 88 (.map (some x.T)) (V stx) false).run Tryz.prog wx = .ok (.pointer p) wx := fun wx dT => by
  have h1 := Ye ((h.same dT).n.txn) stx;rw [yg] at h1;exact h1
 have H := hid h;have HD := hid hd;have gC := Blk.newL w [Q3 M 0] 83;obtain ⟨X, aQ⟩ : ∃ X, w.heap.size = X := ⟨_, rfl⟩;obtain ⟨wa, cg⟩ : ∃ z, w.alloc (.cells #[Q3 M 0] 83) = z := ⟨_, rfl⟩
 have cX : Same w wa := by rw [← cg]; exact kZ0.alloc _
 have dE : wa.heap.size = X + 1 := by rw [← cg, World.size_alloc, aQ]
 rw [aQ, cg] at gC;have iw := Blk.newL wa [V kd, V stx, V ah, V cnt, .slice sa sn sc, .slice ka kn kc] 71;obtain ⟨a8, cE⟩ : ∃ z, wa.alloc (.cells #[V kd, V stx, V ah, V cnt, .slice sa sn sc, .slice ka kn kc] 71) = z := ⟨_, rfl⟩
 have dD : Same wa a8 := by rw [← cE]; exact kZ0.alloc _
 rw [dE, cE] at iw;have HI := (show Hid (∀ wx, Same a8 wx → Blk wx X 83 [Q3 M 0] ∧ Blk wx (X + 1) 71 [V kd, V stx, V ah, V cnt, .slice sa sn sc, .slice ka kn kc] ∧ Same w wx) from fun wx hk => ⟨(gC.same dD).same hk, iw.same hk, (cX.trans dD).trans hk⟩);have dL := hid dH;have vg := hid yg;clear h hd dH gC iw cX dD yg
 go_enter Tryz.func121, Tryz.ntmps121
 go_upto_region 1 with fail
 try rw [cg]
 try rw [cE]
 try rw [aQ]
 try rw [dE]
 clear cg cE aQ dE wa
 let Y1 : World → Prop := fun wx : World => wx.cell? ⟨X, 0, none⟩ = some (Q3 M 0) ∧ wx.cell? ⟨M, 6, none⟩ = some (.map (some x.T)) ∧ wx.cell? ⟨X + 1, 1, none⟩ = some (V stx) ∧ (Instr.lookup 88 (.map (some x.T)) (V stx) false).run Tryz.prog wx = .ok (.pointer p) wx
 refine TT Y1 8 9 rfl (by kernel_rfl) ?_;have ae : Same a8 (World.drew a8) := kZ0.drew;generalize World.drew a8 = w2 at ae ⊢;have ap := hid ae;have bL := (show Hid (∀ wx, Same a8 wx → Y1 wx) from fun wx hk => ⟨(HI.out wx hk).1.c0, (H.out.same (HI.out wx hk).2.2).box.cell 6, (HI.out wx hk).2.1.cell 1, dL.out wx (HI.out wx hk).2.2⟩);clear ae;have hS : Y1 w2 := bL.out w2 ap.out;refine tk 0 14 hS ?_;refine tk 1 15 hS ?_;refine tk 2 16 hS ?_;refine tk 3 17 hS ?_;refine tk 4 18 hS ?_;refine tk 5 19 hS ?_;refine tk 6 20 hS ?_;refine o1Q 7 (fun Kc ak => ?_);go_simp;have bP := Blk.newL w2 [.pointer none] 130;have ar : Same w2 (w2.alloc (.cells #[.pointer none] 130)) := kZ0.alloc _;obtain ⟨Gb, yl⟩ : ∃ Y, w2.heap.size = Y := ⟨_, rfl⟩;rw [yl] at bP
 try rw [yl]
 generalize w2.alloc (.cells #[.pointer none] 130) = w3 at bP ar ⊢;have bX := hid bP;have ax := hid (ap.out.trans ar);have Ez := (show Hid (a8.heap.size ≤ Gb) from by have := ap.out.size; show a8.heap.size ≤ Gb; omega);clear bP ar hS ap yl;have hS : Y1 w3 := bL.out w3 ax.out;refine ak.out _ _ (fun _ => hS) ?_;clear ak Kc
 try simp only [Act.put, sA, s0, sS]
 have g0 := bX.out.c0;have Cy := bX.out.frozen 0;refine o1Q 8 (fun Kc ak => ?_);go_simp;refine ak.out _ _ (fun h => absurd rfl h) ?_;clear ak Kc hS;refine TS (by kernel_rfl) ?_
 try simp only [Act.put, sA, s0, sS]
 have mI := (show Hid (Blk (w3.setCell ⟨Gb, 0, none⟩ (.pointer p)) Gb 130 [.pointer p]) from bX.out.stored 0 _);have aR := (show Hid (Same a8 (w3.setCell ⟨Gb, 0, none⟩ (.pointer p))) from ax.out.next (Kept.setCell (R := fun b => b = Gb) kZ0 (p := ⟨Gb, 0, none⟩) (.inr rfl) _) (fun i hi e => by have := Ez.out; omega));clear g0 Cy bX ax Ez bL dL;generalize w3.setCell ⟨Gb, 0, none⟩ (.pointer p) = w4 at mI aR ⊢;have kt : ∀ (fn : Fn) (first cap : Array Value) (w : World), (Instr.makeFunc fn first cap).run Tryz.prog w = .ok (.func fn first cap) w := fun _ _ _ _ => rfl;have cW := Blk.newL w4 [V 2, .func (.func 138) #[] #[Q3 Gb 0]] 180;obtain ⟨A1, yi⟩ : ∃ z, w4.heap.size = z := ⟨_, rfl⟩;obtain ⟨w5, gq⟩ : ∃ z, w4.alloc (.cells #[V 2, .func (.func 138) #[] #[Q3 Gb 0]] 180) = z := ⟨_, rfl⟩
 have af : Same w4 w5 := by rw [← gq]; exact kZ0.alloc _
 have aT : w5.heap.size = A1 + 1 := by rw [← gq, World.size_alloc, yi]
 rw [yi, gq] at cW;have aV := Blk.newL w5 [V 3, .func (.func 139) #[] #[Q3 (X + 1) 0]] 180;obtain ⟨A2, kx⟩ : ∃ z, w5.heap.size = z := ⟨_, rfl⟩;obtain ⟨w6, l3⟩ : ∃ z, w5.alloc (.cells #[V 3, .func (.func 139) #[] #[Q3 (X + 1) 0]] 180) = z := ⟨_, rfl⟩
 have ae : Same w5 w6 := by rw [← l3]; exact kZ0.alloc _
 have bv : w6.heap.size = A2 + 1 := by rw [← l3, World.size_alloc, kx]
 rw [kx, l3] at aV;have bP := Blk.newL w6 [V 4, .func (.func 140) #[] #[Q3 X 0, Q3 (X + 1) 0]] 180;obtain ⟨A3, ID⟩ : ∃ z, w6.heap.size = z := ⟨_, rfl⟩;obtain ⟨w7, xk⟩ : ∃ z, w6.alloc (.cells #[V 4, .func (.func 140) #[] #[Q3 X 0, Q3 (X + 1) 0]] 180) = z := ⟨_, rfl⟩
 have ar : Same w6 w7 := by rw [← xk]; exact kZ0.alloc _
 have O6 : w7.heap.size = A3 + 1 := by rw [← xk, World.size_alloc, ID]
 rw [ID, xk] at bP;have eE := Blk.newL w7 [V 5, .func (.func 141) #[] #[Q3 X 0, Q3 (X + 1) 0]] 180;obtain ⟨A4, Hw⟩ : ∃ z, w7.heap.size = z := ⟨_, rfl⟩;obtain ⟨w8, xO⟩ : ∃ z, w7.alloc (.cells #[V 5, .func (.func 141) #[] #[Q3 X 0, Q3 (X + 1) 0]] 180) = z := ⟨_, rfl⟩
 have aM : Same w7 w8 := by rw [← xO]; exact kZ0.alloc _
 have RZ : w8.heap.size = A4 + 1 := by rw [← xO, World.size_alloc, Hw]
 rw [Hw, xO] at eE;have gI := Blk.newL w8 [V 6, .func (.func 144) #[] #[Q3 X 0, Q3 Gb 0, Q3 (X + 1) 0]] 180;obtain ⟨A5, Is⟩ : ∃ z, w8.heap.size = z := ⟨_, rfl⟩;obtain ⟨w9, uP⟩ : ∃ z, w8.alloc (.cells #[V 6, .func (.func 144) #[] #[Q3 X 0, Q3 Gb 0, Q3 (X + 1) 0]] 180) = z := ⟨_, rfl⟩
 have aP : Same w8 w9 := by rw [← uP]; exact kZ0.alloc _
 have wj : w9.heap.size = A5 + 1 := by rw [← uP, World.size_alloc, Is]
 rw [Is, uP] at gI;have HR := (show Hid (Blk w9 A1 180 [V 2, .func (.func 138) #[] #[Q3 Gb 0]] ∧ Blk w9 A2 180 [V 3, .func (.func 139) #[] #[Q3 (X + 1) 0]] ∧ Blk w9 A3 180 [V 4, .func (.func 140) #[] #[Q3 X 0, Q3 (X + 1) 0]] ∧ Blk w9 A4 180 [V 5, .func (.func 141) #[] #[Q3 X 0, Q3 (X + 1) 0]] ∧ Blk w9 A5 180 [V 6, .func (.func 144) #[] #[Q3 X 0, Q3 Gb 0, Q3 (X + 1) 0]] ∧ Same a8 w9) from ⟨(((cW.same ae).same ar).same aM).same aP, ((aV.same ar).same aM).same aP, (bP.same aM).same aP, eE.same aP, gI, (((((aR.out.trans af).trans ae).trans ar).trans aM).trans aP)⟩);have fB := (show Hid (Same a8 w9) from (((((aR.out.trans af).trans ae).trans ar).trans aM).trans aP));have gV := hid (mI.out.same ((((af.trans ae).trans ar).trans aM).trans aP))
 have HZ := (show Hid (A2 = A1 + 1 ∧ A3 = A1 + 1 + 1 ∧ A4 = A1 + 1 + 1 + 1 ∧ A5 = A1 + 1 + 1 + 1 + 1) from by
  show A2 = A1 + 1 ∧ A3 = A1 + 1 + 1 ∧ A4 = A1 + 1 + 1 + 1 ∧ A5 = A1 + 1 + 1 + 1 + 1
  omega)
 clear cW aV bP eE gI af ae ar aM aP aR mI kx ID Hw Is aT bv O6 RZ wj;have HW := (show Hid (w4.heap.size = A1 ∧ w4.alloc (.cells #[V 2, .func (.func 138) #[] #[Q3 Gb 0]] 180) = w5 ∧ w5.alloc (.cells #[V 3, .func (.func 139) #[] #[Q3 (X + 1) 0]] 180) = w6 ∧ w6.alloc (.cells #[V 4, .func (.func 140) #[] #[Q3 X 0, Q3 (X + 1) 0]] 180) = w7 ∧ w7.alloc (.cells #[V 5, .func (.func 141) #[] #[Q3 X 0, Q3 (X + 1) 0]] 180) = w8 ∧ w8.alloc (.cells #[V 6, .func (.func 144) #[] #[Q3 X 0, Q3 Gb 0, Q3 (X + 1) 0]] 180) = w9) from ⟨yi, gq, l3, xk, xO, uP⟩);clear yi gq l3 xk xO uP
 go_upto_region 7 with fail
 obtain ⟨yi, gq, l3, xk, xO, uP⟩ := HW.out;obtain ⟨z2, z3, z4, z5⟩ := HZ.out;rw [yi, gq, l3, xk, xO, uP, ← z5, ← z4, ← z3, ← z2];clear yi gq l3 xk xO uP z2 z3 z4 z5 HW HZ;refine wp_region_lit (l := [_, _, _, _, _, _, _, _, _, _, _, _, _, _, _, _, _, _, _, _, _, _, _, _, _, _]) ?_;refine wpList_load_mid rfl 180 (.tmp 6) rfl A1 0 rfl _ _ (HR.out.1).rangeAll Tryz.underlying180 rfl (by kernel_rfl) ?_
 try simp only [Act.put, sA, s0, sS]
 refine wpList_load_mid rfl 180 (.tmp 7) rfl A2 0 rfl _ _ (HR.out.2.1).rangeAll Tryz.underlying180 rfl (by kernel_rfl) ?_
 try simp only [Act.put, sA, s0, sS]
 refine UJ (v := .slice (some ⟨w9.heap.size, 0, none⟩) 2 2) (w' := w9.alloc (.cells #[V 2, .func (.func 138) #[] #[Q3 Gb 0], V 3, .func (.func 139) #[] #[Q3 (X + 1) 0]] 180)) rfl (Xu [(0, .tmp 31), (1, .tmp 32)] [(0, .agg #[V 2, .func (.func 138) #[] #[Q3 Gb 0]]), (1, .agg #[V 3, .func (.func 139) #[] #[Q3 (X + 1) 0]])] rfl rfl (jgU w9 _ _ _ _)) ?_;have xf := Blk.newL w9 [V 2, .func (.func 138) #[] #[Q3 Gb 0], V 3, .func (.func 139) #[] #[Q3 (X + 1) 0]] 180;have aS : Same w9 (w9.alloc (.cells #[V 2, .func (.func 138) #[] #[Q3 Gb 0], V 3, .func (.func 139) #[] #[Q3 (X + 1) 0]] 180)) := kZ0.alloc _;obtain ⟨L0, Mv⟩ : ∃ z, w9.heap.size = z := ⟨_, rfl⟩;rw [Mv] at xf ⊢;generalize w9.alloc (.cells #[V 2, .func (.func 138) #[] #[Q3 Gb 0], V 3, .func (.func 139) #[] #[Q3 (X + 1) 0]] 180) = dQ at xf aS ⊢;have jp := (show Hid (Blk dQ A1 180 [V 2, .func (.func 138) #[] #[Q3 Gb 0]] ∧ Blk dQ A2 180 [V 3, .func (.func 139) #[] #[Q3 (X + 1) 0]] ∧ Blk dQ A3 180 [V 4, .func (.func 140) #[] #[Q3 X 0, Q3 (X + 1) 0]] ∧ Blk dQ A4 180 [V 5, .func (.func 141) #[] #[Q3 X 0, Q3 (X + 1) 0]] ∧ Blk dQ A5 180 [V 6, .func (.func 144) #[] #[Q3 X 0, Q3 Gb 0, Q3 (X + 1) 0]] ∧ Same a8 dQ) from ⟨HR.out.1.same aS, HR.out.2.1.same aS, HR.out.2.2.1.same aS, HR.out.2.2.2.1.same aS, HR.out.2.2.2.2.1.same aS, HR.out.2.2.2.2.2.trans aS⟩);have mS := hid xf
 try simp only [Act.put, sA, s0, sS]
 have jw := hid (gV.out.same aS);clear gV;have gV := jw;clear HR jw xf aS Mv;have HR := jp;clear jp;refine wpList_load_mid rfl 180 (.tmp 6) rfl A1 0 rfl _ _ (HR.out.1).rangeAll Tryz.underlying180 rfl (by kernel_rfl) ?_
 try simp only [Act.put, sA, s0, sS]
 refine wpList_load_mid rfl 180 (.tmp 7) rfl A2 0 rfl _ _ (HR.out.2.1).rangeAll Tryz.underlying180 rfl (by kernel_rfl) ?_
 try simp only [Act.put, sA, s0, sS]
 refine wpList_load_mid rfl 180 (.tmp 8) rfl A3 0 rfl _ _ (HR.out.2.2.1).rangeAll Tryz.underlying180 rfl (by kernel_rfl) ?_
 try simp only [Act.put, sA, s0, sS]
 refine wpList_load_mid rfl 180 (.tmp 9) rfl A4 0 rfl _ _ (HR.out.2.2.2.1).rangeAll Tryz.underlying180 rfl (by kernel_rfl) ?_
 try simp only [Act.put, sA, s0, sS]
 refine wpList_load_mid rfl 180 (.tmp 10) rfl A5 0 rfl _ _ (HR.out.2.2.2.2.1).rangeAll Tryz.underlying180 rfl (by kernel_rfl) ?_
 try simp only [Act.put, sA, s0, sS]
 refine UJ (v := .slice (some ⟨dQ.heap.size, 0, none⟩) 5 5) (w' := dQ.alloc (.cells #[V 2, .func (.func 138) #[] #[Q3 Gb 0], V 3, .func (.func 139) #[] #[Q3 (X + 1) 0], V 4, .func (.func 140) #[] #[Q3 X 0, Q3 (X + 1) 0], V 5, .func (.func 141) #[] #[Q3 X 0, Q3 (X + 1) 0], V 6, .func (.func 144) #[] #[Q3 X 0, Q3 Gb 0, Q3 (X + 1) 0]] 180)) rfl (Xu [(0, .tmp 34), (1, .tmp 35), (2, .tmp 36), (3, .tmp 37), (4, .tmp 38)] [(0, .agg #[V 2, .func (.func 138) #[] #[Q3 Gb 0]]), (1, .agg #[V 3, .func (.func 139) #[] #[Q3 (X + 1) 0]]), (2, .agg #[V 4, .func (.func 140) #[] #[Q3 X 0, Q3 (X + 1) 0]]), (3, .agg #[V 5, .func (.func 141) #[] #[Q3 X 0, Q3 (X + 1) 0]]), (4, .agg #[V 6, .func (.func 144) #[] #[Q3 X 0, Q3 Gb 0, Q3 (X + 1) 0]])] rfl rfl (jgV dQ _ _ _ _ _ _ _ _ _ _)) ?_;have e7 := Blk.newL dQ [V 2, .func (.func 138) #[] #[Q3 Gb 0], V 3, .func (.func 139) #[] #[Q3 (X + 1) 0], V 4, .func (.func 140) #[] #[Q3 X 0, Q3 (X + 1) 0], V 5, .func (.func 141) #[] #[Q3 X 0, Q3 (X + 1) 0], V 6, .func (.func 144) #[] #[Q3 X 0, Q3 Gb 0, Q3 (X + 1) 0]] 180;have aS : Same dQ (dQ.alloc (.cells #[V 2, .func (.func 138) #[] #[Q3 Gb 0], V 3, .func (.func 139) #[] #[Q3 (X + 1) 0], V 4, .func (.func 140) #[] #[Q3 X 0, Q3 (X + 1) 0], V 5, .func (.func 141) #[] #[Q3 X 0, Q3 (X + 1) 0], V 6, .func (.func 144) #[] #[Q3 X 0, Q3 Gb 0, Q3 (X + 1) 0]] 180)) := kZ0.alloc _;obtain ⟨L1, zW⟩ : ∃ z, dQ.heap.size = z := ⟨_, rfl⟩;rw [zW] at e7 ⊢;generalize dQ.alloc (.cells #[V 2, .func (.func 138) #[] #[Q3 Gb 0], V 3, .func (.func 139) #[] #[Q3 (X + 1) 0], V 4, .func (.func 140) #[] #[Q3 X 0, Q3 (X + 1) 0], V 5, .func (.func 141) #[] #[Q3 X 0, Q3 (X + 1) 0], V 6, .func (.func 144) #[] #[Q3 X 0, Q3 Gb 0, Q3 (X + 1) 0]] 180) = ep at e7 aS ⊢;have jp := (show Hid (Blk ep A1 180 [V 2, .func (.func 138) #[] #[Q3 Gb 0]] ∧ Blk ep A2 180 [V 3, .func (.func 139) #[] #[Q3 (X + 1) 0]] ∧ Blk ep A3 180 [V 4, .func (.func 140) #[] #[Q3 X 0, Q3 (X + 1) 0]] ∧ Blk ep A4 180 [V 5, .func (.func 141) #[] #[Q3 X 0, Q3 (X + 1) 0]] ∧ Blk ep A5 180 [V 6, .func (.func 144) #[] #[Q3 X 0, Q3 Gb 0, Q3 (X + 1) 0]] ∧ Same a8 ep) from ⟨HR.out.1.same aS, HR.out.2.1.same aS, HR.out.2.2.1.same aS, HR.out.2.2.2.1.same aS, HR.out.2.2.2.2.1.same aS, HR.out.2.2.2.2.2.trans aS⟩);have od := (show Hid (Blk ep L0 180 [V 2, .func (.func 138) #[] #[Q3 Gb 0], V 3, .func (.func 139) #[] #[Q3 (X + 1) 0]] ∧ Blk ep L1 180 [V 2, .func (.func 138) #[] #[Q3 Gb 0], V 3, .func (.func 139) #[] #[Q3 (X + 1) 0], V 4, .func (.func 140) #[] #[Q3 X 0, Q3 (X + 1) 0], V 5, .func (.func 141) #[] #[Q3 X 0, Q3 (X + 1) 0], V 6, .func (.func 144) #[] #[Q3 X 0, Q3 Gb 0, Q3 (X + 1) 0]]) from ⟨mS.out.same aS, e7⟩);clear mS
 try simp only [Act.put, sA, s0, sS]
 have jw := hid (gV.out.same aS);clear gV;have gV := jw;clear HR jw e7 aS zW;have HR := jp;clear jp;refine wpList_load_mid rfl 180 (.tmp 6) rfl A1 0 rfl _ _ (HR.out.1).rangeAll Tryz.underlying180 rfl (by kernel_rfl) ?_
 try simp only [Act.put, sA, s0, sS]
 refine wpList_load_mid rfl 180 (.tmp 8) rfl A3 0 rfl _ _ (HR.out.2.2.1).rangeAll Tryz.underlying180 rfl (by kernel_rfl) ?_
 try simp only [Act.put, sA, s0, sS]
 refine wpList_load_mid rfl 180 (.tmp 9) rfl A4 0 rfl _ _ (HR.out.2.2.2.1).rangeAll Tryz.underlying180 rfl (by kernel_rfl) ?_
 try simp only [Act.put, sA, s0, sS]
 refine wpList_load_mid rfl 180 (.tmp 10) rfl A5 0 rfl _ _ (HR.out.2.2.2.2.1).rangeAll Tryz.underlying180 rfl (by kernel_rfl) ?_
 try simp only [Act.put, sA, s0, sS]
 refine UJ (v := .slice (some ⟨ep.heap.size, 0, none⟩) 4 4) (w' := ep.alloc (.cells #[V 2, .func (.func 138) #[] #[Q3 Gb 0], V 4, .func (.func 140) #[] #[Q3 X 0, Q3 (X + 1) 0], V 5, .func (.func 141) #[] #[Q3 X 0, Q3 (X + 1) 0], V 6, .func (.func 144) #[] #[Q3 X 0, Q3 Gb 0, Q3 (X + 1) 0]] 180)) rfl (Xu [(0, .tmp 40), (1, .tmp 41), (2, .tmp 42), (3, .tmp 43)] [(0, .agg #[V 2, .func (.func 138) #[] #[Q3 Gb 0]]), (1, .agg #[V 4, .func (.func 140) #[] #[Q3 X 0, Q3 (X + 1) 0]]), (2, .agg #[V 5, .func (.func 141) #[] #[Q3 X 0, Q3 (X + 1) 0]]), (3, .agg #[V 6, .func (.func 144) #[] #[Q3 X 0, Q3 Gb 0, Q3 (X + 1) 0]])] rfl rfl (jeJ ep _ _ _ _ _ _ _ _)) ?_;have dP := Blk.newL ep [V 2, .func (.func 138) #[] #[Q3 Gb 0], V 4, .func (.func 140) #[] #[Q3 X 0, Q3 (X + 1) 0], V 5, .func (.func 141) #[] #[Q3 X 0, Q3 (X + 1) 0], V 6, .func (.func 144) #[] #[Q3 X 0, Q3 Gb 0, Q3 (X + 1) 0]] 180;have aS : Same ep (ep.alloc (.cells #[V 2, .func (.func 138) #[] #[Q3 Gb 0], V 4, .func (.func 140) #[] #[Q3 X 0, Q3 (X + 1) 0], V 5, .func (.func 141) #[] #[Q3 X 0, Q3 (X + 1) 0], V 6, .func (.func 144) #[] #[Q3 X 0, Q3 Gb 0, Q3 (X + 1) 0]] 180)) := kZ0.alloc _;obtain ⟨L2, iu⟩ : ∃ z, ep.heap.size = z := ⟨_, rfl⟩;rw [iu] at dP ⊢;generalize ep.alloc (.cells #[V 2, .func (.func 138) #[] #[Q3 Gb 0], V 4, .func (.func 140) #[] #[Q3 X 0, Q3 (X + 1) 0], V 5, .func (.func 141) #[] #[Q3 X 0, Q3 (X + 1) 0], V 6, .func (.func 144) #[] #[Q3 X 0, Q3 Gb 0, Q3 (X + 1) 0]] 180) = gJ at dP aS ⊢;have jp := (show Hid (Blk gJ A1 180 [V 2, .func (.func 138) #[] #[Q3 Gb 0]] ∧ Blk gJ A2 180 [V 3, .func (.func 139) #[] #[Q3 (X + 1) 0]] ∧ Blk gJ A3 180 [V 4, .func (.func 140) #[] #[Q3 X 0, Q3 (X + 1) 0]] ∧ Blk gJ A4 180 [V 5, .func (.func 141) #[] #[Q3 X 0, Q3 (X + 1) 0]] ∧ Blk gJ A5 180 [V 6, .func (.func 144) #[] #[Q3 X 0, Q3 Gb 0, Q3 (X + 1) 0]] ∧ Same a8 gJ) from ⟨HR.out.1.same aS, HR.out.2.1.same aS, HR.out.2.2.1.same aS, HR.out.2.2.2.1.same aS, HR.out.2.2.2.2.1.same aS, HR.out.2.2.2.2.2.trans aS⟩);have iI := (show Hid (Blk gJ L0 180 [V 2, .func (.func 138) #[] #[Q3 Gb 0], V 3, .func (.func 139) #[] #[Q3 (X + 1) 0]] ∧ Blk gJ L1 180 [V 2, .func (.func 138) #[] #[Q3 Gb 0], V 3, .func (.func 139) #[] #[Q3 (X + 1) 0], V 4, .func (.func 140) #[] #[Q3 X 0, Q3 (X + 1) 0], V 5, .func (.func 141) #[] #[Q3 X 0, Q3 (X + 1) 0], V 6, .func (.func 144) #[] #[Q3 X 0, Q3 Gb 0, Q3 (X + 1) 0]] ∧ Blk gJ L2 180 [V 2, .func (.func 138) #[] #[Q3 Gb 0], V 4, .func (.func 140) #[] #[Q3 X 0, Q3 (X + 1) 0], V 5, .func (.func 141) #[] #[Q3 X 0, Q3 (X + 1) 0], V 6, .func (.func 144) #[] #[Q3 X 0, Q3 Gb 0, Q3 (X + 1) 0]]) from ⟨od.out.1.same aS, od.out.2.same aS, dP⟩);clear od
 try simp only [Act.put, sA, s0, sS]
 have jw := hid (gV.out.same aS);clear gV;have gV := jw;clear HR jw dP aS iu;have HR := jp;clear jp;refine wpList_load_mid rfl 180 (.tmp 6) rfl A1 0 rfl _ _ (HR.out.1).rangeAll Tryz.underlying180 rfl (by kernel_rfl) ?_
 try simp only [Act.put, sA, s0, sS]
 refine wpList_load_mid rfl 180 (.tmp 8) rfl A3 0 rfl _ _ (HR.out.2.2.1).rangeAll Tryz.underlying180 rfl (by kernel_rfl) ?_
 try simp only [Act.put, sA, s0, sS]
 refine wpList_load_mid rfl 180 (.tmp 9) rfl A4 0 rfl _ _ (HR.out.2.2.2.1).rangeAll Tryz.underlying180 rfl (by kernel_rfl) ?_
 try simp only [Act.put, sA, s0, sS]
 refine wpList_load_mid rfl 180 (.tmp 10) rfl A5 0 rfl _ _ (HR.out.2.2.2.2.1).rangeAll Tryz.underlying180 rfl (by kernel_rfl) ?_
 try simp only [Act.put, sA, s0, sS]
 refine UJ (v := .slice (some ⟨gJ.heap.size, 0, none⟩) 4 4) (w' := gJ.alloc (.cells #[V 2, .func (.func 138) #[] #[Q3 Gb 0], V 4, .func (.func 140) #[] #[Q3 X 0, Q3 (X + 1) 0], V 5, .func (.func 141) #[] #[Q3 X 0, Q3 (X + 1) 0], V 6, .func (.func 144) #[] #[Q3 X 0, Q3 Gb 0, Q3 (X + 1) 0]] 180)) rfl (Xu [(0, .tmp 45), (1, .tmp 46), (2, .tmp 47), (3, .tmp 48)] [(0, .agg #[V 2, .func (.func 138) #[] #[Q3 Gb 0]]), (1, .agg #[V 4, .func (.func 140) #[] #[Q3 X 0, Q3 (X + 1) 0]]), (2, .agg #[V 5, .func (.func 141) #[] #[Q3 X 0, Q3 (X + 1) 0]]), (3, .agg #[V 6, .func (.func 144) #[] #[Q3 X 0, Q3 Gb 0, Q3 (X + 1) 0]])] rfl rfl (jeJ gJ _ _ _ _ _ _ _ _)) ?_;have lF := Blk.newL gJ [V 2, .func (.func 138) #[] #[Q3 Gb 0], V 4, .func (.func 140) #[] #[Q3 X 0, Q3 (X + 1) 0], V 5, .func (.func 141) #[] #[Q3 X 0, Q3 (X + 1) 0], V 6, .func (.func 144) #[] #[Q3 X 0, Q3 Gb 0, Q3 (X + 1) 0]] 180;have aS : Same gJ (gJ.alloc (.cells #[V 2, .func (.func 138) #[] #[Q3 Gb 0], V 4, .func (.func 140) #[] #[Q3 X 0, Q3 (X + 1) 0], V 5, .func (.func 141) #[] #[Q3 X 0, Q3 (X + 1) 0], V 6, .func (.func 144) #[] #[Q3 X 0, Q3 Gb 0, Q3 (X + 1) 0]] 180)) := kZ0.alloc _;obtain ⟨L3, rO⟩ : ∃ z, gJ.heap.size = z := ⟨_, rfl⟩;rw [rO] at lF ⊢;generalize gJ.alloc (.cells #[V 2, .func (.func 138) #[] #[Q3 Gb 0], V 4, .func (.func 140) #[] #[Q3 X 0, Q3 (X + 1) 0], V 5, .func (.func 141) #[] #[Q3 X 0, Q3 (X + 1) 0], V 6, .func (.func 144) #[] #[Q3 X 0, Q3 Gb 0, Q3 (X + 1) 0]] 180) = gx at lF aS ⊢;have jp := (show Hid (Blk gx A1 180 [V 2, .func (.func 138) #[] #[Q3 Gb 0]] ∧ Blk gx A2 180 [V 3, .func (.func 139) #[] #[Q3 (X + 1) 0]] ∧ Blk gx A3 180 [V 4, .func (.func 140) #[] #[Q3 X 0, Q3 (X + 1) 0]] ∧ Blk gx A4 180 [V 5, .func (.func 141) #[] #[Q3 X 0, Q3 (X + 1) 0]] ∧ Blk gx A5 180 [V 6, .func (.func 144) #[] #[Q3 X 0, Q3 Gb 0, Q3 (X + 1) 0]] ∧ Same a8 gx) from ⟨HR.out.1.same aS, HR.out.2.1.same aS, HR.out.2.2.1.same aS, HR.out.2.2.2.1.same aS, HR.out.2.2.2.2.1.same aS, HR.out.2.2.2.2.2.trans aS⟩);have qJ := (show Hid (Blk gx L0 180 [V 2, .func (.func 138) #[] #[Q3 Gb 0], V 3, .func (.func 139) #[] #[Q3 (X + 1) 0]] ∧ Blk gx L1 180 [V 2, .func (.func 138) #[] #[Q3 Gb 0], V 3, .func (.func 139) #[] #[Q3 (X + 1) 0], V 4, .func (.func 140) #[] #[Q3 X 0, Q3 (X + 1) 0], V 5, .func (.func 141) #[] #[Q3 X 0, Q3 (X + 1) 0], V 6, .func (.func 144) #[] #[Q3 X 0, Q3 Gb 0, Q3 (X + 1) 0]] ∧ Blk gx L2 180 [V 2, .func (.func 138) #[] #[Q3 Gb 0], V 4, .func (.func 140) #[] #[Q3 X 0, Q3 (X + 1) 0], V 5, .func (.func 141) #[] #[Q3 X 0, Q3 (X + 1) 0], V 6, .func (.func 144) #[] #[Q3 X 0, Q3 Gb 0, Q3 (X + 1) 0]] ∧ Blk gx L3 180 [V 2, .func (.func 138) #[] #[Q3 Gb 0], V 4, .func (.func 140) #[] #[Q3 X 0, Q3 (X + 1) 0], V 5, .func (.func 141) #[] #[Q3 X 0, Q3 (X + 1) 0], V 6, .func (.func 144) #[] #[Q3 X 0, Q3 Gb 0, Q3 (X + 1) 0]]) from ⟨iI.out.1.same aS, iI.out.2.1.same aS, iI.out.2.2.same aS, lF⟩);clear iI
 try simp only [Act.put, sA, s0, sS]
 have jw := hid (gV.out.same aS);clear gV;have gV := jw;clear HR jw lF aS rO;have HR := jp;clear jp;refine wpList_load_mid rfl 180 (.tmp 6) rfl A1 0 rfl _ _ (HR.out.1).rangeAll Tryz.underlying180 rfl (by kernel_rfl) ?_
 try simp only [Act.put, sA, s0, sS]
 refine UJ (v := .slice (some ⟨gx.heap.size, 0, none⟩) 1 1) (w' := gx.alloc (.cells #[V 2, .func (.func 138) #[] #[Q3 Gb 0]] 180)) rfl (Xu [(0, .tmp 50)] [(0, .agg #[V 2, .func (.func 138) #[] #[Q3 Gb 0]])] rfl rfl (jeI gx _ _)) ?_;have jN := Blk.newL gx [V 2, .func (.func 138) #[] #[Q3 Gb 0]] 180;have aS : Same gx (gx.alloc (.cells #[V 2, .func (.func 138) #[] #[Q3 Gb 0]] 180)) := kZ0.alloc _;obtain ⟨L4, Na⟩ : ∃ z, gx.heap.size = z := ⟨_, rfl⟩;rw [Na] at jN ⊢;generalize gx.alloc (.cells #[V 2, .func (.func 138) #[] #[Q3 Gb 0]] 180) = gL at jN aS ⊢;have jp := (show Hid (Blk gL A1 180 [V 2, .func (.func 138) #[] #[Q3 Gb 0]] ∧ Blk gL A2 180 [V 3, .func (.func 139) #[] #[Q3 (X + 1) 0]] ∧ Blk gL A3 180 [V 4, .func (.func 140) #[] #[Q3 X 0, Q3 (X + 1) 0]] ∧ Blk gL A4 180 [V 5, .func (.func 141) #[] #[Q3 X 0, Q3 (X + 1) 0]] ∧ Blk gL A5 180 [V 6, .func (.func 144) #[] #[Q3 X 0, Q3 Gb 0, Q3 (X + 1) 0]] ∧ Same a8 gL) from ⟨HR.out.1.same aS, HR.out.2.1.same aS, HR.out.2.2.1.same aS, HR.out.2.2.2.1.same aS, HR.out.2.2.2.2.1.same aS, HR.out.2.2.2.2.2.trans aS⟩);have mF := (show Hid (Blk gL L0 180 [V 2, .func (.func 138) #[] #[Q3 Gb 0], V 3, .func (.func 139) #[] #[Q3 (X + 1) 0]] ∧ Blk gL L1 180 [V 2, .func (.func 138) #[] #[Q3 Gb 0], V 3, .func (.func 139) #[] #[Q3 (X + 1) 0], V 4, .func (.func 140) #[] #[Q3 X 0, Q3 (X + 1) 0], V 5, .func (.func 141) #[] #[Q3 X 0, Q3 (X + 1) 0], V 6, .func (.func 144) #[] #[Q3 X 0, Q3 Gb 0, Q3 (X + 1) 0]] ∧ Blk gL L2 180 [V 2, .func (.func 138) #[] #[Q3 Gb 0], V 4, .func (.func 140) #[] #[Q3 X 0, Q3 (X + 1) 0], V 5, .func (.func 141) #[] #[Q3 X 0, Q3 (X + 1) 0], V 6, .func (.func 144) #[] #[Q3 X 0, Q3 Gb 0, Q3 (X + 1) 0]] ∧ Blk gL L3 180 [V 2, .func (.func 138) #[] #[Q3 Gb 0], V 4, .func (.func 140) #[] #[Q3 X 0, Q3 (X + 1) 0], V 5, .func (.func 141) #[] #[Q3 X 0, Q3 (X + 1) 0], V 6, .func (.func 144) #[] #[Q3 X 0, Q3 Gb 0, Q3 (X + 1) 0]] ∧ Blk gL L4 180 [V 2, .func (.func 138) #[] #[Q3 Gb 0]]) from ⟨qJ.out.1.same aS, qJ.out.2.1.same aS, qJ.out.2.2.1.same aS, qJ.out.2.2.2.same aS, jN⟩);clear qJ
 try simp only [Act.put, sA, s0, sS]
 have jw := hid (gV.out.same aS);clear gV;have gV := jw;clear HR jw jN aS Na;have HR := jp;clear jp;refine wpList_load_mid rfl 180 (.tmp 6) rfl A1 0 rfl _ _ (HR.out.1).rangeAll Tryz.underlying180 rfl (by kernel_rfl) ?_
 try simp only [Act.put, sA, s0, sS]
 refine UJ (v := .slice (some ⟨gL.heap.size, 0, none⟩) 1 1) (w' := gL.alloc (.cells #[V 2, .func (.func 138) #[] #[Q3 Gb 0]] 180)) rfl (Xu [(0, .tmp 52)] [(0, .agg #[V 2, .func (.func 138) #[] #[Q3 Gb 0]])] rfl rfl (jeI gL _ _)) ?_;have mN := Blk.newL gL [V 2, .func (.func 138) #[] #[Q3 Gb 0]] 180;have aS : Same gL (gL.alloc (.cells #[V 2, .func (.func 138) #[] #[Q3 Gb 0]] 180)) := kZ0.alloc _;obtain ⟨L5, OI⟩ : ∃ z, gL.heap.size = z := ⟨_, rfl⟩;rw [OI] at mN ⊢;generalize gL.alloc (.cells #[V 2, .func (.func 138) #[] #[Q3 Gb 0]] 180) = eC at mN aS ⊢;have jp := (show Hid (Blk eC A1 180 [V 2, .func (.func 138) #[] #[Q3 Gb 0]] ∧ Blk eC A2 180 [V 3, .func (.func 139) #[] #[Q3 (X + 1) 0]] ∧ Blk eC A3 180 [V 4, .func (.func 140) #[] #[Q3 X 0, Q3 (X + 1) 0]] ∧ Blk eC A4 180 [V 5, .func (.func 141) #[] #[Q3 X 0, Q3 (X + 1) 0]] ∧ Blk eC A5 180 [V 6, .func (.func 144) #[] #[Q3 X 0, Q3 Gb 0, Q3 (X + 1) 0]] ∧ Same a8 eC) from ⟨HR.out.1.same aS, HR.out.2.1.same aS, HR.out.2.2.1.same aS, HR.out.2.2.2.1.same aS, HR.out.2.2.2.2.1.same aS, HR.out.2.2.2.2.2.trans aS⟩);have sg := (show Hid (Blk eC L0 180 [V 2, .func (.func 138) #[] #[Q3 Gb 0], V 3, .func (.func 139) #[] #[Q3 (X + 1) 0]] ∧ Blk eC L1 180 [V 2, .func (.func 138) #[] #[Q3 Gb 0], V 3, .func (.func 139) #[] #[Q3 (X + 1) 0], V 4, .func (.func 140) #[] #[Q3 X 0, Q3 (X + 1) 0], V 5, .func (.func 141) #[] #[Q3 X 0, Q3 (X + 1) 0], V 6, .func (.func 144) #[] #[Q3 X 0, Q3 Gb 0, Q3 (X + 1) 0]] ∧ Blk eC L2 180 [V 2, .func (.func 138) #[] #[Q3 Gb 0], V 4, .func (.func 140) #[] #[Q3 X 0, Q3 (X + 1) 0], V 5, .func (.func 141) #[] #[Q3 X 0, Q3 (X + 1) 0], V 6, .func (.func 144) #[] #[Q3 X 0, Q3 Gb 0, Q3 (X + 1) 0]] ∧ Blk eC L3 180 [V 2, .func (.func 138) #[] #[Q3 Gb 0], V 4, .func (.func 140) #[] #[Q3 X 0, Q3 (X + 1) 0], V 5, .func (.func 141) #[] #[Q3 X 0, Q3 (X + 1) 0], V 6, .func (.func 144) #[] #[Q3 X 0, Q3 Gb 0, Q3 (X + 1) 0]] ∧ Blk eC L4 180 [V 2, .func (.func 138) #[] #[Q3 Gb 0]] ∧ Blk eC L5 180 [V 2, .func (.func 138) #[] #[Q3 Gb 0]]) from ⟨mF.out.1.same aS, mF.out.2.1.same aS, mF.out.2.2.1.same aS, mF.out.2.2.2.1.same aS, mF.out.2.2.2.2.same aS, mN⟩);clear mF
 try simp only [Act.put, sA, s0, sS]
 have jw := hid (gV.out.same aS);clear gV;have gV := jw;clear HR jw mN aS OI;have HR := jp;clear jp;refine UJ (v := .agg #[V0, V0, Q4 L0 2 2, Q4 L1 5 5, Q4 L2 4 4, Q4 L3 4 4, Q4 L4 1 1, Q4 L5 1 1]) (w' := eC) rfl (jaN [(2, .tmp 33), (3, .tmp 39), (4, .tmp 44), (5, .tmp 49), (6, .tmp 51), (7, .tmp 53)] [(2, Q4 L0 2 2), (3, Q4 L1 5 5), (4, Q4 L2 4 4), (5, Q4 L3 4 4), (6, Q4 L4 1 1), (7, Q4 L5 1 1)] rfl rfl (jgX eC (some ⟨L0, 0, none⟩) (some ⟨L1, 0, none⟩) (some ⟨L2, 0, none⟩) (some ⟨L3, 0, none⟩) (some ⟨L4, 0, none⟩) (some ⟨L5, 0, none⟩) 2 5 4 4 1 1 2 5 4 4 1 1)) ?_
 try simp only [Act.put, sA, s0, sS]
 refine UJ (v := .pointer (some ⟨eC.heap.size, 0, none⟩)) (w' := eC.alloc (.cells #[V0, V0, V0, V0, V0, V0, V0, V0] 184)) rfl (jgA rfl (jg8 eC)) ?_;have EF := Blk.newL eC [V0, V0, V0, V0, V0, V0, V0, V0] 184;have sf : Same eC (eC.alloc (.cells #[V0, V0, V0, V0, V0, V0, V0, V0] 184)) := kZ0.alloc _;obtain ⟨Y, hY⟩ : ∃ z, eC.heap.size = z := ⟨_, rfl⟩;rw [hY] at EF ⊢;generalize eC.alloc (.cells #[V0, V0, V0, V0, V0, V0, V0, V0] 184) = Bu at EF sf ⊢
 try simp only [Act.put, sA, s0, sS]
 refine wpList_store_mid rfl 184 (.tmp 11) (.tmp 54) rfl Y 0 #[V0, V0, Q4 L0 2 2, Q4 L1 5 5, Q4 L2 4 4, Q4 L3 4 4, Q4 L4 1 1, Q4 L5 1 1] rfl rfl (EF.there 0 8 (by decide)) (by kernel_rfl) (by simp [Value.oneCell']) ?_
 try simp only [Act.put, sA, s0, sS]
 have yW := jc0 EF [V0, V0, Q4 L0 2 2, Q4 L1 5 5, Q4 L2 4 4, Q4 L3 4 4, Q4 L4 1 1, Q4 L5 1 1] rfl;have gA : Same eC (Bu.setCells Y 0 [V0, V0, Q4 L0 2 2, Q4 L1 5 5, Q4 L2 4 4, Q4 L3 4 4, Q4 L4 1 1, Q4 L5 1 1]) := Kept.setCells (.inl (Nat.le_of_eq hY)) _ _ sf;clear EF sf hY;generalize Bu.setCells Y 0 [V0, V0, Q4 L0 2 2, Q4 L1 5 5, Q4 L2 4 4, Q4 L3 4 4, Q4 L4 1 1, Q4 L5 1 1] = dJ at yW gA ⊢;have HS := (show Hid (Blk dJ L0 180 [V 2, .func (.func 138) #[] #[Q3 Gb 0], V 3, .func (.func 139) #[] #[Q3 (X + 1) 0]] ∧ Blk dJ L1 180 [V 2, .func (.func 138) #[] #[Q3 Gb 0], V 3, .func (.func 139) #[] #[Q3 (X + 1) 0], V 4, .func (.func 140) #[] #[Q3 X 0, Q3 (X + 1) 0], V 5, .func (.func 141) #[] #[Q3 X 0, Q3 (X + 1) 0], V 6, .func (.func 144) #[] #[Q3 X 0, Q3 Gb 0, Q3 (X + 1) 0]] ∧ Blk dJ L2 180 [V 2, .func (.func 138) #[] #[Q3 Gb 0], V 4, .func (.func 140) #[] #[Q3 X 0, Q3 (X + 1) 0], V 5, .func (.func 141) #[] #[Q3 X 0, Q3 (X + 1) 0], V 6, .func (.func 144) #[] #[Q3 X 0, Q3 Gb 0, Q3 (X + 1) 0]] ∧ Blk dJ L3 180 [V 2, .func (.func 138) #[] #[Q3 Gb 0], V 4, .func (.func 140) #[] #[Q3 X 0, Q3 (X + 1) 0], V 5, .func (.func 141) #[] #[Q3 X 0, Q3 (X + 1) 0], V 6, .func (.func 144) #[] #[Q3 X 0, Q3 Gb 0, Q3 (X + 1) 0]] ∧ Blk dJ L4 180 [V 2, .func (.func 138) #[] #[Q3 Gb 0]] ∧ Blk dJ L5 180 [V 2, .func (.func 138) #[] #[Q3 Gb 0]]) from ⟨sg.out.1.same gA, sg.out.2.1.same gA, sg.out.2.2.1.same gA, sg.out.2.2.2.1.same gA, sg.out.2.2.2.2.1.same gA, sg.out.2.2.2.2.2.same gA⟩);have DN := hid (gV.out.same gA);have nO := (show Hid (Same a8 dJ) from HR.out.2.2.2.2.2.trans gA);have HY := hid yW;clear yW gA sg gV HR fB;have HB := (show Hid (∀ wx, Same dJ wx → Blk wx X 83 [Q3 M 0] ∧ Blk wx (X + 1) 71 [V kd, V stx, V ah, V cnt, .slice sa sn sc, .slice ka kn kc] ∧ Blk wx Gb 130 [.pointer p] ∧ PmI wx lo M gp gf gl x) from fun wx hk => ⟨(HI.out wx (nO.out.trans hk)).1, (HI.out wx (nO.out.trans hk)).2.1, DN.out.same hk, H.out.same (HI.out wx (nO.out.trans hk)).2.2⟩)
 have mB := (show Hid (∀ L, Blk dJ L 180 (kRu.all (ruL p sn gp kd stx ah st WS Gb X (jbh kd))) → RuI dJ dJ L CD (ruL p sn gp kd stx ah st WS Gb X (jbh kd))) from fun L hL => by
  have hk : kd = 2 ∨ kd = 3 ∨ kd = 4 ∨ kd = 5 ∨ kd = 6 ∨ kd = 7 := by have := jO.out; omega
  have DY : (p = none ∧ Uw st.txns stx = none) ∨ (∃ a, p = some a) ∧ ∃ l, Uw st.txns stx = some l := by
   rcases Bc.out with ⟨h1, h2, _⟩ | ⟨pre, t, post, _, _, h1, h2⟩
   ·exact .inl ⟨by rw [← vg.out]; exact h1, h2⟩
   ·exact .inr ⟨⟨_, by rw [← vg.out]; exact h1⟩, _, h2⟩
  have h5 : decide (p = none) = false → jeo dJ ⟨6, 144, [Q3 X 0, Q3 Gb 0, Q3 (X + 1) 0], !(V7 st.recs WS ah).1⟩ := fun hb => by
   have bl := of_decide_eq_false hb
   rcases Bc.out with ⟨h1, h2, _⟩ | ⟨pre, t, post, h3, h4, h1, h2⟩
   ·exact absurd (vg.out.symm.trans h1) bl
   ·have hp : p = some ⟨t.g, 0, none⟩ := vg.out.symm.trans h1
    have hw : WS = TU t.ps := by
     have := yS.out;rw [h2] at this;exact this.symm
    refine ⟨jfp, fun wx hk => ?_⟩;obtain ⟨b1, b2, b3, b4⟩ := HB.out wx hk;rw [hp] at b3
    have hm : t ∈ x.te := by rw [h3]; exact List.mem_append_right _ List.mem_cons_self
    have := jgl lo M gp gf gl x X (X + 1) Gb pre post t st.recs wx b4 b1 b2 b3 h3 HD.out.recs (vX.out t hm);rw [← hw] at this;exact this
  have pI : decide (p = none) = false → ∀ i : Nat, jeo dJ (if i = 1 then ⟨2, 138, [Q3 Gb 0], decide (p = none)⟩ else if i = 2 then ⟨3, 139, [Q3 (X + 1) 0], decide ((1000 : Int) < (sn : Int))⟩ else if i = 3 then ⟨4, 140, [Q3 X 0, Q3 (X + 1) 0], !(decide (0 ≤ ah) && decide (ah < gp * 32))⟩ else if i = 4 then ⟨5, 141, [Q3 X 0, Q3 (X + 1) 0], !(WT (T9 stx ah 0 st.locks) (if kd = 5 then 1 else 2))⟩ else ⟨6, 144, [Q3 X 0, Q3 Gb 0, Q3 (X + 1) 0], !(V7 st.recs WS ah).1⟩) := fun hb i => by
   split
   ·exact ⟨jbC, fun wx hk => jc2 Gb p wx (HB.out wx hk).2.2.1⟩
   split
   ·exact ⟨jfm, fun wx hk => jgi (X + 1) wx (HB.out wx hk).2.1⟩
   split
   ·exact ⟨jfn, fun wx hk => jgj lo M gp gf gl x X (X + 1) wx (HB.out wx hk).2.2.2 (HB.out wx hk).1 (HB.out wx hk).2.1 gH.out⟩
   split
   ·exact ⟨jfo, fun wx hk => jgk lo M gp gf gl x X (X + 1) st.locks wx (HB.out wx hk).2.2.2 (HB.out wx hk).1 (HB.out wx hk).2.1 HD.out.locks tN.out⟩
   exact h5 hb
  have h1 : jeo dJ ⟨2, 138, [Q3 Gb 0], decide (p = none)⟩ := ⟨jbC, fun wx hk => jc2 Gb p wx (HB.out wx hk).2.2.1⟩
  have fu : ∀ ids : List Nat, RuA dJ (ruL p sn gp kd stx ah st WS Gb X (1 :: ids)) := fun ids => RuA.of h1 (fun hb y hy => by
   obtain ⟨i, _, rfl⟩ := List.mem_map.1 hy
   exact pI hb i)
  have hf := jep gp st kd stx ah cnt sd kb sn Gb X qX.out jO.out p (Uw st.txns stx) DY;rw [yS.out, Lz.out] at hf;refine ⟨hL, ?_, ?_, hf, kZ0⟩
  ·rcases hk with rfl | rfl | rfl | rfl | rfl | rfl <;> (unfold ruL; rw [List.length_map]; decide)
  ·rcases hk with rfl | rfl | rfl | rfl | rfl | rfl
   ·exact fu [2]
   ·exact fu [2, 3, 4, 5]
   ·exact fu [3, 4, 5]
   ·exact fu [3, 4, 5]
   ·exact fu []
   ·exact fu [])
 have HQ := (show Hid (Same w dJ) from (HI.out dJ nO.out).2.2);have q0 := (HB.out dJ kZ0).2.1.cell 0;simp only [List.getElem?_cons_zero] at q0
 have hk : kd = 2 ∨ kd = 3 ∨ kd = 4 ∨ kd = 5 ∨ kd = 6 ∨ kd = 7 := by have := jO.out; omega
 clear Bc vg yS Lz tN vX qX gH HI nO HB DN kt
 go_upto_region 8 with fail
 go_cut [58, 59, 60] (fun v nn z wx => ∃ (L : Nat) (rs : List ERu), v = Q4 L rs.length rs.length ∧ nn = V rs.length ∧ z = V 0 ∧ Hid (RuI dJ wx L CD rs))
 case first =>
  rcases hk with rfl | rfl | rfl | rfl | rfl | rfl
  ·have y0 := HY.out.cell 2
   simp only [List.getElem?_cons_zero, List.getElem?_cons_succ] at y0;have HZ := (show Hid (RuI dJ dJ L0 CD (ruL p sn gp 2 stx ah st WS Gb X (jbh 2))) from mB.out L0 HS.out.1);clear mB HS HY
   go_wp2_with fail
   go_meet
   case rel => exact ⟨L0, _, rfl, rfl, rfl, HZ⟩
  ·have y1 := HY.out.cell 3
   simp only [List.getElem?_cons_zero, List.getElem?_cons_succ] at y1;have HZ := (show Hid (RuI dJ dJ L1 CD (ruL p sn gp 3 stx ah st WS Gb X (jbh 3))) from mB.out L1 HS.out.2.1);clear mB HS HY
   go_wp2_with fail
   go_meet
   case rel => exact ⟨L1, _, rfl, rfl, rfl, HZ⟩
  ·have y2 := HY.out.cell 4
   simp only [List.getElem?_cons_zero, List.getElem?_cons_succ] at y2;have HZ := (show Hid (RuI dJ dJ L2 CD (ruL p sn gp 4 stx ah st WS Gb X (jbh 4))) from mB.out L2 HS.out.2.2.1);clear mB HS HY
   go_wp2_with fail
   go_meet
   case rel => exact ⟨L2, _, rfl, rfl, rfl, HZ⟩
  ·have y3 := HY.out.cell 5
   simp only [List.getElem?_cons_zero, List.getElem?_cons_succ] at y3;have HZ := (show Hid (RuI dJ dJ L3 CD (ruL p sn gp 5 stx ah st WS Gb X (jbh 5))) from mB.out L3 HS.out.2.2.2.1);clear mB HS HY
   go_wp2_with fail
   go_meet
   case rel => exact ⟨L3, _, rfl, rfl, rfl, HZ⟩
  ·have y4 := HY.out.cell 6
   simp only [List.getElem?_cons_zero, List.getElem?_cons_succ] at y4;have HZ := (show Hid (RuI dJ dJ L4 CD (ruL p sn gp 6 stx ah st WS Gb X (jbh 6))) from mB.out L4 HS.out.2.2.2.2.1);clear mB HS HY
   go_wp2_with fail
   go_meet
   case rel => exact ⟨L4, _, rfl, rfl, rfl, HZ⟩
  ·have y5 := HY.out.cell 7
   simp only [List.getElem?_cons_zero, List.getElem?_cons_succ] at y5;have HZ := (show Hid (RuI dJ dJ L5 CD (ruL p sn gp 7 stx ah st WS Gb X (jbh 7))) from mB.out L5 HS.out.2.2.2.2.2);clear mB HS HY
   go_wp2_with fail
   go_meet
   case rel => exact ⟨L5, _, rfl, rfl, rfl, HZ⟩
 case rest =>
  obtain ⟨L, rs, rfl, rfl, rfl, rp⟩ := hcut;obtain ⟨n, hn⟩ : ∃ n, rs.length = n := ⟨_, rfl⟩
  have Nc : n ≤ 5 := by rw [← hn]; exact rp.out.few
  rw [hn];have HN := hid hn;clear hn mB HS HY q0 hk jO H HD
  go_wp2_with fail
  go_loopw [60] (fun i wr => ∃ k : Nat, k ≤ n ∧ i = V k ∧ Hid ((∀ j (hj : j < rs.length), j < k → rs[j].bit = false) ∧ Same wc wr)) (fun i _ => n - (intOf i).toNat)
  case atStart => exact ⟨0, Nat.zero_le _, rfl, fun j hj h0 => absurd h0 (Nat.not_lt_zero _), kZ0⟩
  case round =>
   obtain ⟨k, hk, rfl, HK⟩ := hrel
   by_cases aG : k < n
   case neg =>
    obtain rfl : n = k := by omega
    have HR := (show Hid (CD = 0) from by
     show CD = 0
     rw [← rp.out.first]
     exact Z0 rs (fun j hj => HK.out.1 j hj (by rw [← HN.out]; exact hj)))
    have rF := hid ((HQ.out.trans rp.out.same).trans HK.out.2);go_wp2;go_ret;exact ⟨by rw [HR.out]; rfl, rF.out⟩
   have h1 : k < rs.length := by rw [HN.out]; exact aG
   have iL := (show Hid (jeo dJ rs[k]) from rp.out.each k h1 (fun j hj => HK.out.1 j (by omega) hj))
   have C1 := (show Hid (rs[k].bit = true → CD = rs[k].code) from fun hb => by
    rw [← rp.out.first]
    exact jbF rs k h1 (fun j hj => HK.out.1 j (by omega) hj) hb)
   have Gc := (show Hid (rs[k].bit = false → ∀ j (hj : j < rs.length), j < k + 1 → rs[j].bit = false) from fun hb j hj h2 => by
    rcases Nat.lt_succ_iff_lt_or_eq.1 h2 with h3 | h3
    ·exact HK.out.1 j hj h3
    ·subst h3; exact hb)
   have r0 : wr.cell? ⟨L, k * 2, none⟩ = some (V rs[k].code) := by
    have h3 := (rp.out.row.same HK.out.2).cell (k * 2 + 0);rw [show k * 2 + 0 = k * kRu.m + 0 from rfl, kRu.all_at rs k 0 h1 (by decide)] at h3;exact h3
   have r1 : wr.cell? ⟨L, k * 2 + 1, none⟩ = some (.func (.func rs[k].fid) #[] rs[k].cap.toArray) := by
    have h3 := (rp.out.row.same HK.out.2).cell (k * 2 + 1);rw [show k * 2 + 1 = k * kRu.m + 1 from rfl, kRu.all_at rs k 1 h1 (by decide)] at h3;exact h3
   obtain ⟨cd, zP⟩ : ∃ z, rs[k].code = z := ⟨_, rfl⟩;obtain ⟨bt, Hg⟩ : ∃ z, rs[k].bit = z := ⟨_, rfl⟩;obtain ⟨fid, AA⟩ : ∃ z, rs[k].fid = z := ⟨_, rfl⟩;obtain ⟨cp, Hr⟩ : ∃ z, rs[k].cap.toArray = z := ⟨_, rfl⟩
   have cz : ∀ (args : Array Value) (wx : World), (callFunc fid args).run Tryz.prog wx = .ok (.enter fid args) wx := by rw [← AA]; exact iL.out.1
   have KC := (show Hid (∀ wx, Same dJ wx → Calls Tryz.prog fid cp wx fun e w' => e = .returned (.bool bt) ∧ Same wx w') from by
    rw [← AA, ← Hr, ← Hg]
    exact iL.out.2)
   rw [zP] at r0 C1;rw [AA, Hr] at r1;rw [Hg] at C1 Gc;clear iL zP Hg AA Hr h1;have aV := Blk.newL wr [V cd, .func (.func fid) #[] cp] 180;have ae : Same wr (wr.alloc (.cells #[V cd, .func (.func fid) #[] cp] 180)) := kZ0.alloc _;obtain ⟨Z, hZ⟩ : ∃ X, wr.heap.size = X := ⟨_, rfl⟩;rw [hZ] at aV
   go_upto_region 11 with fail
   try rw [hZ]
   generalize wr.alloc (.cells #[V cd, .func (.func fid) #[] cp] 180) = w2 at aV ae ⊢;have ap := hid (HK.out.2.trans ae);have eN := hid aV;obtain ⟨x0, x1⟩ := aV.all2;clear aV ae hZ HK r0 r1;have kc := KC.out w2 (rp.out.same.trans ap.out)
   go_wp2_with fail
   refine kc.mono ?_;rintro e w3 ⟨rfl, ar⟩;have ax := hid (ap.out.trans ar);have rF := hid ((HQ.out.trans rp.out.same).trans ax.out);obtain ⟨y0, y1⟩ := (eN.out.same ar).all2;clear kc ar x0 x1 eN KC cz ap
   cases bt with
   | true =>
    have HR := (show Hid (CD = cd) from C1.out rfl);clear C1 Gc;go_wp2;go_ret;exact ⟨by rw [HR.out]; rfl, rF.out⟩
   | false =>
    have HR := (show Hid (∀ j (hj : j < rs.length), j < k + 1 → rs[j].bit = false) from Gc.out rfl);clear C1 Gc;go_wp2;go_roundw
    case rel => exact ⟨k + 1, by omega, by go_num, HR.out, ax.out⟩
    case measure => simp [intOf]; omega
end Go.Proofs.YtljfcdkhicffcaaGreat
