import Derived.Test.YtljfcdkhicffcaaGreatG08
namespace Go.Proofs.YtljfcdkhicffcaaGreat
set_option maxRecDepth 100000
set_option maxHeartbeats 8000000
set_option linter.unusedVariables false
set_option linter.unusedSimpArgs false
open Go Go.RowKit
def jeZ (gp : Int) (rs : List EHeapRecord) (ts : List ETx) (ls : List T3) (txn id : Int) : Bool := decide (id < 0) || decide (gp * 32 ≤ id) || decide (U5 ls txn id ≠ 0) || rs.any (fun r => decide (r.id = id)) || ts.any (fun t => t.ps.any (fun p => decide (p.id = id)))
theorem jbR {α : Type} {f : α → Bool} {l : List α} {j : Nat} (h : j < l.length) (hf : f l[j] = true) : l.any f = true := List.any_eq_true.2 ⟨l[j], List.getElem_mem h, hf⟩
theorem any_none {α : Type} {f : α → Bool} {l : List α} (h : ∀ i, (hi : i < l.length) → f l[i] = false) : l.any f = false := by
 rw [List.any_eq_false];intro x hx;obtain ⟨i, hi, rfl⟩ := List.getElem_of_mem hx;rw [h i hi];simp
theorem jcz (M : Nat) (gp : Int) (rv : Value) (rs : List EHeapRecord) (tv : Value) (ts : List ETx) (x : FR) (txn id : Int) (w : World) (hg : 0 ≤ gp ∧ gp ≤ 1000) (jI : w.cell? ⟨M, 0, none⟩ = some (V gp)) (yw : w.cell? ⟨M, 4, none⟩ = some rv) (zq : w.cell? ⟨M, 5, none⟩ = some tv) (EL : w.cell? ⟨M, 6, none⟩ = some x.v) (hr : RdR kHeapRecord w rv rs) (ht : RdR kTx w tv ts) (hw : ∀ t ∈ ts, RdR kWr w t.v t.ps) (hx : RdF 3 w x) :
  Calls Tryz.prog 86 #[Q3 M 0, V txn, V id] w fun e w' => e = .returned (.bool (jeZ gp rs ts (tri x.bs) txn id)) ∧ Same w w' := by
 have kO := WE x txn id w hx;obtain ⟨xe, xa, xn, xc, xb⟩ := x;dsimp only [FR.v] at EL kO ⊢;obtain ⟨ot, BF⟩ : ∃ z, U5 (tri xb) txn id = z := ⟨_, rfl⟩;obtain ⟨R, hR⟩ : ∃ z, jeZ gp rs ts (tri xb) txn id = z := ⟨_, rfl⟩;rw [hR];unfold jeZ at hR;rw [BF] at kO hR
 have Au : IntKind.i64.wrap (gp * 32) = gp * 32 := by rw [IntKind.wrap_i64]; omega
 have HR := hid hR;have NZ := hid hr;have Nz := hid ht;have eJ := hid hw;have bG := hr.max;have iS := ht.max;unfold maxLen at bG iS;obtain ⟨ra, rc, rfl⟩ := hr.form;obtain ⟨ta, tc, rfl⟩ := ht.form;obtain ⟨L, hL⟩ : ∃ n, rs.length = n := ⟨_, rfl⟩;obtain ⟨L3, rO⟩ : ∃ n, ts.length = n := ⟨_, rfl⟩;have HL := hid hL;have Ee := hid rO;rw [hL] at yw bG NZ;rw [rO] at zq iS Nz;clear hr ht hw hx BF hR hL rO
 by_cases h1 : id < 0
 case pos =>
  have e : R = true := by rw [← HR.out, decide_eq_true h1]; rfl
  subst e
  go_enter Tryz.func86, Tryz.ntmps86
  go_wp2;go_ret;exact ⟨rfl, kZ0⟩
 have H1 := hid h1
 by_cases h2 : gp * 32 ≤ id
 case pos =>
  have e : R = true := by rw [← HR.out, decide_eq_true h2]; simp
  subst e
  go_enter Tryz.func86, Tryz.ntmps86
  go_wp2;go_ret;exact ⟨rfl, kZ0⟩
 have H2 := hid h2
 by_cases h3 : ot = 0
 case neg =>
  have e : R = true := by rw [← HR.out, decide_eq_true h3]; simp
  subst e
  have q3 : (ot != 0) = true := by simp [h3]
  go_enter Tryz.func86, Tryz.ntmps86
  go_wp2_with fail
  refine kO.mono ?_;rintro e w1 ⟨rfl, af⟩;have ao := hid af;go_wp2;go_ret;exact ⟨rfl, ao.out⟩
 subst h3
 have G6 := (show Hid (R = (rs.any (fun r => decide (r.id = id)) || ts.any (fun t => t.ps.any (fun p => decide (p.id = id))))) from by
  show R = _
  rw [← HR.out, decide_eq_false H1.out, decide_eq_false H2.out]
  simp)
 have Ji := hid yw;have FU := hid zq
 go_enter Tryz.func86, Tryz.ntmps86
 go_wp2_with fail
 refine kO.mono ?_;rintro e w1 ⟨rfl, af⟩;have ao := hid af;clear af kO jI yw zq EL HR h1 h2 H1 H2
 go_wp2_with fail
 clear Au
 go_loopw [7] (fun i wr => ∃ (j : Nat), j ≤ L ∧ i = V j ∧ Hid (∀ k, (h : k < rs.length) → k < j → ¬ rs[k].id = id) ∧ Hid (Same w wr)) (fun i _ => L - (intOf i).toNat)
 case atStart => exact ⟨0, Nat.zero_le _, rfl, fun k _ h => by omega, ao⟩
 case round =>
  clear ao;obtain ⟨j, hj, rfl, HN, HK⟩ := hrel;have m4 : wr.cell? ⟨M, 4, none⟩ = some (.slice ra L rc) := HK.out.cellOf Ji.out (fun e => e)
  by_cases aG : j < L
  ·have h1 : j < rs.length := by rw [HL.out]; exact aG
   rcases NZ.out.row with ⟨h, _⟩ | ⟨b, off, c', he, hc⟩
   ·rw [h] at h1; simp at h1
   injection he with e1 e2 e3
   subst e1 e3;obtain ⟨i1, eD⟩ : ∃ x, rs[j].id = x := ⟨_, rfl⟩
   have c0 : wr.cell? ⟨b, off + j * 2, none⟩ = some (V i1) := by rw [← eD]; exact HK.out.cellOf (hc j 0 h1 (by decide)) (fun e => e)
   have HI := hid eD;clear eD hc e2
   by_cases hii : i1 = id
   ·have e : R = true := by rw [G6.out, jbR h1 (by rw [HI.out]; exact decide_eq_true hii)]; rfl
    subst e;subst hii;go_wp2;go_ret;exact ⟨rfl, HK.out⟩
   ·have q1 : (i1 == id) = false := by simp [hii]
    have iY := (show Hid (∀ k, (h : k < rs.length) → k < j + 1 → ¬ rs[k].id = id) from fun k h hk => by
     by_cases e : k = j
     ·subst e; rw [HI.out]; exact hii
     ·exact HN.out k h (by omega))
    go_wp2;go_roundw
    case rel => exact ⟨j + 1, by omega, by go_num, iY, HK⟩
    case measure => simp [intOf]; omega
  case neg =>
  obtain rfl : L = j := by omega
  have BB := (show Hid (R = ts.any (fun t => t.ps.any (fun p => decide (p.id = id)))) from by
   show R = _
   rw [G6.out, any_none (f := fun r => decide (r.id = id)) (fun i hi => decide_eq_false (HN.out i hi (by rw [← HL.out]; exact hi)))]
   rfl)
  clear G6 HN
  go_wp2_with fail
  clear m4
  go_loopw [8] (fun i wr => ∃ (j : Nat), j ≤ L3 ∧ i = V j ∧ Hid (∀ k, (h : k < ts.length) → k < j → ts[k].ps.any (fun p => decide (p.id = id)) = false) ∧ Hid (Same w wr)) (fun i _ => L3 - (intOf i).toNat)
  case atStart => exact ⟨0, Nat.zero_le _, rfl, fun k _ h => by omega, HK⟩
  case round =>
   clear HK;obtain ⟨j, hj, rfl, HN, HK⟩ := hrel;have m5 : wr.cell? ⟨M, 5, none⟩ = some (.slice ta L3 tc) := HK.out.cellOf FU.out (fun e => e)
   by_cases aG : j < L3
   case neg =>
    obtain rfl : L3 = j := by omega
    have e : R = false := by rw [BB.out]; exact any_none (fun i hi => HN.out i hi (by rw [← Ee.out]; exact hi))
    subst e;go_wp2;go_ret;exact ⟨rfl, HK.out⟩
   have h1 : j < ts.length := by rw [Ee.out]; exact aG
   rcases Nz.out.row with ⟨h, _⟩ | ⟨b, off, c', he, hc⟩
   ·rw [h] at h1; simp at h1
   injection he with e1 e2 e3
   subst e1 e3;obtain ⟨ps, lH⟩ : ∃ x, ts[j].ps = x := ⟨_, rfl⟩;have bj := (show Hid (RdR kWr w ts[j].v ps) from by rw [← lH]; exact eJ.out ts[j] (List.getElem_mem h1));have d7 := bj.out.max;unfold maxLen at d7;obtain ⟨wa, a8, cC⟩ := bj.out.form;obtain ⟨L2, iu⟩ : ∃ n, ps.length = n := ⟨_, rfl⟩;rw [iu] at cC d7;rw [cC] at bj;have iQ := (show Hid (w.cell? ⟨b, off + j * 2 + 1, none⟩ = some (.slice wa L2 a8)) from by rw [← cC]; exact hc j 1 h1 (by decide));have qY := hid iu;have N7 := hid lH;clear lH cC hc e2 iu
   go_wp2_with fail
   clear m5
   go_loopw [9] (fun i wr => ∃ (q : Nat), q ≤ L2 ∧ i = V q ∧ Hid (∀ k, (h : k < ps.length) → k < q → ¬ ps[k].id = id) ∧ Hid (Same w wr)) (fun i _ => L2 - (intOf i).toNat)
   case atStart => exact ⟨0, Nat.zero_le _, rfl, fun k _ h => by omega, HK⟩
   case round =>
    clear HK;obtain ⟨q, hq, rfl, HQ, HK⟩ := hrel;have m5 : wr.cell? ⟨M, 5, none⟩ = some (.slice (some ⟨b, off, none⟩) L3 tc) := HK.out.cellOf FU.out (fun e => e);have t1 : wr.cell? ⟨b, off + j * 2 + 1, none⟩ = some (.slice wa L2 a8) := HK.out.cellOf iQ.out (fun e => e)
    by_cases nj : q < L2
    case neg =>
     obtain rfl : L2 = q := by omega
     have iY := (show Hid (∀ k, (h : k < ts.length) → k < j + 1 → ts[k].ps.any (fun p => decide (p.id = id)) = false) from fun k h hk => by
      by_cases e : k = j
      ·subst e
       rw [N7.out];exact any_none (fun i hi => decide_eq_false (HQ.out i hi (by rw [← qY.out]; exact hi)))
      ·exact HN.out k h (by omega))
     go_wp2;go_roundw
     case rel => exact ⟨j + 1, by omega, by go_num, iY, HK⟩
     case measure => simp [intOf]; omega
    have h2 : q < ps.length := by rw [qY.out]; exact nj
    rcases bj.out.row with ⟨h, _⟩ | ⟨b2, aL, c2, he, hc⟩
    ·rw [h] at h2; simp at h2
    injection he with e1 e2 e3
    subst e1 e3;obtain ⟨i1, eD⟩ : ∃ x, ps[q].id = x := ⟨_, rfl⟩
    have c0 : wr.cell? ⟨b2, aL + q * 3, none⟩ = some (V i1) := by rw [← eD]; exact HK.out.cellOf (hc q 0 h2 (by decide)) (fun e => e)
    have HI := hid eD;clear eD hc e2
    by_cases hii : i1 = id
    ·have e : R = true := by rw [BB.out]; exact jbR h1 (by rw [N7.out]; exact jbR h2 (by rw [HI.out]; exact decide_eq_true hii))
     subst e;subst hii;go_wp2;go_ret;exact ⟨rfl, HK.out⟩
    ·have q1 : (i1 == id) = false := by simp [hii]
     have vK := (show Hid (∀ k, (h : k < ps.length) → k < q + 1 → ¬ ps[k].id = id) from fun k h hk => by
      by_cases e : k = q
      ·subst e; rw [HI.out]; exact hii
      ·exact HQ.out k h (by omega))
     go_wp2;go_roundw
     case rel => exact ⟨q + 1, by omega, by go_num, vK, HK⟩
     case measure => simp [intOf]; omega
structure UwR (w0 w : World) (v : Value) (qs : List EHeapRecord) : Prop where
 own : OwnR kHeapRecord 0 79 5 w v qs
 foot : ∀ b, Uc kHeapRecord v qs b → w0.heap.size ≤ b
 same : Same w0 w
theorem UwR.on {w0 w w' : World} {v : Value} {qs : List EHeapRecord} (h : UwR w0 w v qs) (hk : Same w w') : UwR w0 w' v qs := ⟨h.own.same hk, h.foot, h.same.trans hk⟩
theorem UwR.none {w0 w : World} {Y : Nat} (hk : Same w0 w) (hY : w0.heap.size ≤ Y) (h : Blk w Y 79 []) : UwR w0 w (Q4 Y 0 0) [] :=
 ⟨⟨⟨by simp [RowK.all], .inr ⟨Y, 0, #[], rfl, Nat.zero_le _, h, Nat.le_refl _, Nat.zero_le _, by simp, by simp [RowK.all]⟩⟩, fun p hp => by simp at hp, fun u hu => by simp at hu, by simp⟩, fun b hb => by
  rcases hb with hb | ⟨p, hp, _⟩
  ·have e : Y = b := (by simpa [Value.ownBlock] using hb)
   omega
  ·simp at hp, hk⟩
theorem Zv {w0 w : World} {ops : Array Oper} {o : Oper} {a : Act} {K : Act → World → Prop} {Q : Exit → Act → World → Prop} {E : Prop} (dY : o.guard = none) (s x : Operand)
  (ho : o.op = .call { callee := .builtin .append, args := #[s, x], argTypes := #[30, 30] }) {fa : Option Addr} {fn fc B : Nat} {qs : List EHeapRecord} {id : Int} {v : Value} {bs : List Int} (hs : a.eval s = .slice fa fn fc) (hx : a.eval x = Q4 B 1 1)
  (hB : Blk w B 79 [V id, v]) (dj : v.oneCell' = true) (hU : UwR w0 w (.slice fa fn fc) qs) (hd : Own 0 5 .u8 w v bs) (uh : ∀ b, v.ownBlock = some b → w0.heap.size ≤ b ∧ ¬ Uc kHeapRecord (.slice fa fn fc) qs b) (hq : qs.length ≤ 100000000)
  (h : ∀ gF cF w', UwR w0 w' (Q4 gF (fn + 1) cF) (qs ++ [⟨id, v, bs⟩]) → (∀ b, (Value.slice (some ⟨gF, 0, none⟩) (fn + 1) cF).ownBlock = some b → (Value.slice fa fn fc).ownBlock = some b ∨ w.heap.size ≤ b) → Kept (fun b => (Value.slice fa fn fc).ownBlock = some b) w w' → K (a.put o.dst (Q4 gF (fn + 1) cF)) w') :
  if Region.wanted o (yielded ops a.tmps) = true then Oper.wp Tryz.prog o a w K Q else E := by
 obtain ⟨i0, hi, br, aT, bv⟩ := info_parts Tryz.infoRHeapRecord
 have eS : fn = qs.length := by
  obtain ⟨_, _, h⟩ := hU.own.rd.form;simp only [Value.slice.injEq] at h;exact h.2.1
 have aX := hU.own.row;rw [← eS] at aX;refine step_append_lies (P := Tryz.prog) w dY s x 30 ho 0 79 i0 _ 2 32 Tryz.underlying30 hi br aT bv rfl (by omega) (.slice fa fn fc) fn (kHeapRecord.all qs) hs aX ⟨B, 0, none⟩ 1 1 [V id, v] hx rfl (fun j u hu => ?_) (fun u hu => ?_) (by omega) (by unfold maxLen; omega) (by omega) (Nat.zero_le _) w.heap.size rfl ?_
 ·have h1 := hB.cell j
  rw [hu] at h1
  simpa [Addr.add_lit] using h1
 ·simp only [List.mem_cons, List.not_mem_nil, or_false] at hu
  rcases hu with rfl | rfl
  ·rfl
  ·exact dj
 ·intro gF cF w' bh hg bU aG
  have hk : Kept (fun b => (Value.slice fa fn fc).ownBlock = some b) w w' := Kept.of_grown hg (fun k e => e);have Cm := OwnR.snoc (K := kHeapRecord) (⟨id, v, bs⟩ : EHeapRecord) hU.own hd (fun b hb hf => (uh b hb).2 hf) hg bh eS bU;refine h gF cF w' ⟨Cm, fun b hb => ?_, hU.same.next hk (fun i hi e => by have := hU.foot i (.inl e); omega)⟩ (fun b hb => ?_) hk
  rotate_left
  ·have e2 : gF = b := (by simpa [Value.ownBlock] using hb)
   subst e2
   rcases bU with e | e
   ·exact .inl e
   ·exact .inr (by omega)
  rcases YI (v := .slice fa fn fc) b hb with rfl | hx | hx
  ·rcases bU with e | e
   ·exact hU.foot _ (.inl e)
   ·have := hU.same.size
    omega
  ·exact hU.foot b hx
  ·exact (uh b hx).1
def NwR (w w' : World) (e : Ending) (D : List RcD) : Prop := ∃ (a : Option Addr) (n c : Nat) (qs : List EHeapRecord), e = .returned (.slice a n c) ∧ jZ9 qs = D ∧ UwR w w' (.slice a n c) qs
theorem YM (va : Value) (rs : List EHeapRecord) (w : World) (hn : rs.length ≤ 4000000) (hs : ∀ p ∈ rs, p.bs.length ≤ 1099511627776) (ha : RdR kHeapRecord w va rs) :
  Calls Tryz.prog 26 #[va] w fun e w' => NwR w w' e (jZ9 rs) := by
 obtain ⟨L, hL⟩ : ∃ n, rs.length = n := ⟨_, rfl⟩;have HL := hid hL;have HA := hid ha;have HS := hid hs;obtain ⟨a0, c0, rfl⟩ := ha.form;rw [hL] at hn;rw [hL] at HA ⊢;clear ha hs hL;have bR := Blk.newL w [] 79;have jG := (show Hid (UwR w (w.alloc (.cells #[] 79)) (.slice (some ⟨w.heap.size, 0, none⟩) 0 0) []) from UwR.none (kZ0.alloc _) (Nat.le_refl _) bR);clear bR
 go_enter Tryz.func26, Tryz.ntmps26
 go_wp2_with fail
 go_loopw [3, 4] (fun z i wr => ∃ (k : Nat) (a : Option Addr) (n c : Nat) (qs : List EHeapRecord), k ≤ L ∧ i = V k ∧ z = .slice a n c ∧ Hid (jZ9 qs = (jZ9 rs).take k) ∧ Hid (UwR w wr (.slice a n c) qs)) (fun _ i _ => L - (intOf i).toNat)
 case atStart => exact ⟨0, _, _, _, [], Nat.zero_le _, rfl, rfl, rfl, jG⟩
 case round =>
  clear jG;obtain ⟨k, fa, fn, fc, qs, hk, rfl, rfl, HD, HU⟩ := hrel
  by_cases aG : k < L
  case neg =>
   obtain rfl : L = k := by omega
   have HE := (show Hid (jZ9 qs = jZ9 rs) from by
    show jZ9 qs = jZ9 rs
    rw [HD.out, List.take_of_length_le (by rw [TQ, HL.out]; exact Nat.le_refl _)])
   go_wp2;go_ret;exact ⟨_, _, _, qs, rfl, HE.out, HU.out⟩
  have h1 : k < rs.length := by rw [HL.out]; exact aG
  rcases HA.out.row with ⟨h, _⟩ | ⟨b, off, c, he, hc⟩
  ·rw [h] at h1; simp at h1
  injection he with e1 e2 e3
  subst e1 e3;obtain ⟨i1, eD⟩ : ∃ x, rs[k].id = x := ⟨_, rfl⟩;obtain ⟨v1, dj⟩ : ∃ x, rs[k].v = x := ⟨_, rfl⟩
  have d0 : w.cell? ⟨b, off + k * 2, none⟩ = some (V i1) := by rw [← eD]; exact hc k 0 h1 (by decide)
  have d1 : w.cell? ⟨b, off + k * 2 + 1, none⟩ = some v1 := by rw [← dj]; exact hc k 1 h1 (by decide)
  have eT := (show Hid (Rd .u8 w v1 rs[k].bs) from by rw [← dj]; exact HA.out.data rs[k] (List.getElem_mem h1));obtain ⟨a1, c1, rfl⟩ := eT.out.form
  have fw := (show Hid (∀ v : Value, jZ9 (qs ++ [⟨i1, v, rs[k].bs⟩]) = (jZ9 rs).take (k + 1)) from fun v => by
   rw [List.take_succ_eq_append_getElem (by rw [TQ]; exact h1), ← HD.out];simp only [jZ9, List.map_append, List.map_cons, List.map_nil, EHeapRecord.dat, List.getElem_map]
   rw [eD])
  have bD := HS.out rs[k] (List.getElem_mem h1)
  have bV := (show Hid (qs.length = k) from by
   have h := congrArg List.length HD.out;rw [TQ, List.length_take, TQ] at h
   show qs.length = k
   omega)
  generalize rs[k].bs = x1 at *;generalize eX : x1.length = n1 at *;have eM := hid eX;have tV := hid d0;have g8 := hid d1;clear hc d0 d1 eD dj eX e2
  go_wp2_with fail
  refine TT (fun wx : World => wx.cell? ⟨b, off + k * 2, none⟩ = some (V i1) ∧ wx.cell? ⟨b, off + k * 2 + 1, none⟩ = some (.slice a1 n1 c1)) 99 16 rfl (by kernel_rfl) ?_;have af : Same wr (World.drew wr) := kZ0.drew;have qK := hid (HU.out.on af);generalize World.drew wr = w1 at qK ⊢;clear af;have hS : (fun wx : World => wx.cell? ⟨b, off + k * 2, none⟩ = some (V i1) ∧ wx.cell? ⟨b, off + k * 2 + 1, none⟩ = some (.slice a1 n1 c1)) w1 := ⟨qK.out.same.cellOf tV.out id, qK.out.same.cellOf g8.out id⟩;refine tk 0 12 hS ?_;refine tk 1 13 hS ?_;refine tk 2 14 hS ?_;refine tk 3 15 hS ?_;refine tk 4 16 hS ?_;refine tk 5 17 hS ?_;refine tk 6 18 hS ?_;refine tk 7 19 hS ?_;refine tk 8 20 hS ?_;refine tk 9 21 hS ?_;refine tk 10 22 hS ?_;refine o1Q 11 (fun Kc ak => ?_);go_simp;have kC := Xz (.slice a1 n1 c1) x1 w1 (by rw [eM.out]; exact bD) (eT.out.same qK.out.same);refine kC.mono ?_;rintro e w2 ⟨a2, n2, c2, rfl, j7, fp, ae⟩;have cY := hid j7;have lf := hid (qK.out.on ae);have gO := (show Hid (∀ b', (Value.slice a2 n2 c2).ownBlock = some b' → w.heap.size ≤ b' ∧ ¬ Uc kHeapRecord (.slice fa fn fc) qs b') from fun b' bw => ⟨by have := fp b' bw; have := qK.out.same.size; omega, fun e => by have h3 := fp b' bw; have h4 := (qK.out.own.lt b' e).2; omega⟩);clear kC j7 fp ae hS qK;have hS : (fun wx : World => wx.cell? ⟨b, off + k * 2, none⟩ = some (V i1) ∧ wx.cell? ⟨b, off + k * 2 + 1, none⟩ = some (.slice a1 n1 c1)) w2 := ⟨lf.out.same.cellOf tV.out id, lf.out.same.cellOf g8.out id⟩
  go_wp2_with fail
  refine ak.out _ _ (fun _ => hS) ?_;clear ak Kc
  try simp only [Act.put, sA, s0, sS]
  refine tk 12 24 hS ?_;refine o1Q 13 (fun Kc ak => ?_);go_simp;have bP := Blk.newL w2 [V i1, .slice a2 n2 c2] 79;have ar : Same w2 (w2.alloc (.cells #[V i1, .slice a2 n2 c2] 79)) := kZ0.alloc _;obtain ⟨Y, hY⟩ : ∃ Y, w2.heap.size = Y := ⟨_, rfl⟩;rw [hY] at bP
  try rw [hY]
  generalize w2.alloc (.cells #[V i1, .slice a2 n2 c2] 79) = w3 at bP ar ⊢;have bX := hid bP;have FZ := hid (lf.out.on ar);have dV := hid (cY.out.same ar);clear bP ar hY hS lf cY;have hS : (fun wx : World => wx.cell? ⟨b, off + k * 2, none⟩ = some (V i1) ∧ wx.cell? ⟨b, off + k * 2 + 1, none⟩ = some (.slice a1 n1 c1)) w3 := ⟨FZ.out.same.cellOf tV.out id, FZ.out.same.cellOf g8.out id⟩;refine ak.out _ _ (fun _ => hS) ?_;clear ak Kc
  try simp only [Act.put, sA, s0, sS]
  refine o1Q 14 (fun Kc ak => ?_);refine Zv rfl (.tmp 12) (.tmp 25) (by rfl) (by rfl) (by rfl) bX.out rfl FZ.out dV.out gO.out (by have := bV.out; omega) ?_;intro gF cF w4 xG _ _;have nl := hid xG;clear xG hS FZ dV bX gO;have hS : (fun wx : World => wx.cell? ⟨b, off + k * 2, none⟩ = some (V i1) ∧ wx.cell? ⟨b, off + k * 2 + 1, none⟩ = some (.slice a1 n1 c1)) w4 := ⟨nl.out.same.cellOf tV.out id, nl.out.same.cellOf g8.out id⟩;refine ak.out _ _ (fun _ => hS) ?_;clear ak Kc
  try simp only [List.getElem_toArray, List.getElem_cons_succ, List.getElem_cons_zero]
  try simp only [Act.put, sA, s0, sS]
  refine o1Q 15 (fun Kc ak => ?_);go_simp;refine ak.out _ _ (fun _ => hS) ?_;clear ak Kc hS;refine TS (by kernel_rfl) ?_
  try simp only [Act.put, sA, s0, sS]
  go_wp2;go_roundw
  case rel => exact ⟨k + 1, _, _, _, _, by omega, by go_num, rfl, fw.out _, nl⟩
  case measure => simp [intOf]; omega
theorem ZQ {w0 w : World} {ops : Array Oper} {rest : List Oper} {o : Oper} {a : Act} {Q : Exit → Act → World → Prop} (dY : o.guard = none) (s x : Operand)
  (ho : o.op = .call { callee := .builtin .append, args := #[s, x], argTypes := #[30, 30] }) {fa : Option Addr} {fn fc B : Nat} {qs : List EHeapRecord} {id : Int} {v : Value} {bs : List Int} (hs : a.eval s = .slice fa fn fc) (hx : a.eval x = Q4 B 1 1)
  (hB : Blk w B 79 [V id, v]) (dj : v.oneCell' = true) (hU : UwR w0 w (.slice fa fn fc) qs) (hd : Own 0 5 .u8 w v bs) (uh : ∀ b, v.ownBlock = some b → w0.heap.size ≤ b ∧ ¬ Uc kHeapRecord (.slice fa fn fc) qs b) (hq : qs.length ≤ 100000000)
  (h : ∀ gF cF w', UwR w0 w' (Q4 gF (fn + 1) cF) (qs ++ [⟨id, v, bs⟩]) → (∀ b, (Value.slice (some ⟨gF, 0, none⟩) (fn + 1) cF).ownBlock = some b → (Value.slice fa fn fc).ownBlock = some b ∨ w.heap.size ≤ b) → Kept (fun b => (Value.slice fa fn fc).ownBlock = some b) w w' → wpList Tryz.prog ops Q rest (a.put o.dst (Q4 gF (fn + 1) cF)) w') : wpList Tryz.prog ops Q (o :: rest) a w := by
 obtain ⟨i0, hi, br, aT, bv⟩ := info_parts Tryz.infoRHeapRecord
 have eS : fn = qs.length := by
  obtain ⟨_, _, h⟩ := hU.own.rd.form;simp only [Value.slice.injEq] at h;exact h.2.1
 have aX := hU.own.row;rw [← eS] at aX;refine wpList_append_lies (P := Tryz.prog) w dY s x 30 ho 0 79 i0 _ 2 32 Tryz.underlying30 hi br aT bv rfl (by omega) (.slice fa fn fc) fn (kHeapRecord.all qs) hs aX ⟨B, 0, none⟩ 1 1 [V id, v] hx rfl (fun j u hu => ?_) (fun u hu => ?_) (by omega) (by unfold maxLen; omega) (by omega) (Nat.zero_le _) w.heap.size rfl ?_
 ·have h1 := hB.cell j
  rw [hu] at h1
  simpa [Addr.add_lit] using h1
 ·simp only [List.mem_cons, List.not_mem_nil, or_false] at hu
  rcases hu with rfl | rfl
  ·rfl
  ·exact dj
 ·intro gF cF w' bh hg bU aG
  have hk : Kept (fun b => (Value.slice fa fn fc).ownBlock = some b) w w' := Kept.of_grown hg (fun k e => e);have Cm := OwnR.snoc (K := kHeapRecord) (⟨id, v, bs⟩ : EHeapRecord) hU.own hd (fun b hb hf => (uh b hb).2 hf) hg bh eS bU;refine h gF cF w' ⟨Cm, fun b hb => ?_, hU.same.next hk (fun i hi e => by have := hU.foot i (.inl e); omega)⟩ (fun b hb => ?_) hk
  ·rcases YI (v := .slice fa fn fc) b hb with rfl | hx | hx
   ·rcases bU with e | e
    ·exact hU.foot _ (.inl e)
    ·have := hU.same.size
     omega
   ·exact hU.foot b hx
   ·exact (uh b hx).1
  ·have e2 : gF = b := (by simpa [Value.ownBlock] using hb)
   subst e2
   rcases bU with e | e
   ·exact .inl e
   ·exact .inr (by omega)
theorem VZ (id : Int) (d : List Int) (done : Bool) (r : RcD) (rs : List RcD) : Vj id d done (r :: rs) = (if !done && decide (id < r.1) then [(id, d)] else []) ++ (if decide (r.1 ≠ id) then [r] else []) ++ Vj id d (done || decide (id < r.1)) rs := rfl
structure WiI (w wr : World) (X : Nat) (id : Int) (us : Bool) (dv : Value) (d : List Int) (ov : Value) (O : List EHeapRecord) (D : List RcD) (k : Nat) (nv : Value) (N : List EHeapRecord) (done : Bool) : Prop where
 out : UwR w wr ov O
 box : Blk wr X 112 [V id, .bool us, dv]
 hX : w.heap.size ≤ X
 nxt : UwR w wr nv N
 apa : ∀ p ∈ N, ∀ q ∈ O.drop k, Apart p.v q.v
 off : ∀ b, nv.ownBlock = some b → ¬ Uc kHeapRecord ov O b ∧ ¬ b = X
 offX : ¬ Uc kHeapRecord ov O X
 eq : jZ9 N ++ Vj id d done (jZ9 (O.drop k)) = D
 len : N.length ≤ k + (if done && us then 1 else 0)
 du : done = false → us = true
theorem WiI.on {w wr wx : World} {X : Nat} {id : Int} {us : Bool} {dv : Value} {d : List Int} {ov : Value} {O : List EHeapRecord} {D : List RcD} {k : Nat} {nv : Value} {N : List EHeapRecord} {done : Bool} (h : WiI w wr X id us dv d ov O D k nv N done) (hk : Same wr wx) : WiI w wx X id us dv d ov O D k nv N done :=
 ⟨h.out.on hk, h.box.same hk, h.hX, h.nxt.on hk, h.apa, h.off, h.offX, h.eq, h.len, h.du⟩
theorem WiI.add {w wr wx wy : World} {X : Nat} {id : Int} {us : Bool} {dv : Value} {d : List Int} {ov : Value} {O : List EHeapRecord} {D : List RcD} {k k' : Nat} {nv Iz : Value} {N N' : List EHeapRecord} {done done' : Bool} (h : WiI w wr X id us dv d ov O D k nv N done) (hk : Same wr wx) (hU : UwR w wy Iz N') (hK : Kept (fun b => nv.ownBlock = some b) wx wy) (hB : ∀ b, Iz.ownBlock = some b → nv.ownBlock = some b ∨ wr.heap.size ≤ b)
  (G5 : ∀ p ∈ N', ∀ q ∈ O.drop k', Apart p.v q.v) (heq : jZ9 N' ++ Vj id d done' (jZ9 (O.drop k')) = D) (az : N'.length ≤ k' + (if done' && us then 1 else 0)) (Pr : done' = false → us = true) : WiI w wy X id us dv d ov O D k' Iz N' done' := by
 have h1 := h.on hk;refine ⟨⟨h1.out.own.kept hK (fun b hb e => (h.off b e).1 hb), h.out.foot, hU.same⟩, h1.box.kept hK (fun e => (h.off X e).2 rfl), h.hX, hU, G5, fun b hb => ?_, h.offX, heq, az, Pr⟩
 rcases hB b hb with e | e
 ·exact h.off b e
 ·refine ⟨fun hf => ?_, fun hx => ?_⟩
  ·have := (h.out.own.lt b hf).2
   omega
  ·have := h.box.lt
   omega
def jhy (w : World) (X : Nat) (id : Int) (us : Bool) (dv : Value) (d : List Int) (ov : Value) (O : List EHeapRecord) (D : List RcD) (k : Nat) (i1 : Int) (z dz : Value) (wx : World) : Prop := ∃ (fa : Option Addr) (fn fc : Nat) (N : List EHeapRecord) (dn : Bool), z = .slice fa fn fc ∧ dz = .bool dn ∧ WiI w wx X id us dv d ov O D k (.slice fa fn fc) N dn ∧ (dn = true ∨ i1 ≤ id)
theorem jar (va : Value) (rs : List EHeapRecord) (LO : Value) (ws : List EWr) (w : World) (hn : rs.length + ws.length ≤ 4000000) (hs : ∀ p ∈ rs, p.bs.length ≤ 1099511627776) (dP : ∀ p ∈ ws, p.bs.length ≤ 1099511627776) (ha : RdR kHeapRecord w va rs) (hw : RdR kWr w LO ws) :
  Calls Tryz.prog 84 #[va, LO] w fun e w' => NwR w w' e (Uq (jZ9 rs) (TU ws)) := by
 have H6 := YM va rs w (by omega) hs ha;obtain ⟨L, hL⟩ : ∃ n, ws.length = n := ⟨_, rfl⟩;obtain ⟨R0, Ku⟩ : ∃ n, rs.length = n := ⟨_, rfl⟩;obtain ⟨D0, FC⟩ : ∃ D, jZ9 rs = D := ⟨_, rfl⟩
 have E9 : D0.length = R0 := by rw [← FC, TQ, Ku]
 have JZ := hid E9;rw [FC] at H6;rw [FC];rw [hL, Ku] at hn;have HL := hid hL;have Io := hid hw;have iI := hid dP;obtain ⟨a0, c0, rfl⟩ := ha.form;obtain ⟨a9, c9, rfl⟩ := hw.form;rw [hL] at Io ⊢;generalize rs.length = rn at *;clear ha hs hL dP hw FC Ku E9
 go_enter Tryz.func84, Tryz.ntmps84
 go_wp2_with fail
 refine H6.mono ?_;rintro e wa ⟨SG, SO, SJ, O0, rfl, hO, N9⟩;have HO := hid hO;have jG := hid N9;clear H6 hO N9
 go_wp2_with fail
 go_loopw [5, 6] (fun z i wr => ∃ (j : Nat) (oa : Option Addr) (on oc : Nat) (O : List EHeapRecord), j ≤ L ∧ i = V j ∧ z = .slice oa on oc ∧ Hid (jZ9 O = Uq D0 ((TU ws).take j)) ∧ Hid (UwR w wr (.slice oa on oc) O) ∧ Hid (O.length ≤ R0 + j)) (fun _ i _ => L - (intOf i).toNat)
 case atStart => exact ⟨0, _, _, _, O0, Nat.zero_le _, rfl, rfl, HO, jG, by show O0.length ≤ R0 + 0; rw [← JZ.out, ← HO.out, TQ]; exact Nat.le_refl _⟩
 case round =>
  clear jG HO;obtain ⟨j, oa, on, oc, O, hj, rfl, rfl, HD, HU, Fo⟩ := hrel
  by_cases aG : j < L
  case neg =>
   obtain rfl : L = j := by omega
   have HE := (show Hid (jZ9 O = Uq D0 (TU ws)) from by
    show jZ9 O = Uq D0 (TU ws)
    rw [HD.out, List.take_of_length_le (by show (ws.map EWr.dat).length ≤ L; rw [List.length_map, HL.out]; exact Nat.le_refl _)])
   go_wp2;go_ret;exact ⟨_, _, _, O, rfl, HE.out, HU.out⟩
  have h1 : j < ws.length := by rw [HL.out]; exact aG
  rcases Io.out.row with ⟨h, _⟩ | ⟨b, off, c, he, hc⟩
  ·rw [h] at h1; simp at h1
  injection he with e1 e2 e3
  subst e1 e3;obtain ⟨id, eB⟩ : ∃ x, ws[j].id = x := ⟨_, rfl⟩;obtain ⟨us, lj⟩ : ∃ x, ws[j].us = x := ⟨_, rfl⟩;obtain ⟨dv, j6⟩ : ∃ x, ws[j].v = x := ⟨_, rfl⟩;obtain ⟨d, hd⟩ : ∃ x, ws[j].bs = x := ⟨_, rfl⟩
  have d0 : wr.cell? ⟨b, off + j * 3, none⟩ = some (V id) := by rw [← eB]; exact HU.out.same.cellOf (hc j 0 h1 (by decide)) (fun e => e)
  have d1 : wr.cell? ⟨b, off + j * 3 + 1, none⟩ = some (.bool us) := by rw [← lj]; exact HU.out.same.cellOf (hc j 1 h1 (by decide)) (fun e => e)
  have d2 : wr.cell? ⟨b, off + j * 3 + 2, none⟩ = some dv := by rw [← j6]; exact HU.out.same.cellOf (hc j 2 h1 (by decide)) (fun e => e)
  have qM := (show Hid (∀ wx, Same w wx → Rd .u8 wx dv d) from fun wx hx => by rw [← j6, ← hd]; exact (Io.out.data ws[j] (List.getElem_mem h1)).same hx);obtain ⟨da, dc, rfl⟩ := (qM.out w kZ0).form;have J8 := (show Hid (d.length ≤ 1099511627776) from by show d.length ≤ 1099511627776; rw [← hd]; exact iI.out ws[j] (List.getElem_mem h1))
  have AC := (show Hid (Uq D0 ((TU ws).take (j + 1)) = Vj id d (!us) (jZ9 O)) from by
   show Uq D0 ((TU ws).take (j + 1)) = Vj id d (!us) (jZ9 O)
   rw [List.take_succ_eq_append_getElem (by show j < (ws.map EWr.dat).length; rw [List.length_map]; exact h1)];unfold Uq;rw [List.foldl_append];have h2 := HD.out;unfold Uq at h2;rw [← h2];simp only [List.foldl_cons, List.foldl_nil, ja2, TU, List.getElem_map, EWr.dat]
   rw [eB, lj, hd])
  clear eB lj j6 hd hc e2;obtain ⟨dn, dM⟩ : ∃ n, d.length = n := ⟨_, rfl⟩;rw [dM] at qM J8 d2;have fw := hid dM;clear dM
  go_upto_region 6 with fail
  obtain ⟨X, hX⟩ : ∃ X, wr.heap.size = X := ⟨_, rfl⟩;have Fs := Blk.newL wr [V id, .bool us, .slice da dn dc] 112;have bT : Same wr (wr.alloc (.cells #[V id, .bool us, .slice da dn dc] 112)) := kZ0.alloc _;rw [hX] at Fs ⊢
  have Ml : w.heap.size ≤ X := by have := HU.out.same.size; omega
  have GK := (show Hid (∀ b', Uc kHeapRecord (.slice oa on oc) O b' → b' < X) from fun b' bw => by have := (HU.out.own.lt b' bw).2; omega);generalize wr.alloc (.cells #[V id, .bool us, .slice da dn dc] 112) = wb at Fs bT ⊢;have FI := hid (HU.out.on bT);have Db := hid Fs;clear d0 d1 d2 Fs bT HU hX
  go_upto_region 7 with fail
  obtain ⟨Y0, Hk⟩ : ∃ X, wb.heap.size = X := ⟨_, rfl⟩;have yA := Blk.newL wb [] 79;have gS : Same wb (wb.alloc (.cells #[] 79)) := kZ0.alloc _;rw [Hk] at yA
  try rw [Hk]
  have Sk : X < Y0 := by have := Db.out.lt; omega
  generalize wb.alloc (.cells #[] 79) = a8 at yA gS ⊢;obtain ⟨D, J9⟩ : ∃ D, Vj id d (!us) (jZ9 O) = D := ⟨_, rfl⟩;rw [J9] at AC
  have IX := (show Hid (WiI w a8 X id us (.slice da dn dc) d (.slice oa on oc) O D 0 (Q4 Y0 0 0) [] (!us)) from ⟨FI.out.on gS, Db.out.same gS, Ml, UwR.none (FI.out.same.trans gS) (by omega) yA, fun p hp => by simp at hp, fun b' bw => by
   have e2 : Y0 = b' := (by simpa [Value.ownBlock] using bw)
   exact ⟨fun e => by have := GK.out b' e; omega, by omega⟩, fun e => by have := GK.out X e; omega, by rw [List.drop_zero]; exact J9, by simp, fun e => by simpa using e⟩)
  have x1 : a8.cell? ⟨X, 1, none⟩ = some (.bool us) := IX.out.box.cell 1;obtain ⟨M, hM⟩ : ∃ n, O.length = n := ⟨_, rfl⟩;have HM := hid hM
  have Kq : on = M := by
   obtain ⟨_, _, h⟩ := FI.out.own.rd.form;simp only [Value.slice.injEq] at h;rw [h.2.1, hM]
  have SE : M ≤ R0 + j := by rw [← hM]; exact Fo.out
  subst Kq;clear yA gS Hk FI Db J9 Fo GK Ml Sk hM
  go_wp2_with fail
  clear x1
  go_loopw [8, 9, 10] (fun z dz i QV => ∃ (k : Nat) (fa : Option Addr) (fn fc : Nat) (N : List EHeapRecord) (done : Bool), k ≤ on ∧ i = V k ∧ z = .slice fa fn fc ∧ dz = .bool done ∧ Hid (WiI w QV X id us (.slice da dn dc) d (.slice oa on oc) O D k (.slice fa fn fc) N done)) (fun _ _ i _ => on - (intOf i).toNat)
  case atStart => exact ⟨0, _, _, _, [], !us, Nat.zero_le _, rfl, rfl, rfl, IX⟩
  case round =>
   clear IX;obtain ⟨k, fa, fn, fc, N, done, hk, rfl, rfl, rfl, HW⟩ := hrel;generalize wr = wv at HW ⊢
   by_cases gu : k < on
   case neg =>
    as_aux_lemma =>
    obtain rfl : on = k := by omega
    have ig : O.drop on = [] := List.drop_of_length_le (by rw [HM.out]; exact Nat.le_refl _)
    cases done
    ·have Ao := (show Hid (us = true) from HW.out.du rfl)
     have Bj := (show Hid (∀ v : Value, jZ9 (N ++ [⟨id, v, d⟩]) ++ Vj id d true (jZ9 (O.drop on)) = D) from fun v => by
      have h := HW.out.eq;rw [ig] at h ⊢;rw [← h]
      simp [jZ9, EHeapRecord.dat, Vj])
     have Qc : on ≤ 8000000 := by omega
     go_wp2_with fail
     refine TT (fun wx : World => wx.cell? ⟨X, 0, none⟩ = some (V id) ∧ wx.cell? ⟨X, 2, none⟩ = some (.slice da dn dc)) 99 11 rfl (by kernel_rfl) ?_;have af : Same wv (World.drew wv) := kZ0.drew;have fD := hid (HW.out.on af);generalize World.drew wv = w1 at fD ⊢;clear af;have hS : (fun wx : World => wx.cell? ⟨X, 0, none⟩ = some (V id) ∧ wx.cell? ⟨X, 2, none⟩ = some (.slice da dn dc)) w1 := ⟨fD.out.box.cell 0, fD.out.box.cell 2⟩;refine tk 0 73 hS ?_;refine tk 1 74 hS ?_;refine tk 2 75 hS ?_;refine tk 3 76 hS ?_;refine tk 4 77 hS ?_;refine tk 5 78 hS ?_;refine o1Q 6 (fun Kc ak => ?_);go_simp;have kC := Xz (.slice da dn dc) d w1 (by rw [fw.out]; exact J8.out) (qM.out w1 fD.out.nxt.same);refine kC.mono ?_;rintro e w2 ⟨a2, n2, c2, rfl, j7, fp, ae⟩;have cY := hid j7;have jC := hid (fD.out.on ae);have gO := (show Hid (∀ b', (Value.slice a2 n2 c2).ownBlock = some b' → w1.heap.size ≤ b') from fp);have bv := fD.out.nxt.same.size;have gU := (show Hid (∀ b', Uc kHeapRecord (.slice fa fn fc) N b' ∨ Uc kHeapRecord (.slice oa on oc) O b' → b' < w1.heap.size) from fun b' bw => bw.elim (fun e => (fD.out.nxt.own.lt b' e).2) (fun e => (fD.out.out.own.lt b' e).2));clear kC j7 fp ae hS fD;have hS : (fun wx : World => wx.cell? ⟨X, 0, none⟩ = some (V id) ∧ wx.cell? ⟨X, 2, none⟩ = some (.slice da dn dc)) w2 := ⟨jC.out.box.cell 0, jC.out.box.cell 2⟩
     go_wp2_with fail
     refine ak.out _ _ (fun _ => hS) ?_;clear ak Kc
     try simp only [Act.put, sA, s0, sS]
     refine tk 7 80 hS ?_;refine o1Q 8 (fun Kc ak => ?_);go_simp;have bP := Blk.newL w2 [V id, .slice a2 n2 c2] 79;have ar : Same w2 (w2.alloc (.cells #[V id, .slice a2 n2 c2] 79)) := kZ0.alloc _;obtain ⟨Y, hY⟩ : ∃ Y, w2.heap.size = Y := ⟨_, rfl⟩;rw [hY] at bP
     try rw [hY]
     generalize w2.alloc (.cells #[V id, .slice a2 n2 c2] 79) = w3 at bP ar ⊢;have bX := hid bP;have jg := hid (jC.out.on ar);have dV := hid (cY.out.same ar);clear bP ar hY hS jC cY;have hS : (fun wx : World => wx.cell? ⟨X, 0, none⟩ = some (V id) ∧ wx.cell? ⟨X, 2, none⟩ = some (.slice da dn dc)) w3 := ⟨jg.out.box.cell 0, jg.out.box.cell 2⟩;refine ak.out _ _ (fun _ => hS) ?_;clear ak Kc
     try simp only [Act.put, sA, s0, sS]
     refine o1Q 9 (fun Kc ak => ?_);refine Zv rfl (.tmp 73) (.tmp 81) (by rfl) (by rfl) (by rfl) bX.out rfl jg.out.nxt dV.out (fun b' bw => ⟨by have := gO.out b' bw; omega, fun e => by have h3 := gO.out b' bw; have h4 := gU.out b' (.inl e); omega⟩) (by have wO := jg.out.len; split at wO <;> omega) ?_;intro gF cF w4 xG EU El
     have l8 := (show Hid (WiI w w4 X id us (.slice da dn dc) d (.slice oa on oc) O D on (Q4 gF (fn + 1) cF) (N ++ [⟨id, .slice a2 n2 c2, d⟩]) true) from jg.out.add kZ0 xG El EU (fun p hp q hq => by
      rcases List.mem_append.1 hp with hp | hp
      ·exact jg.out.apa p hp q hq
      ·rw [List.mem_singleton.1 hp]
       intro b' bw e;have h1 := gO.out b' bw;have h2 := gU.out b' (.inr (.inr ⟨q, List.mem_of_mem_drop hq, e⟩))
       omega) (Bj.out (.slice a2 n2 c2)) (by have h1 := jg.out.len; rw [List.length_append]; simp at h1 ⊢; rw [Ao.out]; simp; omega) (fun e => by cases e))
     clear hS xG EU El jg dV bX gO gU;have hS : (fun wx : World => wx.cell? ⟨X, 0, none⟩ = some (V id) ∧ wx.cell? ⟨X, 2, none⟩ = some (.slice da dn dc)) w4 := ⟨l8.out.box.cell 0, l8.out.box.cell 2⟩;refine ak.out _ _ (fun _ => hS) ?_;clear ak Kc
     try simp only [List.getElem_toArray, List.getElem_cons_succ, List.getElem_cons_zero]
     try simp only [Act.put, sA, s0, sS]
     refine o1Q 10 (fun Kc ak => ?_);go_simp;refine ak.out _ _ (fun _ => hS) ?_;clear ak Kc hS;refine TS (by kernel_rfl) ?_
     try simp only [Act.put, sA, s0, sS]
     go_wp2;go_roundw
     case rel => exact ⟨j + 1, _, _, _, _, by omega, by go_num, rfl, by have h := l8.out.eq; rw [ig] at h; show jZ9 _ = _; rw [AC.out, ← h]; simp [jZ9, Vj], l8.out.nxt, by have h := l8.out.len; show List.length _ ≤ R0 + (j + 1); split at h <;> omega⟩
     case measure => simp [intOf]; omega
    ·go_wp2
     go_roundw
     case rel => exact ⟨j + 1, _, _, _, _, by omega, by go_num, rfl, by have h := HW.out.eq; rw [ig] at h; show jZ9 _ = _; rw [AC.out, ← h]; simp [jZ9, Vj], HW.out.nxt, by have h := HW.out.len; show List.length _ ≤ R0 + (j + 1); split at h <;> omega⟩
     case measure => simp [intOf]; omega
   have h2 : k < O.length := by rw [HM.out]; exact gu
   have Qc : k ≤ 8000000 := by omega
   rcases HW.out.out.own.form with ⟨_, h⟩ | ⟨ob, cap, he, _⟩
   ·rw [h] at h2; simp at h2
   injection he with e1 e2 e3
   subst e1 e3;obtain ⟨i1, eD⟩ : ∃ x, O[k].id = x := ⟨_, rfl⟩;obtain ⟨v1, dj⟩ : ∃ x, O[k].v = x := ⟨_, rfl⟩;obtain ⟨y1, iB⟩ : ∃ x, O[k].bs = x := ⟨_, rfl⟩;have HC := (show Hid (∀ {wx : World} {nv : Value} {N : List EHeapRecord} {done : Bool}, WiI w wx X id us (.slice da dn dc) d (Q4 ob on oc) O D k nv N done → wx.cell? ⟨ob, k * 2, none⟩ = some (V i1) ∧ wx.cell? ⟨ob, k * 2 + 1, none⟩ = some v1) from fun h => ⟨by rw [← eD]; exact h.out.own.cell HM.out.symm k 0 h2 (by decide), by rw [← dj]; exact h.out.own.cell HM.out.symm k 1 h2 (by decide)⟩)
   have BR := (show Hid (O.drop k = ⟨i1, v1, y1⟩ :: O.drop (k + 1)) from by
    show O.drop k = ⟨i1, v1, y1⟩ :: O.drop (k + 1)
    rw [List.drop_eq_getElem_cons h2, ← eD, ← dj, ← iB])
   have AF := (show Hid ((⟨i1, v1, y1⟩ : EHeapRecord) ∈ O) from by
    show (⟨i1, v1, y1⟩ : EHeapRecord) ∈ O
    have := List.getElem_mem h2;rw [← eD, ← dj, ← iB]
    exact this)
   clear eD dj iB e2;obtain ⟨se, rk, gd⟩ := (HW.out.out.own.data ⟨i1, v1, y1⟩ AF.out).rd.form;obtain ⟨rX, nF⟩ : ∃ n, y1.length = n := ⟨_, rfl⟩
   have Hz : v1 = .slice se rX rk := by rw [← nF]; exact gd
   subst Hz;clear gd nF
   go_upto_region 11 with fail
   go_cut [45] (fun z wx => z = .bool (!done && decide (id < i1)) ∧ Hid (Same wv wx))
   case first =>
    as_aux_lemma =>
    obtain ⟨c1, _⟩ := HC.out HW.out;have c2 := HW.out.box.cell 0;simp only [List.getElem?_cons_zero] at c2;refine TT (fun wx : World => wx.cell? ⟨ob, k * 2, none⟩ = some (V i1) ∧ wx.cell? ⟨X, 0, none⟩ = some (V id)) 99 12 rfl (by kernel_rfl) ?_;have bB := (show Hid (Same wv (World.drew wv)) from kZ0.drew);generalize World.drew wv = wd at bB ⊢;have hS : (fun wx : World => wx.cell? ⟨ob, k * 2, none⟩ = some (V i1) ∧ wx.cell? ⟨X, 0, none⟩ = some (V id)) wd := ⟨bB.out.cellOf c1 (fun e => e), bB.out.cellOf c2 (fun e => e)⟩
    cases done
    ·have q0 : (!false && decide (id < i1)) = decide (id < i1) := by simp
     refine tk 0 34 hS ?_;refine tk 1 35 hS ?_;refine tk 2 36 hS ?_;refine tk 3 37 hS ?_;refine tk 4 38 hS ?_;refine tk 5 39 hS ?_;refine tk 6 40 hS ?_;refine tk 7 41 hS ?_;refine tk 8 42 hS ?_;refine tk 9 43 hS ?_;refine tk 10 44 hS ?_;refine tk 11 45 hS ?_;refine TS (by kernel_rfl) ?_
     try simp only [Act.put, sA, s0, sS]
     clear hS
     go_wp2_with fail
     go_meet
     case rel => exact ⟨by first | rfl | simp, bB⟩
    ·refine tk 0 34 hS ?_
     refine tk 1 35 hS ?_;refine tk 2 36 hS ?_;refine tkS 3 37 hS ?_;refine tkS 4 38 hS ?_;refine tkS 5 39 hS ?_;refine tkS 6 40 hS ?_;refine tkS 7 41 hS ?_;refine tkS 8 42 hS ?_;refine tkS 9 43 hS ?_;refine tkS 10 44 hS ?_;refine tk 11 45 hS ?_;refine TS (by kernel_rfl) ?_
     try simp only [Act.put, sA, s0, sS]
     clear hS
     go_wp2_with fail
     go_meet
     case rel => exact ⟨by first | rfl | simp, bB⟩
   case rest =>
   obtain ⟨rfl, cf⟩ := hcut;have vw := hid (HW.out.on cf.out);clear cf HW;generalize wc = Sl at vw ⊢
   go_upto_if 45 with fail
   generalize hbq : (!done && decide (id < i1)) = bq;have EO := hid hbq;clear hbq
   go_cut [8, 9] (fun z dz wx => Hid (jhy w X id us (.slice da dn dc) d (Q4 ob on oc) O D k i1 z dz wx))
   case first =>
    as_aux_lemma =>
    cases bq
    ·have Dy := (show Hid (done = true ∨ i1 ≤ id) from by
      have h := EO.out
      cases done
      ·right
       refine Int.not_lt.1 (fun h2 => ?_);rw [decide_eq_true h2] at h;simp at h
      ·left
       rfl)
     go_wp2_with fail
     go_meet
     case rel => exact ⟨_, _, _, _, _, rfl, rfl, vw.out, Dy.out⟩
    have pj : done = false := by have h := EO.out; cases done <;> simp at h ⊢
    have N4 : id < i1 := by have h := EO.out; rw [pj] at h; simpa using h
    subst pj;have Ao := (show Hid (us = true) from vw.out.du rfl)
    have Bj := (show Hid (∀ v : Value, jZ9 (N ++ [⟨id, v, d⟩]) ++ Vj id d true (jZ9 (O.drop k)) = D) from fun v => by
     have h := vw.out.eq;rw [BR.out] at h ⊢;rw [← h];simp only [jZ9, List.map_append, List.map_cons, List.map_nil, EHeapRecord.dat, VZ]
     simp [N4])
    clear EO N4;obtain ⟨wv, xY⟩ : ∃ z, Sl = z := ⟨_, rfl⟩;rw [xY] at vw ⊢;clear xY;have HW := vw;clear vw
    go_wp2_with fail
    refine TT (fun wx : World => wx.cell? ⟨X, 0, none⟩ = some (V id) ∧ wx.cell? ⟨X, 2, none⟩ = some (.slice da dn dc)) 99 11 rfl (by kernel_rfl) ?_;have af : Same wv (World.drew wv) := kZ0.drew;have fD := hid (HW.out.on af);generalize World.drew wv = w1 at fD ⊢;clear af;have hS : (fun wx : World => wx.cell? ⟨X, 0, none⟩ = some (V id) ∧ wx.cell? ⟨X, 2, none⟩ = some (.slice da dn dc)) w1 := ⟨fD.out.box.cell 0, fD.out.box.cell 2⟩;refine tk 0 46 hS ?_;refine tk 1 47 hS ?_;refine tk 2 48 hS ?_;refine tk 3 49 hS ?_;refine tk 4 50 hS ?_;refine tk 5 51 hS ?_;refine o1Q 6 (fun Kc ak => ?_);go_simp;have kC := Xz (.slice da dn dc) d w1 (by rw [fw.out]; exact J8.out) (qM.out w1 fD.out.nxt.same);refine kC.mono ?_;rintro e w2 ⟨a2, n2, c2, rfl, j7, fp, ae⟩;have cY := hid j7;have jC := hid (fD.out.on ae);have gO := (show Hid (∀ b', (Value.slice a2 n2 c2).ownBlock = some b' → w1.heap.size ≤ b') from fp);have bv := fD.out.nxt.same.size;have gU := (show Hid (∀ b', Uc kHeapRecord (.slice fa fn fc) N b' ∨ Uc kHeapRecord (Q4 ob on oc) O b' → b' < w1.heap.size) from fun b' bw => bw.elim (fun e => (fD.out.nxt.own.lt b' e).2) (fun e => (fD.out.out.own.lt b' e).2));clear kC j7 fp ae hS fD;have hS : (fun wx : World => wx.cell? ⟨X, 0, none⟩ = some (V id) ∧ wx.cell? ⟨X, 2, none⟩ = some (.slice da dn dc)) w2 := ⟨jC.out.box.cell 0, jC.out.box.cell 2⟩
    go_wp2_with fail
    refine ak.out _ _ (fun _ => hS) ?_;clear ak Kc
    try simp only [Act.put, sA, s0, sS]
    refine tk 7 53 hS ?_;refine o1Q 8 (fun Kc ak => ?_);go_simp;have bP := Blk.newL w2 [V id, .slice a2 n2 c2] 79;have ar : Same w2 (w2.alloc (.cells #[V id, .slice a2 n2 c2] 79)) := kZ0.alloc _;obtain ⟨Y, hY⟩ : ∃ Y, w2.heap.size = Y := ⟨_, rfl⟩;rw [hY] at bP
    try rw [hY]
    generalize w2.alloc (.cells #[V id, .slice a2 n2 c2] 79) = w3 at bP ar ⊢;have bX := hid bP;have jg := hid (jC.out.on ar);have dV := hid (cY.out.same ar);clear bP ar hY hS jC cY;have hS : (fun wx : World => wx.cell? ⟨X, 0, none⟩ = some (V id) ∧ wx.cell? ⟨X, 2, none⟩ = some (.slice da dn dc)) w3 := ⟨jg.out.box.cell 0, jg.out.box.cell 2⟩;refine ak.out _ _ (fun _ => hS) ?_;clear ak Kc
    try simp only [Act.put, sA, s0, sS]
    refine o1Q 9 (fun Kc ak => ?_);refine Zv rfl (.tmp 46) (.tmp 54) (by rfl) (by rfl) (by rfl) bX.out rfl jg.out.nxt dV.out (fun b' bw => ⟨by have := gO.out b' bw; omega, fun e => by have h3 := gO.out b' bw; have h4 := gU.out b' (.inl e); omega⟩) (by have wO := jg.out.len; split at wO <;> omega) ?_;intro gF cF w4 xG EU El
    have l8 := (show Hid (WiI w w4 X id us (.slice da dn dc) d (Q4 ob on oc) O D k (Q4 gF (fn + 1) cF) (N ++ [⟨id, .slice a2 n2 c2, d⟩]) true) from jg.out.add kZ0 xG El EU (fun p hp q hq => by
     rcases List.mem_append.1 hp with hp | hp
     ·exact jg.out.apa p hp q hq
     ·rw [List.mem_singleton.1 hp]
      intro b' bw e;have h1 := gO.out b' bw;have h2 := gU.out b' (.inr (.inr ⟨q, List.mem_of_mem_drop hq, e⟩))
      omega) (Bj.out (.slice a2 n2 c2)) (by have h1 := jg.out.len; rw [List.length_append]; simp at h1 ⊢; rw [Ao.out]; simp; omega) (fun e => by cases e))
    clear hS xG EU El jg dV bX gO gU;have hS : (fun wx : World => wx.cell? ⟨X, 0, none⟩ = some (V id) ∧ wx.cell? ⟨X, 2, none⟩ = some (.slice da dn dc)) w4 := ⟨l8.out.box.cell 0, l8.out.box.cell 2⟩;refine ak.out _ _ (fun _ => hS) ?_;clear ak Kc
    try simp only [List.getElem_toArray, List.getElem_cons_succ, List.getElem_cons_zero]
    try simp only [Act.put, sA, s0, sS]
    refine o1Q 10 (fun Kc ak => ?_);go_simp;refine ak.out _ _ (fun _ => hS) ?_;clear ak Kc hS;refine TS (by kernel_rfl) ?_
    try simp only [Act.put, sA, s0, sS]
    go_wp2_with fail
    go_meet
    case rel => exact ⟨_, _, _, _, _, rfl, rfl, l8.out, .inl rfl⟩
   case rest =>
   obtain ⟨fq, fe, fh, N', done', rfl, rfl, LR, L8⟩ := hcut.out;have HW := hid LR;have Dy := hid L8;clear hcut LR L8 vw EO;generalize wc = Gt at HW ⊢
   have Gj := (show Hid ((done' || decide (id < i1)) = done') from by
    show (done' || decide (id < i1)) = done'
    rcases Dy.out with rfl | h
    ·rfl
    ·rw [decide_eq_false (Int.not_lt.2 h)]; simp)
   have Mx := (show Hid ((!done' && decide (id < i1)) = false) from by
    show (!done' && decide (id < i1)) = false
    rcases Dy.out with rfl | h
    ·rfl
    ·rw [decide_eq_false (Int.not_lt.2 h)]; simp)
   go_upto_region 14 with fail
   go_cut [63] (fun z wx => z = .bool (i1 != id) ∧ Hid (Same Gt wx))
   case first =>
    as_aux_lemma =>
    obtain ⟨c1, _⟩ := HC.out HW.out;have c2 := HW.out.box.cell 0;simp only [List.getElem?_cons_zero] at c2;refine TT (fun wx : World => wx.cell? ⟨ob, k * 2, none⟩ = some (V i1) ∧ wx.cell? ⟨X, 0, none⟩ = some (V id)) 99 8 rfl (by kernel_rfl) ?_;have bB := (show Hid (Same Gt (World.drew Gt)) from kZ0.drew);generalize World.drew Gt = wd at bB ⊢;have hS : (fun wx : World => wx.cell? ⟨ob, k * 2, none⟩ = some (V i1) ∧ wx.cell? ⟨X, 0, none⟩ = some (V id)) wd := ⟨bB.out.cellOf c1 (fun e => e), bB.out.cellOf c2 (fun e => e)⟩;refine tk 0 56 hS ?_;refine tk 1 57 hS ?_;refine tk 2 58 hS ?_;refine tk 3 59 hS ?_;refine tk 4 60 hS ?_;refine tk 5 61 hS ?_;refine tk 6 62 hS ?_;refine tk 7 63 hS ?_;refine TS (by kernel_rfl) ?_
    try simp only [Act.put, sA, s0, sS]
    clear hS
    go_wp2_with fail
    go_meet
    case rel => exact ⟨by first | rfl | simp, bB⟩
   case rest =>
   obtain ⟨rfl, cf⟩ := hcut;have gi := hid (HW.out.on cf.out);clear cf HW;generalize wc = Of at gi ⊢
   have mG := (show Hid (jZ9 N' ++ (if decide (i1 ≠ id) then [(i1, y1)] else []) ++ Vj id d done' (jZ9 (O.drop (k + 1))) = D) from by
    show jZ9 N' ++ (if decide (i1 ≠ id) then [(i1, y1)] else []) ++ Vj id d done' (jZ9 (O.drop (k + 1))) = D
    have h := gi.out.eq;rw [BR.out] at h;have e : jZ9 ((⟨i1, .slice se rX rk, y1⟩ : EHeapRecord) :: O.drop (k + 1)) = (i1, y1) :: jZ9 (O.drop (k + 1)) := rfl;rw [e, VZ] at h;dsimp only at h;rw [Mx.out, Gj.out] at h;simp only [Bool.false_eq_true, if_false, List.nil_append] at h;rw [List.append_assoc]
    exact h)
   have qR := (show Hid (∀ p ∈ N', ∀ q ∈ O.drop (k + 1), Apart p.v q.v) from fun p hp q hq => gi.out.apa p hp q (by rw [BR.out]; exact List.mem_cons_of_mem _ hq))
   by_cases bl : i1 = id
   ·subst bl
    have q1 : (i1 != i1) = false := by simp
    have Ir := (show Hid (WiI w Of X i1 us (.slice da dn dc) d (Q4 ob on oc) O D (k + 1) (.slice fq fe fh) N' done') from ⟨gi.out.out, gi.out.box, gi.out.hX, gi.out.nxt, qR.out, gi.out.off, gi.out.offX, by have h := mG.out; simpa using h, by have h := gi.out.len; omega, gi.out.du⟩);clear gi mG qR Gj Mx Dy;go_wp2;go_roundw
    case rel => exact ⟨k + 1, _, _, _, _, _, by omega, by go_num, by first | rfl | trivial, by first | rfl | trivial, Ir⟩
    case measure => simp [intOf]; omega
   have q1 : (i1 != id) = true := by simp [bl]
   obtain ⟨c1, c2⟩ := HC.out gi.out;have rD := hid (gi.out.out.own.data ⟨i1, .slice se rX rk, y1⟩ AF.out)
   have De := (show Hid (∀ b', (Value.slice se rX rk).ownBlock = some b' → ¬ Uc kHeapRecord (.slice fq fe fh) N' b') from fun b' bw e => by
    rcases e with e | ⟨p, hp, e⟩
    ·exact (gi.out.off b' e).1 (.inr ⟨_, AF.out, bw⟩)
    ·exact gi.out.apa p hp ⟨i1, .slice se rX rk, y1⟩ (by rw [BR.out]; exact List.mem_cons_self) b' e bw)
   have Se := (show Hid (∀ q ∈ O.drop (k + 1), Apart (.slice se rX rk) q.v) from fun q hq => by
    have h := gi.out.out.own.each;have h3 : ((O.drop k).map kHeapRecord.v).Pairwise Apart := h.sublist ((List.drop_sublist k O).map _);rw [BR.out, List.map_cons, List.pairwise_cons] at h3
    exact h3.1 _ (List.mem_map_of_mem hq))
   go_wp2_with (at_builtin; go_loud (refine ZQ (w0 := w) (qs := N') (id := i1) (v := .slice se rX rk) (bs := y1) rfl (.tmp 64) (.tmp 69) rfl rfl rfl (Blk.newL Of [V i1, .slice se rX rk] 79) rfl (gi.out.nxt.on (kZ0.alloc _)) (rD.out.same (kZ0.alloc _)) (fun b' bw => ⟨gi.out.out.foot b' (.inr ⟨_, AF.out, bw⟩), De.out b' bw⟩) (by have wO := gi.out.len; split at wO <;> omega) ?_); intro gF cF w5 oR FL mU; have Ir := (show Hid (WiI w w5 X id us (.slice da dn dc) d (Q4 ob on oc) O D (k + 1) (Q4 gF (fe + 1) cF) (N' ++ [⟨i1, .slice se rX rk, y1⟩]) done') from gi.out.add (kZ0.alloc _) oR mU (fun b' bw => (FL b' bw).imp_right (fun h => by rw [World.size_alloc] at h; omega)) (fun p hp q hq => (List.mem_append.1 hp).elim (fun hp => qR.out p hp q hq) (fun hp => by rw [List.mem_singleton.1 hp]; exact Se.out q hq)) (by have h := mG.out; rw [if_pos (decide_eq_true bl)] at h; rw [← h]; simp [jZ9, EHeapRecord.dat]) (by have h := gi.out.len; rw [List.length_append]; simp only [List.length_cons, List.length_nil]; omega) gi.out.du); clear oR FL mU)
   go_roundw
   case rel => exact ⟨k + 1, _, _, _, _, _, by omega, by go_num, by first | rfl | trivial, by first | rfl | trivial, Ir⟩
   case measure => simp [intOf]; omega
end Go.Proofs.YtljfcdkhicffcaaGreat
