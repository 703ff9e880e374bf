import Derived.Test.YtljfcdkhicffcaaGreatPmXb
import Derived.Test.YtljfcdkhicffcaaGreatG26
namespace Go.Proofs.YtljfcdkhicffcaaGreat
set_option maxRecDepth 100000
set_option maxHeartbeats 8000000
set_option linter.unusedVariables false
set_option linter.unusedSimpArgs false
open Go Go.RowKit Go.MapKept
theorem jc3 {ls : List T3} {txn id aw : Int} (hl : ls.length < 4096) (hi : 0 ≤ id ∧ id ≤ 511) (ht : 1 ≤ txn ∧ txn ≤ 2147483647) (hm : 1 ≤ aw ∧ aw ≤ 2) : Wd ls (id, txn, aw) = if WT (T9 txn id 0 ls) aw = false then 1 else 0 := by
 unfold Wd;rw [if_neg (by simp [VW, inB]; omega), if_neg (fun h => by omega)]
def Wn (gp : Int) (st : PlS) (s : StD) (tx id : Int) : List (AnD × PlS) :=
 if s.1 = 1 then Wh st tx
 else if s.1 = 8 then [Us 8 st, Us 0 st]
 else if Vs gp st s (Uw st.txns s.2.1) = 0 then VP st s ((Uw st.txns s.2.1).getD []) ++ Vp gp st s id ((Uw st.txns s.2.1).getD [])
 else if Vs gp st s (Uw st.txns s.2.1) = 6 then [Us 6 { st with locks := Vb st.locks s.2.1 s.2.2.1 (if s.1 = 5 then 1 else 2) }]
 else [Us (Vs gp st s (Uw st.txns s.2.1)) st]
theorem jfs {gp : Int} {st : PlS} {s : StD} {o : Option (List WrD)} (h : Vs gp st s o = 0 ∨ Vs gp st s o = 6) : ∃ ws, o = some ws ∧ (s.1 = 3 ∨ s.1 = 4 ∨ s.1 = 5 → (0 ≤ s.2.2.1 ∧ s.2.2.1 < gp * 32) ∧ WT (T9 s.2.1 s.2.2.1 0 st.locks) (if s.1 = 5 then 1 else 2) = true) ∧ (Vs gp st s o = 6 → s.1 = 3 ∨ s.1 = 4 ∨ s.1 = 5) := by
 cases o with
 | none => exact absurd h (by simp [Vs])
 | some ws =>
  refine ⟨ws, rfl, fun h3 => ?_, fun h6 => ?_⟩
  ·obtain ⟨c, hc⟩ : ∃ c, Vs gp st s (some ws) = c := ⟨_, rfl⟩
   rw [hc] at h;unfold Vs at hc;dsimp only at hc
   by_cases hA : (s.1 = 2 ∨ s.1 = 3) ∧ (1000 : Int) < (s.2.2.2.2.1.length : Int)
   ·rw [if_pos hA] at hc; subst hc; rcases h with h | h <;> cases h
   rw [if_neg hA, if_pos h3] at hc
   by_cases hr : (decide (0 ≤ s.2.2.1) && decide (s.2.2.1 < gp * 32)) = false
   ·rw [if_pos hr] at hc; subst hc; rcases h with h | h <;> cases h
   rw [if_neg hr] at hc
   by_cases ht : WT (T9 s.2.1 s.2.2.1 0 st.locks) (if s.1 = 5 then 1 else 2) = false
   ·rw [if_pos ht] at hc; subst hc; rcases h with h | h <;> cases h
   refine ⟨?_, by simpa using ht⟩
   simpa using hr
  ·unfold Vs at h6
   dsimp only at h6
   split at h6
   ·cases h6
   ·split at h6
    ·assumption
    ·cases h6
theorem OuI.before {wa w0 w : World} {lo M : Nat} {gp gf gl : Int} {v : Value} {os : List EOu} (h : OuI w0 w lo M gp gf gl v os) (hk : Same wa w0) : OuI wa w lo M gp gf gl v os := ⟨h.row, fun b hb => Nat.le_trans hk.size (h.new b hb), h.each, hk.trans h.same⟩
theorem OuL.before {wa w0 w : World} {lo M : Nat} {gp gf gl : Int} {e : Ending} {L : List (AnD × PlS)} (h : OuL lo M gp gf gl w0 w e L) (hk : Same wa w0) : OuL lo M gp gf gl wa w e L := by
 obtain ⟨a, n, c, os, h1, h2, h3⟩ := h;exact ⟨a, n, c, os, h1, h2, h3.before hk⟩
theorem Yl {w w2 w3 : World} {lo M : Nat} {gp gf gl : Int} {o : EOu} (hk : Same w w2) (h3 : w3 = w2.alloc (.cells (kOu.all [o]).toArray 124)) (ho : OutI w3 lo M gp gf gl o) : OuL lo M gp gf gl w w3 (.returned (.slice (some ⟨w2.heap.size, 0, none⟩) 1 1)) [o.dat] := by
 subst h3;have ar : Same w2 (w2.alloc (.cells (kOu.all [o]).toArray 124)) := kZ0.alloc _;exact ⟨_, 1, 1, [o], rfl, rfl, OuI.made (os := [o]) (hk.trans ar) hk.size (Blk.newL w2 (kOu.all [o]) 124) (by simp) (fun y hy => by rw [List.mem_singleton.1 hy]; exact ho)⟩
theorem jg1 {w w2 w3 : World} {lo M : Nat} {gp gf gl : Int} {o p : EOu} (hk : Same w w2) (h3 : w3 = w2.alloc (.cells (kOu.all [o, p]).toArray 124)) (ho : OutI w3 lo M gp gf gl o) (hp : OutI w3 lo M gp gf gl p) : OuL lo M gp gf gl w w3 (.returned (.slice (some ⟨w2.heap.size, 0, none⟩) 2 2)) [o.dat, p.dat] := by
 subst h3;have ar : Same w2 (w2.alloc (.cells (kOu.all [o, p]).toArray 124)) := kZ0.alloc _
 exact ⟨_, 2, 2, [o, p], rfl, rfl, OuI.made (os := [o, p]) (hk.trans ar) hk.size (Blk.newL w2 (kOu.all [o, p]) 124) (by simp) (fun y hy => by
  rcases List.mem_cons.1 hy with rfl | hy
  ·exact ho
  ·rw [List.mem_singleton.1 hy]; exact hp)⟩
theorem jca (lo M : Nat) (gp gf gl : Int) (x : PmX) (st : PlS) (n0 : Nat) (kd stx ah cnt : Int) (sa : Option Addr) (sn sc : Nat) (ka : Option Addr) (kn kc : Nat) (sd kb : List Int) (bW bC b6 : Int) (da : Option Addr) (dn dc : Nat) (ra : Option Addr) (rn rc : Nat) (bY : Int) (w : World) (h : PmI w lo M gp gf gl x) (hd : PmD x st) (bd : OkS gp n0 st) (hn : n0 < 4096) (cL : st.up = true) (hg : 0 ≤ gp ∧ gp ≤ 16) (dN : 1 ≤ kd ∧ kd ≤ 8) (gD : RdL lo w (.slice sa sn sc) sd) (dk : sd.length = sn) :
  Calls Tryz.prog 100 #[Q3 M 0, .agg #[V kd, V stx, V ah, V cnt, .slice sa sn sc, .slice ka kn kc], .agg #[V bW, V bC, V b6, .slice da dn dc, .slice ra rn rc, V bY]] w fun e w' => OuL lo M gp gf gl w w' e (Wn gp st (kd, stx, ah, cnt, sd, kb) bC b6) := by
 have oz : ∀ t ∈ x.te, t.ps.length ≤ 1048576 := fun t ht => by
  have h1 := (bd.okw t.dat (hd.txns.subset (List.mem_map_of_mem ht))).len
  have h2 : (TU t.ps).length = t.ps.length := by simp [TU]
  have h3 : (TU t.ps).length ≤ n0 := h1;omega
 have F8 := (show Hid (∀ wx, Same w wx → _) from fun wx hx => (jbc lo M gp gf gl x st bC wx (h.same hx) hd cL (fun y hy => (bd.told y hy).2) bd.n8));have Fe := (show Hid (2 ≤ kd ∧ kd ≤ 7 → ∀ wx, Same w wx → _) from fun hk wx hx => (jdm lo M gp gf gl x st kd stx ah cnt sa sn sc ka kn kc sd kb wx (h.same hx) hd bd.rt bd.lk (by omega) dk oz hk));obtain ⟨CD, rC⟩ : ∃ z, Vs gp st (kd, stx, ah, cnt, sd, kb) (Uw st.txns stx) = z := ⟨_, rfl⟩;rw [rC] at Fe;obtain ⟨RP, bS⟩ : ∃ z, Wn gp st (kd, stx, ah, cnt, sd, kb) bC b6 = z := ⟨_, rfl⟩;rw [bS]
 have bj := (show Hid (RP = if kd = 1 then Wh st bC else if kd = 8 then [Us 8 st, Us 0 st] else if CD = 0 then VP st (kd, stx, ah, cnt, sd, kb) ((Uw st.txns stx).getD []) ++ Vp gp st (kd, stx, ah, cnt, sd, kb) b6 ((Uw st.txns stx).getD []) else if CD = 6 then [Us 6 { st with locks := Vb st.locks stx ah (if kd = 5 then 1 else 2) }] else [Us CD st]) from by
  show RP = _
  rw [← bS, ← rC]
  rfl)
 have Oy := XK hd bd.rt stx
 have y9 := (show Hid (CD = 0 ∨ CD = 6 → ∃ pre t post, x.te = pre ++ t :: post ∧ t.id = stx ∧ Uw st.txns stx = some (TU t.ps) ∧ (1 ≤ stx ∧ stx ≤ 2147483647) ∧ t.ps.length ≤ 1048576 ∧ (kd = 3 ∨ kd = 4 ∨ kd = 5 → Wd st.locks (ah, stx, if kd = 5 then 1 else 2) = 0) ∧ (CD = 6 → kd = 3 ∨ kd = 4 ∨ kd = 5)) from fun hc => by
  obtain ⟨ws, e1, e2, e3⟩ := jfs (s := (kd, stx, ah, cnt, sd, kb)) (by rw [rC]; exact hc)
  rcases Oy with ⟨_, h2, _⟩ | ⟨pre, t, post, h3, h4, _, h2⟩
  ·rw [h2] at e1; cases e1
  ·have hm : t ∈ x.te := by rw [h3]; exact List.mem_append_right _ List.mem_cons_self
   have P0 := bd.mx;have ht := bd.told t.dat (hd.txns.subset (List.mem_map_of_mem hm));have Qz : t.dat.1 = stx := h4;rw [Qz] at ht;have eI : 1 ≤ stx ∧ stx ≤ 2147483647 := ⟨ht.1, by omega⟩;refine ⟨pre, t, post, h3, h4, h2, eI, oz t hm, fun hk => ?_, fun h6 => e3 (by rw [rC]; exact h6)⟩;obtain ⟨⟨i1, i2⟩, i3⟩ := e2 hk;have Kh := bd.ln;have eD : 0 ≤ ah := i1;have iG : ah < gp * 32 := i2;rw [jc3 (by omega) (by omega) eI (by split <;> omega)];rw [show WT (T9 stx ah 0 st.locks) (if kd = 5 then 1 else 2) = true from i3]
   rfl)
 have H := hid h;have HD := hid hd;have iL := hid bd;have nu := hid cL;have AP := hid gD;have qX := hid dk;have R6 := (show Hid (st.locks.length < 4096) from by have := bd.ln; show st.locks.length < 4096; omega);have gH := hid hg;have gC := Blk.newL w [Q3 M 0] 83;obtain ⟨X, aQ⟩ : ∃ X, w.heap.size = X := ⟨_, rfl⟩;obtain ⟨wa, cg⟩ : ∃ z, w.alloc (.cells #[Q3 M 0] 83) = z := ⟨_, rfl⟩
 have cX : Same w wa := by rw [← cg]; exact kZ0.alloc _
 have dE : wa.heap.size = X + 1 := by rw [← cg, World.size_alloc, aQ]
 rw [aQ, cg] at gC;have iw := Blk.newL wa [V kd, V stx, V ah, V cnt, .slice sa sn sc, .slice ka kn kc] 71;obtain ⟨wb, cE⟩ : ∃ z, wa.alloc (.cells #[V kd, V stx, V ah, V cnt, .slice sa sn sc, .slice ka kn kc] 71) = z := ⟨_, rfl⟩
 have dD : Same wa wb := by rw [← cE]; exact kZ0.alloc _
 have pE : wb.heap.size = X + 1 + 1 := by rw [← cE, World.size_alloc, dE]
 rw [dE, cE] at iw;have mY := Blk.newL wb [V bW, V bC, V b6, .slice da dn dc, .slice ra rn rc, V bY] 73;obtain ⟨a8, gW⟩ : ∃ z, wb.alloc (.cells #[V bW, V bC, V b6, .slice da dn dc, .slice ra rn rc, V bY] 73) = z := ⟨_, rfl⟩
 have lL : Same wb a8 := by rw [← gW]; exact kZ0.alloc _
 rw [pE, gW] at mY;have HI := (show Hid (∀ wx, Same a8 wx → Blk wx X 83 [Q3 M 0] ∧ Blk wx (X + 1) 71 [V kd, V stx, V ah, V cnt, .slice sa sn sc, .slice ka kn kc] ∧ Blk wx (X + 1 + 1) 73 [V bW, V bC, V b6, .slice da dn dc, .slice ra rn rc, V bY] ∧ Same w wx) from fun wx hk => ⟨((gC.same dD).same lL).same hk, (iw.same lL).same hk, mY.same hk, ((cX.trans dD).trans lL).trans hk⟩);have gy := (show Hid (lo ≤ w.heap.size) from h.size);clear h hd bd cL gD dk oz Oy gC iw mY cX dD lL rC bS
 go_enter Tryz.func100, Tryz.ntmps100
 go_upto_region 1 with fail
 try rw [cg]
 try rw [cE]
 try rw [gW]
 try rw [aQ]
 try rw [dE]
 try rw [pE]
 clear cg cE gW aQ dE pE wa wb;have mP := HI.out a8 kZ0;obtain ⟨q0, s1, s2, s3, s4, s5⟩ := mP.2.1.all6;have q1 := mP.2.2.1.cell 1;have q2 := mP.1.c0;simp only [List.getElem?_cons_zero, List.getElem?_cons_succ] at q1;have ay := hid mP.2.2.2;clear mP
 by_cases af : kd = 1
 case pos =>
  subst af;have HE := (show Hid (RP = Wh st bC) from by show RP = _; rw [bj.out, if_pos rfl]);have AU := F8.out a8 ay.out;rw [← HE.out] at AU;clear F8 Fe bj y9
  go_wp2_with fail
  refine AU.mono ?_;rintro e w2 ⟨ba, bn, bc, os, rfl, hL⟩;have HR := (show Hid (OuL lo M gp gf gl w w2 (.returned (.slice ba bn bc)) RP) from OuL.before ⟨ba, bn, bc, os, rfl, hL⟩ ay.out);clear AU hL q0 q1 q2 s1 s2 s3 s4 s5;go_wp2;go_ret;exact HR.out
 have n1 : (kd == 1) = false := by simpa using af
 by_cases kI : kd = 8
 case pos =>
  subst kI;have HE := (show Hid (RP = [Us 8 st, Us 0 st]) from by show RP = _; rw [bj.out, if_neg (by decide), if_pos rfl]);have kR := U6 8 a8;have b1 := jab;have bs := jad;clear F8 Fe bj y9 af n1
  go_wp2_with fail
  refine kR.mono ?_;rintro e w2 ⟨rfl, ae⟩
  have HR := (show Hid (OuL lo M gp gf gl w (w2.alloc (.cells #[V 8, V 0, V 0, V0, V0, V 0, .func (.func 95) #[] #[], V 0, V 0, V 0, V0, V0, V 0, .func (.func 95) #[] #[]] 124)) (.returned (.slice (some ⟨w2.heap.size, 0, none⟩) 2 2)) RP) from by
   rw [HE.out];have ar : Same w2 (w2.alloc (.cells #[V 8, V 0, V 0, V0, V0, V 0, .func (.func 95) #[] #[], V 0, V 0, V 0, V0, V0, V 0, .func (.func 95) #[] #[]] 124)) := kZ0.alloc _
   exact jg1 (o := Vy 8 st) (p := Vy 0 st) (ay.out.trans ae) rfl (Vi (H.out.same ((ay.out.trans ae).trans ar)) HD.out 8) (Vi (H.out.same ((ay.out.trans ae).trans ar)) HD.out 0))
  clear kR ae q0 q1 q2 s1 s2 s3 s4 s5;go_wp2;go_ret;exact HR.out
 have n8 : (kd == 8) = false := by simpa using kI
 have bN : 2 ≤ kd ∧ kd ≤ 7 := by omega
 have aZ := hid bN;have AU := Fe.out bN a8 ay.out
 have mq := (show Hid (RP = if CD = 0 then VP st (kd, stx, ah, cnt, sd, kb) ((Uw st.txns stx).getD []) ++ Vp gp st (kd, stx, ah, cnt, sd, kb) b6 ((Uw st.txns stx).getD []) else if CD = 6 then [Us 6 { st with locks := Vb st.locks stx ah (if kd = 5 then 1 else 2) }] else [Us CD st]) from by
  show RP = _
  rw [bj.out, if_neg af, if_neg kI])
 clear F8 Fe bj af kI bN dN
 go_wp2_with fail
 refine AU.mono ?_;rintro e w2 ⟨rfl, ae⟩;have ap := hid ae;clear AU ae q0 q1 q2 s1 s2 s3 s4 s5
 by_cases h0 : CD = 0
 case pos =>
  obtain ⟨pre, t, post, hx, eI, dH, dm, mT, ez, _⟩ := y9.out (.inl h0)
  have HE := (show Hid (RP = VP st (kd, stx, ah, cnt, sd, kb) (TU t.ps) ++ Vp gp st (kd, stx, ah, cnt, sd, kb) b6 (TU t.ps)) from by
   show RP = _
   rw [mq.out, if_pos h0, dH]
   rfl)
  have LU := (show Hid (∀ wx, Same w wx → _) from fun wx dT => jb9 lo M gp gf gl x st pre post t kd stx ah cnt sa sn sc ka kn kc sd kb wx (H.out.same dT) HD.out hx eI qX.out);have LX := (show Hid (∀ wx, Same w wx → _) from fun wx dT => jb8 lo M gp gf gl x st pre post t kd stx ah cnt sa sn sc ka kn kc sd kb b6 wx (H.out.same dT) HD.out hx eI nu.out iL.out.lk R6.out gH.out dm (AP.out.onL (OuK.same (lo := lo) dT).2) qX.out mT aZ.out (fun hk => by have := ez (by omega); rwa [if_neg (by omega)] at this) (fun hk => by have := ez (by omega); rwa [if_pos hk] at this));obtain ⟨RO, F4⟩ : ∃ z, VP st (kd, stx, ah, cnt, sd, kb) (TU t.ps) = z := ⟨_, rfl⟩;obtain ⟨DO, Gz⟩ : ∃ z, Vp gp st (kd, stx, ah, cnt, sd, kb) b6 (TU t.ps) = z := ⟨_, rfl⟩;rw [F4, Gz] at HE;rw [F4] at LU;rw [Gz] at LX
  have jM := (show Hid (RO.length ≤ 2 ∧ DO.length ≤ 1) from by
   show RO.length ≤ 2 ∧ DO.length ≤ 1
   rw [← F4, ← Gz];constructor
   ·unfold VP; dsimp only; repeat' split
    all_goals simp
   ·unfold Vp; dsimp only; repeat' split
    all_goals simp)
  clear hx eI dH dm mT ez mq y9 F4 Gz
  have e0 : (CD == 0) = true := by simpa using h0
  have bL := (show Hid (∀ wx, Same a8 wx → (fun wx : World => wx.cell? ⟨X, 0, none⟩ = some (Q3 M 0) ∧ wx.cell? ⟨X + 1, 0, none⟩ = some (V kd) ∧ wx.cell? ⟨X + 1, 1, none⟩ = some (V stx) ∧ wx.cell? ⟨X + 1, 2, none⟩ = some (V ah) ∧ wx.cell? ⟨X + 1, 3, none⟩ = some (V cnt) ∧ wx.cell? ⟨X + 1, 4, none⟩ = some (.slice sa sn sc) ∧ wx.cell? ⟨X + 1, 5, none⟩ = some (.slice ka kn kc) ∧ wx.cell? ⟨X + 1 + 1, 2, none⟩ = some (V b6)) wx) from fun wx hk => by
   obtain ⟨i1, i2, i3, _⟩ := HI.out wx hk;obtain ⟨j0, j1, j2, j3, j4, j5⟩ := i2.all6
   exact ⟨i1.c0, j0, j1, j2, j3, j4, j5, i3.cell 2⟩)
  clear h0
  go_upto_region 10 with fail
  refine TT (fun wx : World => wx.cell? ⟨X, 0, none⟩ = some (Q3 M 0) ∧ wx.cell? ⟨X + 1, 0, none⟩ = some (V kd) ∧ wx.cell? ⟨X + 1, 1, none⟩ = some (V stx) ∧ wx.cell? ⟨X + 1, 2, none⟩ = some (V ah) ∧ wx.cell? ⟨X + 1, 3, none⟩ = some (V cnt) ∧ wx.cell? ⟨X + 1, 4, none⟩ = some (.slice sa sn sc) ∧ wx.cell? ⟨X + 1, 5, none⟩ = some (.slice ka kn kc) ∧ wx.cell? ⟨X + 1 + 1, 2, none⟩ = some (V b6)) 9 10 rfl (by kernel_rfl) ?_;have ar : Same w2 (World.drew w2) := kZ0.drew;generalize World.drew w2 = w3 at ar ⊢;have ax := hid (ap.out.trans ar);clear ar ap;have hS : (fun wx : World => wx.cell? ⟨X, 0, none⟩ = some (Q3 M 0) ∧ wx.cell? ⟨X + 1, 0, none⟩ = some (V kd) ∧ wx.cell? ⟨X + 1, 1, none⟩ = some (V stx) ∧ wx.cell? ⟨X + 1, 2, none⟩ = some (V ah) ∧ wx.cell? ⟨X + 1, 3, none⟩ = some (V cnt) ∧ wx.cell? ⟨X + 1, 4, none⟩ = some (.slice sa sn sc) ∧ wx.cell? ⟨X + 1, 5, none⟩ = some (.slice ka kn kc) ∧ wx.cell? ⟨X + 1 + 1, 2, none⟩ = some (V b6)) w3 := bL.out w3 ax.out;refine tk 0 30 hS ?_;refine tk 1 31 hS ?_;refine tk 3 33 hS ?_;refine tk 4 34 hS ?_;refine tk 5 35 hS ?_;refine tk 6 36 hS ?_;refine o1Q 2 (fun Kc ak => ?_);go_simp;refine (LU.out w3 (HI.out w3 ax.out).2.2.2).mono ?_;rintro e w4 ⟨la, ln, lc, os, rfl, oG, hO⟩;have fI := hid hO;have ni := hid oG;have aR := hid (ax.out.trans hO.same);clear hO oG hS;have hS : (fun wx : World => wx.cell? ⟨X, 0, none⟩ = some (Q3 M 0) ∧ wx.cell? ⟨X + 1, 0, none⟩ = some (V kd) ∧ wx.cell? ⟨X + 1, 1, none⟩ = some (V stx) ∧ wx.cell? ⟨X + 1, 2, none⟩ = some (V ah) ∧ wx.cell? ⟨X + 1, 3, none⟩ = some (V cnt) ∧ wx.cell? ⟨X + 1, 4, none⟩ = some (.slice sa sn sc) ∧ wx.cell? ⟨X + 1, 5, none⟩ = some (.slice ka kn kc) ∧ wx.cell? ⟨X + 1 + 1, 2, none⟩ = some (V b6)) w4 := bL.out w4 aR.out
  go_wp2_with fail
  refine ak.out _ _ (fun _ => hS) ?_;clear ak Kc
  try simp only [Act.put, sA, s0, sS]
  refine o1Q 7 (fun Kc ak => ?_);go_simp;refine (LX.out w4 (HI.out w4 aR.out).2.2.2).mono ?_;rintro e w5 ⟨ma, mn, mc, us, rfl, rh, hU⟩;have js := hid hU;have Ao := hid rh;have dI := hid (fI.out.on hU.same);have aH := hid (aR.out.trans hU.same);clear hU rh hS fI aR;have hS : (fun wx : World => wx.cell? ⟨X, 0, none⟩ = some (Q3 M 0) ∧ wx.cell? ⟨X + 1, 0, none⟩ = some (V kd) ∧ wx.cell? ⟨X + 1, 1, none⟩ = some (V stx) ∧ wx.cell? ⟨X + 1, 2, none⟩ = some (V ah) ∧ wx.cell? ⟨X + 1, 3, none⟩ = some (V cnt) ∧ wx.cell? ⟨X + 1, 4, none⟩ = some (.slice sa sn sc) ∧ wx.cell? ⟨X + 1, 5, none⟩ = some (.slice ka kn kc) ∧ wx.cell? ⟨X + 1 + 1, 2, none⟩ = some (V b6)) w5 := bL.out w5 aH.out
  go_wp2_with fail
  refine ak.out _ _ (fun _ => hS) ?_;clear ak Kc
  try simp only [Act.put, sA, s0, sS]
  refine o1Q 8 (fun Kc ak => ?_)
  have bV := (show Hid (os.length + us.length ≤ 100000) from by
   have h1 : os.length = RO.length := by rw [← ni.out, List.length_map]
   have h2 : us.length = DO.length := by rw [← Ao.out, List.length_map]
   have := jM.out
   show os.length + us.length ≤ 100000
   omega)
  refine XM rfl (.tmp 32) (.tmp 37) (by rfl) (by rfl) (by rfl) dI.out js.out.row js.out.each (by have := gy.out; have := (HI.out w3 ax.out).2.2.2.size; omega) bV.out ?_;intro fq fe fh w6 mW _;have iK := hid mW;have bI := hid (ax.out.trans mW.same)
  have HR := (show Hid (OuL lo M gp gf gl w w6 (.returned (.slice fq fe fh)) RP) from by
   refine ⟨fq, fe, fh, os ++ us, rfl, ?_, mW.before (HI.out w3 ax.out).2.2.2⟩
   rw [HE.out, List.map_append, ni.out, Ao.out])
  clear mW hS dI js;have hS : (fun wx : World => wx.cell? ⟨X, 0, none⟩ = some (Q3 M 0) ∧ wx.cell? ⟨X + 1, 0, none⟩ = some (V kd) ∧ wx.cell? ⟨X + 1, 1, none⟩ = some (V stx) ∧ wx.cell? ⟨X + 1, 2, none⟩ = some (V ah) ∧ wx.cell? ⟨X + 1, 3, none⟩ = some (V cnt) ∧ wx.cell? ⟨X + 1, 4, none⟩ = some (.slice sa sn sc) ∧ wx.cell? ⟨X + 1, 5, none⟩ = some (.slice ka kn kc) ∧ wx.cell? ⟨X + 1 + 1, 2, none⟩ = some (V b6)) w6 := bL.out w6 bI.out;refine ak.out _ _ (fun _ => hS) ?_;clear ak Kc
  try simp only [List.getElem_toArray, List.getElem_cons_succ, List.getElem_cons_zero]
  try simp only [Act.put, sA, s0, sS]
  refine o1Q 9 (fun Kc ak => ?_);go_simp;refine ak.out _ _ (fun _ => hS) ?_;clear ak Kc;refine TS (by kernel_rfl) ?_
  try simp only [Act.put, sA, s0, sS]
  clear hS;go_wp2;go_ret;exact HR.out
 have e0 : (CD == 0) = false := by simpa using h0
 have x7 := hid (ay.out.trans ap.out)
 by_cases h6 : CD = 6
 case pos =>
  have e6 : (CD == 6) = true := by simpa using h6
  obtain ⟨pre, t, post, hx, eI, dH, dm, mT, ez, aN⟩ := y9.out (.inr h6);have ez := ez (aN h6)
  have HE := (show Hid (RP = [Us 6 { st with locks := Vb st.locks stx ah (if kd = 5 then 1 else 2) }]) from by
   show RP = _
   rw [mq.out, if_neg h0, if_pos h6])
  have rZ := (show Hid (∀ wx, Same a8 wx → WM wx lo M gp gf gl 124 #[Q3 X 0, Q3 (X + 1) 0] { st with locks := Vb st.locks stx ah (if kd = 5 then 1 else 2) }) from fun wx hk => jgT (H.out.same (HI.out wx hk).2.2.2) HD.out (HI.out wx hk).1 (HI.out wx hk).2.1 iL.out.lk ez);clear hx eI dH dm mT ez aN mq y9 h0;have ba := jac w2 CD;have b2 := XL;have bs := VJ;have kt : ∀ (fn : Fn) (first cap : Array Value) (w : World), (Instr.makeFunc fn first cap).run Tryz.prog w = .ok (.func fn first cap) w := fun _ _ _ _ => rfl;obtain ⟨w3, gN⟩ : ∃ z, w2.alloc (.cells #[V CD, V 0, V 0, V0, V0, V 0, .func (.func 124) #[] #[Q3 X 0, Q3 (X + 1) 0]] 124) = z := ⟨_, rfl⟩
  have HR := (show Hid (OuL lo M gp gf gl w w3 (.returned (.slice (some ⟨w2.heap.size, 0, none⟩) 1 1)) RP) from by
   rw [HE.out]
   have ar : Same w2 w3 := by rw [← gN]; exact kZ0.alloc _
   exact Yl (o := ⟨6, 0, 0, none, 0, 0, [], none, 0, 0, [], 124, [], [Q3 X 0, Q3 (X + 1) 0], { st with locks := Vb st.locks stx ah (if kd = 5 then 1 else 2) }⟩) x7.out (by rw [← gN, h6]; rfl) ⟨Vx _ _, rfl, OwnR.nil _ _ _ _ _, rZ.out w3 (ap.out.trans ar)⟩)
  clear HE rZ h6
  go_upto_region 12 with fail
  go_wp2
  try rw [gN]
  go_ret;exact HR.out
 have e6 : (CD == 6) = false := by simpa using h6
 have HE := (show Hid (RP = [Us CD st]) from by
  show RP = _
  rw [mq.out, if_neg h0, if_neg h6])
 have kR := U6 CD w2;have bs := VJ;clear mq y9 h0 h6
 go_wp2_with fail
 refine kR.mono ?_;rintro e w3 ⟨rfl, ar⟩
 have HR := (show Hid (OuL lo M gp gf gl w (w3.alloc (.cells #[V CD, V 0, V 0, V0, V0, V 0, .func (.func 95) #[] #[]] 124)) (.returned (.slice (some ⟨w3.heap.size, 0, none⟩) 1 1)) RP) from by
  rw [HE.out];have aM : Same w3 (w3.alloc (.cells #[V CD, V 0, V 0, V0, V0, V 0, .func (.func 95) #[] #[]] 124)) := kZ0.alloc _
  exact Yl (o := Vy CD st) (x7.out.trans ar) rfl (Vi (H.out.same ((x7.out.trans ar).trans aM)) HD.out CD))
 clear kR ar ap;go_wp2;go_ret;exact HR.out
theorem jhr : (Tryz.prog.info? 87).map (fun i => (i.zero, i.size, i.bytes)) = some (some (.map none), 1, 8) := by kernel_rfl
theorem jgs (w : World) (c d : Option Nat) : (Instr.buildSlice 164 2 #[(0, .map c), (1, .map d)]).run Tryz.prog w = .ok (.slice (some ⟨w.heap.size, 0, none⟩) 2 2) (w.alloc (.cells #[.map c, .map d] 87)) := by
 obtain ⟨i0, hi, br, aT, bv⟩ := info_parts jhr;refine run_buildSlice w 164 87 2 _ _ i0 _ Tryz.underlying164 hi br (by rw [aT]; decide) (by rw [aT]; decide) ?_;rw [aT];generalize hZ : (Array.map _ (Array.range (2 * 1)) : Array Value) = Z
 have hs : Z.size = 2 := by rw [← hZ]; simp
 clear hZ;obtain ⟨Z⟩ := Z
 match Z, hs with
 | [z0, z1], _ => simp [Instr.fill, Value.cells]
theorem jcb {w0 w : World} {lo M : Nat} {gp gf gl : Int} {ops : Array Oper} {rest : List Oper} {o : Oper} {a : Act} {Q : Exit → Act → World → Prop} (dY : o.guard = none) (s x : Operand)
  (ho : o.op = .call { callee := .builtin .append, args := #[s, x], argTypes := #[121, 121] }) {fa : Option Addr} {fn fc : Nat} {os us : List EOu} {xa : Option Addr} {m cx : Nat} (hs : a.eval s = .slice fa fn fc) (hx : a.eval x = .slice xa m cx)
  (hO : OuI w0 w lo M gp gf gl (.slice fa fn fc) os) (hU : w.ownsRow 0 124 7 (.slice xa m cx) us.length (kOu.all us)) (hu : ∀ o ∈ us, OutI w lo M gp gf gl o) (cN : lo ≤ w0.heap.size) (hq : os.length + us.length ≤ 100000)
  (h : ∀ fq fe fh w', OuI w0 w' lo M gp gf gl (.slice fq fe fh) (os ++ us) → OuK lo w w' → wpList Tryz.prog ops Q rest (a.put o.dst (.slice fq fe fh)) w') : wpList Tryz.prog ops Q (o :: rest) a w := by
 refine wpList_plain dY (fun K hK => ?_);have h1 := XM (ops := ops) (K := K) (Q := Q) (E := True) dY s x ho hs hx hO hU hu cN hq (fun fq fe fh w' hw hk => hK _ _ (h fq fe fh w' hw hk))
 have hw : Region.wanted o (yielded ops a.tmps) = true := by simp [Region.wanted, dY]
 rwa [if_pos hw] at h1
def upS (st : PlS) (D : List RcD) : PlS := { st with up := true, recs := D, cut := [], told := 0 }
def upA (st : PlS) (D : List RcD) : AnD × PlS := ((0, 0, 0, [], D, 0), upS st D)
def VH (st : PlS) : List (AnD × PlS) := if st.up = true then [Us 11 st] else [Us 1 st, Us 10 st, upA st st.recs, upA st (Uq st.recs st.cut)]
def WN (st : PlS) (k : Nat) : List (AnD × PlS) := [Us 1 st, Us 10 st] ++ ([upA st st.recs, upA st (Uq st.recs st.cut)]).take k
structure MpI (w : World) (lo : Nat) (x : PmX) (C ck : Nat) (ce : List ERc) (D : List RcD) : Prop where
 m : RcM lo w C ck ce
 d : (ce.map ERc.dat).Perm D
 r : (D.map (·.1)).Pairwise (· < ·)
 i : ∀ r ∈ D, 0 ≤ r.1 ∧ r.1 < 512
 ok : OkR D
 l : D.length ≤ 512
 lo : lo ≤ C
 T : C ≠ x.T
 B : C ≠ x.B
 e : ∀ e ∈ x.tt, e.blk ≠ C
theorem MpI.same {w w' : World} {lo : Nat} {x : PmX} {C ck : Nat} {ce : List ERc} {D : List RcD} (h : MpI w lo x C ck ce D) (hk : Same w w') : MpI w' lo x C ck ce D := ⟨h.m.same hk, h.d, h.r, h.i, h.ok, h.l, h.lo, h.T, h.B, h.e⟩
theorem MpI.onO {w w' : World} {lo : Nat} {x : PmX} {C ck : Nat} {ce : List ERc} {D : List RcD} (h : MpI w lo x C ck ce D) (hk : OuK lo w w') : MpI w' lo x C ck ce D := ⟨⟨hk.map h.m.map, h.m.ok, fun e he => (h.m.data e he).onL hk.2⟩, h.d, h.r, h.i, h.ok, h.l, h.lo, h.T, h.B, h.e⟩
theorem Z7 (lo M : Nat) (gp gf gl : Int) (x : PmX) (st : PlS) (n0 : Nat) (w : World) (h : PmI w lo M gp gf gl x) (hd : PmD x st) (bd : OkS gp n0 st) (hg : 0 ≤ gp ∧ gp ≤ 16) :
  Calls Tryz.prog 96 #[Q3 M 0] w fun e w' => OuL lo M gp gf gl w w' e (VH st) := by
 obtain ⟨va, vc, AY⟩ := h.n.cut.form;obtain ⟨vn, nF⟩ : ∃ n, x.cs.length = n := ⟨_, rfl⟩;rw [nF] at AY
 have iv : ∀ D : List RcD, (D.map (·.1)).Pairwise (· < ·) → (∀ r ∈ D, 0 ≤ r.1 ∧ r.1 < gp * 32) → (∀ r ∈ D, 0 ≤ r.1 ∧ r.1 < 512) ∧ D.length ≤ 512 := fun D h1 h2 => by
  refine ⟨fun r hr => ⟨(h2 r hr).1, by have := (h2 r hr).2; omega⟩, ?_⟩
  have h3 := V3 (D.map (·.1)) 0 (gp * 32) h1 (fun y hy => by
   obtain ⟨r, hr, rfl⟩ := List.mem_map.1 hy
   exact h2 r hr)
  rw [List.length_map] at h3;omega
 have Jc := (show Hid (∀ wx, Same w wx → MpI wx lo x x.C x.ck x.ce st.recs) from fun wx hk => ⟨(h.same hk).n.rcm, hd.recs, bd.rise, (iv _ bd.rise bd.ids).1, bd.okr, (iv _ bd.rise bd.ids).2, h.n.loC, h.n.cT, h.n.cB, fun e he => (h.n.ne e he).1⟩);have Jk : ∀ r ∈ Uq st.recs st.cut, 0 ≤ r.1 ∧ r.1 < gp * 32 := Yj _ bd.ids (fun y hy => bd.okc.ids y hy);have yN := XG st.cut bd.rise
 have Jn := (show Hid (∀ wx wy C ck ce, Same w wx → Same wx wy → wx.heap.size ≤ C → RcM lo wy C ck ce → (ce.map ERc.dat).Perm (Uq st.recs st.cut) → MpI wy lo x C ck ce (Uq st.recs st.cut)) from fun wx wy C ck ce hk _ hC hm hD => by
  have h1 := h.n.txn.lt;have h2 := h.n.lk.out.lt;have h3 := hk.size;have h4 := h.size
  exact ⟨hm, hD, yN, (iv _ yN Jk).1, X9 _ _ bd.okc.ok bd.okr, (iv _ yN Jk).2, by omega, by omega, by omega, fun e he => by have h5 := (h.n.lk.inn e he).lt; omega⟩)
 have KW := (show Hid (∀ wx, Same w wx → Calls Tryz.prog 117 #[.map (some x.C), .slice va vn vc] wx fun e w' => WtR lo wx w' e (Uq st.recs st.cut)) from fun wx hk => by
  have h1 := h.same hk;have h2 := jbv lo x.C x.ck x.ce st.recs (.slice va vn vc) x.cs wx h1.size h1.n.rcm hd.recs (by rw [← AY]; exact h1.n.cut.rd) h1.n.cut.data;rw [hd.cut] at h2
  exact h2)
 obtain ⟨RP, bS⟩ : ∃ z, VH st = z := ⟨_, rfl⟩;rw [bS];have bj := hid bS;have hu : x.up = st.up := hd.up;have H := hid h;have HD := hid hd;have gy := (show Hid (lo ≤ w.heap.size) from h.size);have gC := Blk.newL w [Q3 M 0] 83;have sf : Same w (w.alloc (.cells #[Q3 M 0] 83)) := kZ0.alloc _;obtain ⟨X, aQ⟩ : ∃ X, w.heap.size = X := ⟨_, rfl⟩;rw [aQ] at gC;obtain ⟨up, cL⟩ : ∃ z, st.up = z := ⟨_, rfl⟩;rw [cL] at hu;have nu := hid cL;have Pp := hid AY;clear h hd bd iv Jk yN bS cL nF AY hg
 go_enter Tryz.func96, Tryz.ntmps96
 go_upto_region 1 with fail
 try rw [aQ]
 generalize w.alloc (.cells #[Q3 M 0] 83) = w1 at gC sf ⊢;have NY := hid gC;have ao := hid sf;have HM := (show Hid (∀ wx, Same w1 wx → Blk wx X 83 [Q3 M 0] ∧ PmI wx lo M gp gf gl x ∧ Same w wx) from fun wx hk => ⟨gC.same hk, H.out.same (sf.trans hk), sf.trans hk⟩);clear gC sf aQ;have x0 := NY.out.c0;have m3 := (H.out.same ao.out).box.cell 3;simp only [PmC, List.getElem?_cons_zero, List.getElem?_cons_succ] at m3;rw [hu] at m3
 cases up with
 | true =>
  have HE := (show Hid (RP = [Us 11 st]) from by show RP = _; rw [← bj.out]; unfold VH; rw [if_pos nu.out]);have kR := U6 11 w1;have bs := VJ;clear KW Jc Jn bj hu
  go_wp2_with fail
  refine kR.mono ?_;rintro e w2 ⟨rfl, ae⟩
  have HR := (show Hid (OuL lo M gp gf gl w (w2.alloc (.cells #[V 11, V 0, V 0, V0, V0, V 0, .func (.func 95) #[] #[]] 124)) (.returned (.slice (some ⟨w2.heap.size, 0, none⟩) 1 1)) RP) from by
   rw [HE.out];have ar : Same w2 (w2.alloc (.cells #[V 11, V 0, V 0, V0, V0, V 0, .func (.func 95) #[] #[]] 124)) := kZ0.alloc _
   exact Yl (o := Vy 11 st) (ao.out.trans ae) rfl (Vi (H.out.same ((ao.out.trans ae).trans ar)) HD.out 11))
  clear kR ae x0 m3;go_wp2;go_ret;exact HR.out
 | false =>
  have HE := (show Hid (RP = WN st 2) from by
   show RP = _
   rw [← bj.out];unfold VH;rw [if_neg (by rw [nu.out]; decide)]
   rfl)
  have kR := U6 1 w1;clear bj hu
  go_wp2_with fail
  refine kR.mono ?_;rintro e w2 ⟨rfl, ae⟩;have ap := hid ae;have kR := U6 10 w2;have bs := jad;clear ae x0 m3
  go_wp2_with fail
  refine kR.mono ?_;rintro e w3 ⟨rfl, ar⟩;have ax := hid (ap.out.trans ar);clear kR ar ap;have eE := Blk.newL w3 [V 1, V 0, V 0, V0, V0, V 0, .func (.func 95) #[] #[], V 10, V 0, V 0, V0, V0, V 0, .func (.func 95) #[] #[]] 124;have aM : Same w3 (w3.alloc (.cells #[V 1, V 0, V 0, V0, V0, V 0, .func (.func 95) #[] #[], V 10, V 0, V 0, V0, V0, V 0, .func (.func 95) #[] #[]] 124)) := kZ0.alloc _
  have fI := (show Hid (OuI w (w3.alloc (.cells #[V 1, V 0, V 0, V0, V0, V 0, .func (.func 95) #[] #[], V 10, V 0, V 0, V0, V0, V 0, .func (.func 95) #[] #[]] 124)) lo M gp gf gl (.slice (some ⟨w3.heap.size, 0, none⟩) 2 2) [Vy 1 st, Vy 10 st]) from OuI.made (os := [Vy 1 st, Vy 10 st]) ((ao.out.trans ax.out).trans aM) (ao.out.trans ax.out).size eE (by simp) (fun y hy => by
   have h4 := H.out.same ((ao.out.trans ax.out).trans aM)
   rcases List.mem_cons.1 hy with rfl | hy
   ·exact Vi h4 HD.out 1
   ·rw [List.mem_singleton.1 hy]; exact Vi h4 HD.out 10))
  obtain ⟨LZ, IZ⟩ : ∃ z, w3.heap.size = z := ⟨_, rfl⟩;rw [IZ] at fI
  go_upto_region 4 with fail
  try rw [IZ]
  generalize w3.alloc (.cells #[V 1, V 0, V 0, V0, V0, V 0, .func (.func 95) #[] #[], V 10, V 0, V 0, V0, V0, V 0, .func (.func 95) #[] #[]] 124) = w4 at fI aM ⊢;have aR := hid (ax.out.trans aM);clear eE aM IZ ax bs
  let Y1 : World → Prop := fun wx : World => wx.cell? ⟨X, 0, none⟩ = some (Q3 M 0) ∧ wx.cell? ⟨M, 5, none⟩ = some (.map (some x.C)) ∧ wx.cell? ⟨M, 8, none⟩ = some (.slice va vn vc)
  have bL := (show Hid (∀ wx, Same w1 wx → Y1 wx) from fun wx hk => by
   have h5 := (HM.out wx hk).2.1.box.cell 5;have h8 := (HM.out wx hk).2.1.box.cell 8;simp only [PmC, List.getElem?_cons_zero, List.getElem?_cons_succ] at h5 h8;rw [Pp.out] at h8
   exact ⟨(HM.out wx hk).1.c0, h5, h8⟩)
  have bm := jgs;refine TT Y1 99 16 rfl (by kernel_rfl) ?_;have aP : Same w4 (World.drew w4) := kZ0.drew;generalize World.drew w4 = w5 at aP ⊢;have aH := hid (aR.out.trans aP);have dI := hid (fI.out.on aP);clear aP fI aR;have hS : Y1 w5 := bL.out w5 aH.out;refine tk 0 15 hS ?_;refine tk 1 16 hS ?_;refine tk 2 17 hS ?_;refine tk 3 18 hS ?_;refine tk 4 19 hS ?_;refine tk 5 20 hS ?_;refine tk 6 21 hS ?_;refine tk 7 22 hS ?_;refine tk 8 23 hS ?_;refine tk 9 24 hS ?_;refine tk 10 25 hS ?_;refine tk 11 26 hS ?_;refine tk 15 30 hS ?_;refine o1Q 12 (fun Kc ak => ?_);go_simp;refine (KW.out w5 (ao.out.trans aH.out)).mono ?_;rintro e w6 ⟨C2, FF, FW, rfl, jB, eQ, DZ, aN⟩;have lh := (show Hid (∀ wx, Same w6 wx → MpI wx lo x C2 FF FW (Uq st.recs st.cut)) from fun wx hk => (Jn.out w5 w6 C2 FF FW (ao.out.trans aH.out) aN DZ jB eQ).same hk);have bI := hid (aH.out.trans aN);have iK := hid (dI.out.on aN);clear jB eQ DZ aN hS aH dI;have hS : Y1 w6 := bL.out w6 bI.out
  go_wp2_with fail
  refine ak.out _ _ (fun _ => hS) ?_;clear ak Kc
  try simp only [Act.put, sA, s0, sS]
  refine o1Q 13 (fun Kc ak => ?_);go_simp;have eY := Blk.newL w6 [.map (some x.C), .map (some C2)] 87;have bN : Same w6 (w6.alloc (.cells #[.map (some x.C), .map (some C2)] 87)) := kZ0.alloc _;obtain ⟨Q, hQ⟩ : ∃ z, w6.heap.size = z := ⟨_, rfl⟩;rw [hQ] at eY
  try rw [hQ]
  generalize w6.alloc (.cells #[.map (some x.C), .map (some C2)] 87) = w7 at eY bN ⊢;have HQ := hid eY;have OJ := (show Hid (∀ wx, Same w7 wx → MpI wx lo x C2 FF FW (Uq st.recs st.cut)) from fun wx hk => lh.out wx (bN.trans hk));have aZ := hid (bI.out.trans bN);have mV := hid (iK.out.on bN);clear eY bN hQ hS bI iK lh;have hS : Y1 w7 := bL.out w7 aZ.out;refine ak.out _ _ (fun _ => hS) ?_;clear ak Kc
  try simp only [Act.put, sA, s0, sS]
  refine tk 14 29 hS ?_;refine TS (by kernel_rfl) ?_
  try simp only [Act.put, sA, s0, sS]
  clear hS bm
  have RI := (show Hid (∀ k, k < 2 → ∃ C ck ce D, (∀ wx, OuK lo w7 wx → wx.cell? ⟨Q, k, none⟩ = some (.map (some C)) ∧ MpI wx lo x C ck ce D) ∧ WN st (k + 1) = WN st k ++ [upA st D]) from fun k hk => by
   have ae : k = 0 ∨ k = 1 := by omega
   rcases ae with rfl | rfl
   ·exact ⟨x.C, x.ck, x.ce, st.recs, fun wx h7 => ⟨(h7.blk HQ.out (by decide)).cell 0, (Jc.out w7 (HM.out w7 aZ.out).2.2).onO h7⟩, rfl⟩
   ·exact ⟨C2, FF, FW, Uq st.recs st.cut, fun wx h7 => ⟨(h7.blk HQ.out (by decide)).cell 1, (OJ.out w7 kZ0).onO h7⟩, rfl⟩)
  have fR := (show Hid (∀ wx, OuK lo w7 wx → Blk wx X 83 [Q3 M 0] ∧ PmI wx lo M gp gf gl x) from fun wx h7 => ⟨h7.blk (HM.out w7 aZ.out).1 (by decide), (HM.out w7 aZ.out).2.1.onO h7⟩);have Td := hid (ao.out.trans aZ.out);have kt : ∀ (fn : Fn) (first cap : Array Value) (w : World), (Instr.makeFunc fn first cap).run Tryz.prog w = .ok (.func fn first cap) w := fun _ _ _ _ => rfl;clear HQ OJ aZ HM Jc Jn KW bL NY ao H
  go_wp2_with fail
  go_loopw [3, 30] (fun v i wr => ∃ k : Nat, k ≤ 2 ∧ i = V k ∧ ∃ (la : Option Addr) (ln lc : Nat), v = .slice la ln lc ∧ Hid (∃ os : List EOu, os.map EOu.dat = WN st k ∧ os.length = k + 2 ∧ OuI w wr lo M gp gf gl (.slice la ln lc) os ∧ OuK lo w7 wr)) (fun _ i _ => 2 - (intOf i).toNat)
  case atStart => exact ⟨0, Nat.zero_le _, rfl, _, _, _, rfl, [Vy 1 st, Vy 10 st], rfl, rfl, mV.out, OuK.refl _ _⟩
  case round =>
   obtain ⟨k, hk, rfl, la, ln, lc, rfl, HK⟩ := hrel
   by_cases aG : k < 2
   case neg =>
    obtain rfl : k = 2 := by omega
    have HR := (show Hid (OuL lo M gp gf gl w wr (.returned (.slice la ln lc)) RP) from by
     obtain ⟨os, h1, _, h2, _⟩ := HK.out
     exact ⟨la, ln, lc, os, rfl, by rw [HE.out]; exact h1, h2⟩)
    go_wp2;go_ret;exact HR.out
   obtain ⟨C, ck, ce, D, fy, cR⟩ := RI.out k aG;have jz := hid fy;have eu := hid cR;have yF := (show Hid (OuK lo w7 wr) from by obtain ⟨os, _, _, _, h4⟩ := HK.out; exact h4);have r0 := (fy wr yF.out).1;have aV := Blk.newL wr [.map (some C)] 87;have ae : Same wr (wr.alloc (.cells #[.map (some C)] 87)) := kZ0.alloc _;obtain ⟨Z, hZ⟩ : ∃ X, wr.heap.size = X := ⟨_, rfl⟩;rw [hZ] at aV;clear fy cR
   go_upto_region 7 with fail
   try rw [hZ]
   generalize wr.alloc (.cells #[.map (some C)] 87) = w8 at aV ae ⊢;have eN := hid aV;have ir := (show Hid (Same wr w8) from ae);have z0 := aV.c0;have kL := (show _ from (jz.out w8 (yF.out.trans (OuK.same ae))).2);have kL := jbA lo C ck ce D w8 kL.m kL.d kL.r kL.i kL.ok kL.l;clear aV ae hZ r0
   go_wp2_with fail
   refine kL.mono ?_;rintro e w9 ⟨ra, rn, rc, qs, rfl, p9, hU⟩;have qp := hid hU;have CQ := hid p9;have fB := hid ((yF.out.trans (OuK.same ir.out)).trans (OuK.same hU.same));have zu := hid (eN.out.same hU.same)
   have B6 := (show Hid (∃ os : List EOu, os.map EOu.dat = WN st k ∧ os.length = k + 2 ∧ OuI w w9 lo M gp gf gl (.slice la ln lc) os) from by
    obtain ⟨os, h1, h2, h3, _⟩ := HK.out
    exact ⟨os, h1, h2, h3.on (ir.out.trans hU.same)⟩)
   clear kL hU p9 z0 eN ir HK yF
   have rZ := (show Hid (∀ wx, Same w9 wx → WM wx lo M gp gf gl 118 #[Q3 X 0, Q3 Z 0] (upS st D)) from fun wx hx => by
    have hm := (jz.out wx (fB.out.trans (OuK.same hx))).2
    exact jgZ (fR.out wx (fB.out.trans (OuK.same hx))).2 HD.out (fR.out wx (fB.out.trans (OuK.same hx))).1 (zu.out.same hx) hm.m hm.d hm.lo hm.T hm.B hm.e)
   obtain ⟨dQ, zr⟩ : ∃ z, w9.alloc (.cells #[V 0, V 0, V 0, V0, .slice ra rn rc, V 0, .func (.func 118) #[] #[Q3 X 0, Q3 Z 0]] 124) = z := ⟨_, rfl⟩;obtain ⟨Y, hY⟩ : ∃ z, w9.heap.size = z := ⟨_, rfl⟩
   have dG : Same w9 dQ := by rw [← zr]; exact kZ0.alloc _
   have r8 := (show Hid (OutI dQ lo M gp gf gl ⟨0, 0, 0, none, 0, 0, [], ra, rn, rc, qs, 118, [], [Q3 X 0, Q3 Z 0], upS st D⟩) from ⟨Vx _ _, rfl, qp.out.own.same dG, rZ.out dQ dG⟩)
   have He := (show Hid (Blk dQ Y 124 (kOu.all [⟨0, 0, 0, none, 0, 0, [], ra, rn, rc, qs, 118, [], [Q3 X 0, Q3 Z 0], upS st D⟩])) from by
    show Blk dQ Y 124 _
    rw [← zr, ← hY]
    exact Blk.newL w9 _ 124)
   have JK := hid (fB.out.trans (OuK.same dG))
   have E1 := (show Hid (∃ os : List EOu, os.map EOu.dat = WN st k ∧ os.length = k + 2 ∧ OuI w dQ lo M gp gf gl (.slice la ln lc) os) from by
    obtain ⟨os, h1, h2, h3⟩ := B6.out
    exact ⟨os, h1, h2, h3.on dG⟩)
   have bs := VJ;have b4 := jgS;have b2 := XL;clear dG B6 fB zu qp rZ;obtain ⟨os, AH, j7, LF⟩ := E1.out;have gY := hid AH;have cY := hid j7;have dV := hid LF;clear AH j7 LF E1
   go_wp2_with (at_builtin; go_loud (refine jcb (w0 := w) (os := os) (us := [⟨0, 0, 0, none, 0, 0, [], ra, rn, rc, qs, 118, [], [Q3 X 0, Q3 Z 0], upS st D⟩]) rfl (.tmp 34) (.tmp 40) rfl rfl rfl dV.out (by exact ⟨kOu.all_length _, .inr ⟨Y, 1, _, rfl, Nat.zero_le _, He.out, Nat.le_refl _, by unfold maxLen; omega, rfl, rfl⟩⟩) (fun y hy => by rw [List.mem_singleton.1 hy]; exact r8.out) gy.out (by rw [cY.out]; simp; omega) ?_))
   intro fq fe fh ep Ej dU
   have HR := (show Hid (∃ os : List EOu, os.map EOu.dat = WN st (k + 1) ∧ os.length = (k + 1) + 2 ∧ OuI w ep lo M gp gf gl (.slice fq fe fh) os ∧ OuK lo w7 ep) from by
    refine ⟨_, ?_, ?_, Ej, ?_⟩
    ·rw [eu.out, List.map_append, gY.out]
     have hq : jZ9 qs = D := CQ.out;simp [EOu.dat, upA, hq]
    ·rw [List.length_append, cY.out]
     simp
    ·exact JK.out.trans dU)
   clear Ej dU gY cY dV bs b4 b2 zr hY
   try simp only [List.getElem_toArray, List.getElem_cons_succ, List.getElem_cons_zero]
   go_wp2;go_roundw
   case rel => exact ⟨k + 1, by omega, by go_num, _, _, _, rfl, HR.out⟩
   case measure => simp [intOf]; omega
end Go.Proofs.YtljfcdkhicffcaaGreat
