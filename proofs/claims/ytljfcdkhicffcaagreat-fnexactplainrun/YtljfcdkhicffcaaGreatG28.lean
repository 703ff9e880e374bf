import Derived.Test.YtljfcdkhicffcaaGreatG27
namespace Go.Proofs.YtljfcdkhicffcaaGreat
set_option maxRecDepth 100000
set_option maxHeartbeats 8000000
set_option linter.unusedVariables false
set_option linter.unusedSimpArgs false
open Go Go.RowKit Go.MapKept
theorem jc4 : Ur 67 := fun args wx => by simp [callFunc, go_sem, Tryz.func67, Tryz.f67]
theorem jft {w : World} {lo M : Nat} {gp gf gl : Int} {x : PmX} {st : PlS} (h : PmI w lo M gp gf gl x) (hd : PmD x st) : WM w lo M gp gf gl 67 #[Q3 M 0] (Vo st) := by
 refine ⟨jc4, fun wx hk => ?_⟩;have H2 := hid (h.onO hk);have kS := Yk lo M gp gf gl { x with up := false } x.up wx H2.out.box ⟨H2.out.n.com, H2.out.n.cok, H2.out.n.cd, H2.out.n.txn, H2.out.n.tok, H2.out.n.tb, H2.out.n.tg, H2.out.n.tw, H2.out.n.ta, H2.out.n.lk, H2.out.n.full, H2.out.n.cut, H2.out.n.cT, H2.out.n.cB, H2.out.n.tB, H2.out.n.ne, H2.out.n.loC, H2.out.n.loT, H2.out.n.lot, fun e => by cases e⟩ rfl H2.out.loM;refine kS.mono ?_;rintro e w3 ⟨he, h3, ar⟩;exact ⟨he, ⟨_, h3, hd.off _ _ _ _ _ _ hd.cut⟩, ar⟩
def Zj (gp : Int) (st : PlS) (s : StD) (tx id : Int) : List (AnD × PlS) :=
 if s.1 = 10 then [Us 0 (Vo st)]
 else if s.1 = 11 then [Us 0 st]
 else if s.1 = 9 then VH st
 else if st.up = false then [Us 1 st]
 else Wn gp st s tx id ++ [Us 1 (UC st s)]
theorem jfu (gp : Int) (st : PlS) (s : StD) (tx id : Int) : (Wn gp st s tx id).length ≤ 100 := by
  have h1 : (Wh st tx).length ≤ 100 := by unfold Wh; (repeat' split) <;> simp
  have h2 : ∀ ws, (VP st s ws).length ≤ 50 := fun ws => by unfold VP; (repeat' split) <;> simp
  have h3 : ∀ ws, (Vp gp st s id ws).length ≤ 50 := fun ws => by unfold Vp; (repeat' split) <;> simp
  unfold Wn
  split
  · exact h1
  split
  · simp
  split
  · rw [List.length_append]; have := h2 ((Uw st.txns s.2.1).getD []); have := h3 ((Uw st.txns s.2.1).getD []); omega
  split <;> simp
theorem jbd (lo M : Nat) (gp gf gl : Int) (x : PmX) (st : PlS) (n0 : Nat) (kd stx ah cnt : Int) (sa : Option Addr) (sn sc : Nat) (ka : Option Addr) (kn kc : Nat) (sd kb : List Int) (bW bC b6 : Int) (da : Option Addr) (dn dc : Nat) (ra : Option Addr) (rn rc : Nat) (bY : Int) (w : World) (h : PmI w lo M gp gf gl x) (hd : PmD x st) (bd : OkS gp n0 st) (hn : n0 < 4096) (hg : 0 ≤ gp ∧ gp ≤ 16) (dN : 1 ≤ kd ∧ kd ≤ 11) (gD : RdL lo w (.slice sa sn sc) sd) (dk : sd.length = sn) :
  Calls Tryz.prog 68 #[Q3 M 0, .agg #[V kd, V stx, V ah, V cnt, .slice sa sn sc, .slice ka kn kc], .agg #[V bW, V bC, V b6, .slice da dn dc, .slice ra rn rc, V bY]] w fun e w' => OuL lo M gp gf gl w w' e (Zj gp st (kd, stx, ah, cnt, sd, kb) bC b6) := by
 have AL := (show Hid (∀ wx, Same w wx → _) from fun wx hx => Z7 lo M gp gf gl x st n0 wx (h.same hx) hd bd hg);have yH := (show Hid (st.up = true → 1 ≤ kd ∧ kd ≤ 8 → ∀ wx, Same w wx → _) from fun hu hk wx hx => jca lo M gp gf gl x st n0 kd stx ah cnt sa sn sc ka kn kc sd kb bW bC b6 da dn dc ra rn rc bY wx (h.same hx) hd bd hn hu hg hk (gD.onL (OuK.same (lo := lo) hx).2) dk);have AV := (show Hid (∀ (A S : Nat) (wx : World), Same w wx → Blk wx A 83 [Q3 M 0] → Blk wx S 71 [V kd, V stx, V ah, V cnt, .slice sa sn sc, .slice ka kn kc] → WM wx lo M gp gf gl 98 #[Q3 A 0, Q3 S 0] (UC st (kd, stx, ah, cnt, sd, kb))) from fun A S wx hx hA hS => jgr (h.same hx) hd hA hS bd.rt);obtain ⟨RP, bS⟩ : ∃ z, Zj gp st (kd, stx, ah, cnt, sd, kb) bC b6 = z := ⟨_, rfl⟩;rw [bS];have bj := (show Hid (RP = if kd = 10 then [Us 0 (Vo st)] else if kd = 11 then [Us 0 st] else if kd = 9 then VH st else if st.up = false then [Us 1 st] else Wn gp st (kd, stx, ah, cnt, sd, kb) bC b6 ++ [Us 1 (UC st (kd, stx, ah, cnt, sd, kb))]) from bS.symm);have hu : x.up = st.up := hd.up;have H := hid h;have HD := hid hd;have gy := (show Hid (lo ≤ w.heap.size) from h.size);obtain ⟨up, cL⟩ : ∃ z, st.up = z := ⟨_, rfl⟩;rw [cL] at hu bj yH;have gC := Blk.newL w [Q3 M 0] 83;obtain ⟨X, aQ⟩ : ∃ X, w.heap.size = X := ⟨_, rfl⟩;obtain ⟨wa, cg⟩ : ∃ z, w.alloc (.cells #[Q3 M 0] 83) = z := ⟨_, rfl⟩
 have cX : Same w wa := by rw [← cg]; exact kZ0.alloc _
 have dE : wa.heap.size = X + 1 := by rw [← cg, World.size_alloc, aQ]
 rw [aQ, cg] at gC;have iw := Blk.newL wa [V kd, V stx, V ah, V cnt, .slice sa sn sc, .slice ka kn kc] 71;obtain ⟨wb, cE⟩ : ∃ z, wa.alloc (.cells #[V kd, V stx, V ah, V cnt, .slice sa sn sc, .slice ka kn kc] 71) = z := ⟨_, rfl⟩
 have dD : Same wa wb := by rw [← cE]; exact kZ0.alloc _
 have pE : wb.heap.size = X + 1 + 1 := by rw [← cE, World.size_alloc, dE]
 rw [dE, cE] at iw;have mY := Blk.newL wb [V bW, V bC, V b6, .slice da dn dc, .slice ra rn rc, V bY] 73;obtain ⟨a8, gW⟩ : ∃ z, wb.alloc (.cells #[V bW, V bC, V b6, .slice da dn dc, .slice ra rn rc, V bY] 73) = z := ⟨_, rfl⟩
 have lL : Same wb a8 := by rw [← gW]; exact kZ0.alloc _
 rw [pE, gW] at mY;have HI := (show Hid (∀ wx, Same a8 wx → Blk wx X 83 [Q3 M 0] ∧ Blk wx (X + 1) 71 [V kd, V stx, V ah, V cnt, .slice sa sn sc, .slice ka kn kc] ∧ Blk wx (X + 1 + 1) 73 [V bW, V bC, V b6, .slice da dn dc, .slice ra rn rc, V bY] ∧ Same w wx) from fun wx hk => ⟨((gC.same dD).same lL).same hk, (iw.same lL).same hk, mY.same hk, ((cX.trans dD).trans lL).trans hk⟩);clear h hd bd gD dk gC iw mY cX dD lL bS cL hn hg
 go_enter Tryz.func68, Tryz.ntmps68
 go_upto_region 1 with fail
 try rw [cg]
 try rw [cE]
 try rw [gW]
 try rw [aQ]
 try rw [dE]
 try rw [pE]
 clear cg cE gW aQ dE pE wa wb;have mP := HI.out a8 kZ0;obtain ⟨q0, s1, s2, s3, s4, s5⟩ := mP.2.1.all6;obtain ⟨t0, t1, t2, t3, t4, t5⟩ := mP.2.2.1.all6;have q2 := mP.1.c0;have ay := hid mP.2.2.2;have m3 := (H.out.same ay.out).box.cell 3;simp only [PmC, List.getElem?_cons_zero, List.getElem?_cons_succ] at m3;rw [hu] at m3;have kt : ∀ (fn : Fn) (first cap : Array Value) (w : World), (Instr.makeFunc fn first cap).run Tryz.prog w = .ok (.func fn first cap) w := fun _ _ _ _ => rfl;clear mP hu
 by_cases dG : kd = 10
 case pos =>
  have Tg : (kd == 10) = true := by simpa using dG
  have HE := (show Hid (RP = [Us 0 (Vo st)]) from by show RP = _; rw [bj.out, if_pos dG]);have b1 := jab;have bs := VJ;clear AL yH AV bj dG t0 t1 t2 t3 t4 t5 s1 s2 s3 s4 s5 m3 dN
  have HR := (show Hid (OuL lo M gp gf gl w (a8.alloc (.cells #[V 0, V 0, V 0, V0, V0, V 0, .func (.func 67) #[Q3 M 0] #[]] 124)) (.returned (.slice (some ⟨a8.heap.size, 0, none⟩) 1 1)) RP) from by
   rw [HE.out];have ar : Same a8 (a8.alloc (.cells #[V 0, V 0, V 0, V0, V0, V 0, .func (.func 67) #[Q3 M 0] #[]] 124)) := kZ0.alloc _
   exact Yl (o := ⟨0, 0, 0, none, 0, 0, [], none, 0, 0, [], 67, [Q3 M 0], [], Vo st⟩) ay.out rfl ⟨Vx _ _, rfl, OwnR.nil _ _ _ _ _, jft (H.out.same (ay.out.trans ar)) HD.out⟩)
  go_wp2;go_ret;exact HR.out
 have n10 : (kd == 10) = false := by simpa using dG
 by_cases dU : kd = 11
 case pos =>
  have Te : (kd == 11) = true := by simpa using dU
  have HE := (show Hid (RP = [Us 0 st]) from by show RP = _; rw [bj.out, if_neg dG, if_pos dU]);have b1 := jab;have bs := VJ;clear AL yH AV bj dU dG t0 t1 t2 t3 t4 t5 s1 s2 s3 s4 s5 m3 dN
  have HR := (show Hid (OuL lo M gp gf gl w (a8.alloc (.cells #[V 0, V 0, V 0, V0, V0, V 0, .func (.func 95) #[] #[]] 124)) (.returned (.slice (some ⟨a8.heap.size, 0, none⟩) 1 1)) RP) from by
   rw [HE.out];have ar : Same a8 (a8.alloc (.cells #[V 0, V 0, V 0, V0, V0, V 0, .func (.func 95) #[] #[]] 124)) := kZ0.alloc _
   exact Yl (o := Vy 0 st) ay.out rfl (Vi (H.out.same (ay.out.trans ar)) HD.out 0))
  go_wp2;go_ret;exact HR.out
 have n11 : (kd == 11) = false := by simpa using dU
 by_cases eZ : kd = 9
 case pos =>
  have e9 : (kd == 9) = true := by simpa using eZ
  have HE := (show Hid (RP = VH st) from by show RP = _; rw [bj.out, if_neg dG, if_neg dU, if_pos eZ]);have kR := AL.out a8 ay.out;rw [← HE.out] at kR;clear AL yH AV bj dU dG eZ t0 t1 t2 t3 t4 t5 s1 s2 s3 s4 s5 m3 dN
  go_wp2_with fail
  refine kR.mono ?_;rintro e w2 ⟨ba, bn, bc, os, rfl, hL⟩;have HR := (show Hid (OuL lo M gp gf gl w w2 (.returned (.slice ba bn bc)) RP) from OuL.before ⟨ba, bn, bc, os, rfl, hL⟩ ay.out);clear kR hL q0 q2;go_wp2;go_ret;exact HR.out
 have n9 : (kd == 9) = false := by simpa using eZ
 cases up with
 | false =>
  have HE := (show Hid (RP = [Us 1 st]) from by show RP = _; rw [bj.out, if_neg dG, if_neg dU, if_neg eZ, if_pos rfl]);have kR := U6 1 a8;have bs := VJ;clear AL yH AV bj dU dG eZ t0 t1 t2 t3 t4 t5 s1 s2 s3 s4 s5 dN
  go_wp2_with fail
  refine kR.mono ?_;rintro e w2 ⟨rfl, ae⟩
  have HR := (show Hid (OuL lo M gp gf gl w (w2.alloc (.cells #[V 1, V 0, V 0, V0, V0, V 0, .func (.func 95) #[] #[]] 124)) (.returned (.slice (some ⟨w2.heap.size, 0, none⟩) 1 1)) RP) from by
   rw [HE.out];have ar : Same w2 (w2.alloc (.cells #[V 1, V 0, V 0, V0, V0, V 0, .func (.func 95) #[] #[]] 124)) := kZ0.alloc _
   exact Yl (o := Vy 1 st) (ay.out.trans ae) rfl (Vi (H.out.same ((ay.out.trans ae).trans ar)) HD.out 1))
  clear kR ae q0 q2 m3;go_wp2;go_ret;exact HR.out
 | true =>
  have HE := (show Hid (RP = Wn gp st (kd, stx, ah, cnt, sd, kb) bC b6 ++ [Us 1 (UC st (kd, stx, ah, cnt, sd, kb))]) from by show RP = _; rw [bj.out, if_neg dG, if_neg dU, if_neg eZ, if_neg (by decide)]);have KC := hid (yH.out rfl (by omega));clear AL yH bj dU dG eZ dN;have ba := jac;have b2 := XL;have cW := Blk.newL a8 [V 1, V 0, V 0, V0, V0, V 0, .func (.func 98) #[] #[Q3 X 0, Q3 (X + 1) 0]] 124;have af : Same a8 (a8.alloc (.cells #[V 1, V 0, V 0, V0, V0, V 0, .func (.func 98) #[] #[Q3 X 0, Q3 (X + 1) 0]] 124)) := kZ0.alloc _;obtain ⟨Y, hY⟩ : ∃ z, a8.heap.size = z := ⟨_, rfl⟩;rw [hY] at cW
  go_upto_region 10 with fail
  try rw [hY]
  generalize a8.alloc (.cells #[V 1, V 0, V 0, V0, V0, V 0, .func (.func 98) #[] #[Q3 X 0, Q3 (X + 1) 0]] 124) = w1 at cW af ⊢
  have bL := (show Hid (∀ wx, Same w1 wx → (fun wx : World => wx.cell? ⟨X, 0, none⟩ = some (Q3 M 0) ∧ wx.cell? ⟨X + 1, 0, none⟩ = some (V kd) ∧ wx.cell? ⟨X + 1, 1, none⟩ = some (V stx) ∧ wx.cell? ⟨X + 1, 2, none⟩ = some (V ah) ∧ wx.cell? ⟨X + 1, 3, none⟩ = some (V cnt) ∧ wx.cell? ⟨X + 1, 4, none⟩ = some (.slice sa sn sc) ∧ wx.cell? ⟨X + 1, 5, none⟩ = some (.slice ka kn kc) ∧ wx.cell? ⟨X + 1 + 1, 0, none⟩ = some (V bW) ∧ wx.cell? ⟨X + 1 + 1, 1, none⟩ = some (V bC) ∧ wx.cell? ⟨X + 1 + 1, 2, none⟩ = some (V b6) ∧ wx.cell? ⟨X + 1 + 1, 3, none⟩ = some (.slice da dn dc) ∧ wx.cell? ⟨X + 1 + 1, 4, none⟩ = some (.slice ra rn rc) ∧ wx.cell? ⟨X + 1 + 1, 5, none⟩ = some (V bY) ∧ wx.cell? ⟨Y, 0, none⟩ = some (V 1) ∧ wx.cell? ⟨Y, 1, none⟩ = some (V 0) ∧ wx.cell? ⟨Y, 2, none⟩ = some (V 0) ∧ wx.cell? ⟨Y, 3, none⟩ = some (V0) ∧ wx.cell? ⟨Y, 4, none⟩ = some (V0) ∧ wx.cell? ⟨Y, 5, none⟩ = some (V 0) ∧ wx.cell? ⟨Y, 6, none⟩ = some (.func (.func 98) #[] #[Q3 X 0, Q3 (X + 1) 0])) wx) from fun wx hk => by
   obtain ⟨i1, i2, i3, _⟩ := HI.out wx (af.trans hk);obtain ⟨j0, j1, j2, j3, j4, j5⟩ := i2.all6;obtain ⟨k0, k1, k2, k3, k4, k5⟩ := i3.all6;have hy := cW.same hk
   exact ⟨i1.c0, j0, j1, j2, j3, j4, j5, k0, k1, k2, k3, k4, k5, hy.cell 0, hy.cell 1, hy.cell 2, hy.cell 3, hy.cell 4, hy.cell 5, hy.cell 6⟩)
  have ao := (show Hid (Same a8 w1) from af);have g9 := (show Hid (∀ wx, Same w1 wx → OutI wx lo M gp gf gl ⟨1, 0, 0, none, 0, 0, [], none, 0, 0, [], 98, [], [Q3 X 0, Q3 (X + 1) 0], UC st (kd, stx, ah, cnt, sd, kb)⟩) from fun wx hk => ⟨Vx _ _, rfl, OwnR.nil _ _ _ _ _, AV.out X (X + 1) wx (HI.out wx (ao.out.trans hk)).2.2.2 (HI.out wx (ao.out.trans hk)).1 (HI.out wx (ao.out.trans hk)).2.1⟩);have pW := (show Hid ((Wn gp st (kd, stx, ah, cnt, sd, kb) bC b6).length ≤ 100) from jfu _ _ _ _ _);clear cW af hY AV q0 s1 s2 s3 s4 s5 t0 t1 t2 t3 t4 t5 q2 m3 ba b2 kt n10 n11 n9;refine TT (fun wx : World => wx.cell? ⟨X, 0, none⟩ = some (Q3 M 0) ∧ wx.cell? ⟨X + 1, 0, none⟩ = some (V kd) ∧ wx.cell? ⟨X + 1, 1, none⟩ = some (V stx) ∧ wx.cell? ⟨X + 1, 2, none⟩ = some (V ah) ∧ wx.cell? ⟨X + 1, 3, none⟩ = some (V cnt) ∧ wx.cell? ⟨X + 1, 4, none⟩ = some (.slice sa sn sc) ∧ wx.cell? ⟨X + 1, 5, none⟩ = some (.slice ka kn kc) ∧ wx.cell? ⟨X + 1 + 1, 0, none⟩ = some (V bW) ∧ wx.cell? ⟨X + 1 + 1, 1, none⟩ = some (V bC) ∧ wx.cell? ⟨X + 1 + 1, 2, none⟩ = some (V b6) ∧ wx.cell? ⟨X + 1 + 1, 3, none⟩ = some (.slice da dn dc) ∧ wx.cell? ⟨X + 1 + 1, 4, none⟩ = some (.slice ra rn rc) ∧ wx.cell? ⟨X + 1 + 1, 5, none⟩ = some (V bY) ∧ wx.cell? ⟨Y, 0, none⟩ = some (V 1) ∧ wx.cell? ⟨Y, 1, none⟩ = some (V 0) ∧ wx.cell? ⟨Y, 2, none⟩ = some (V 0) ∧ wx.cell? ⟨Y, 3, none⟩ = some (V0) ∧ wx.cell? ⟨Y, 4, none⟩ = some (V0) ∧ wx.cell? ⟨Y, 5, none⟩ = some (V 0) ∧ wx.cell? ⟨Y, 6, none⟩ = some (.func (.func 98) #[] #[Q3 X 0, Q3 (X + 1) 0])) 99 8 rfl (by kernel_rfl) ?_;have ae : Same w1 (World.drew w1) := kZ0.drew;generalize World.drew w1 = w2 at ae ⊢;have ap := hid ae;clear ae;have hS : (fun wx : World => wx.cell? ⟨X, 0, none⟩ = some (Q3 M 0) ∧ wx.cell? ⟨X + 1, 0, none⟩ = some (V kd) ∧ wx.cell? ⟨X + 1, 1, none⟩ = some (V stx) ∧ wx.cell? ⟨X + 1, 2, none⟩ = some (V ah) ∧ wx.cell? ⟨X + 1, 3, none⟩ = some (V cnt) ∧ wx.cell? ⟨X + 1, 4, none⟩ = some (.slice sa sn sc) ∧ wx.cell? ⟨X + 1, 5, none⟩ = some (.slice ka kn kc) ∧ wx.cell? ⟨X + 1 + 1, 0, none⟩ = some (V bW) ∧ wx.cell? ⟨X + 1 + 1, 1, none⟩ = some (V bC) ∧ wx.cell? ⟨X + 1 + 1, 2, none⟩ = some (V b6) ∧ wx.cell? ⟨X + 1 + 1, 3, none⟩ = some (.slice da dn dc) ∧ wx.cell? ⟨X + 1 + 1, 4, none⟩ = some (.slice ra rn rc) ∧ wx.cell? ⟨X + 1 + 1, 5, none⟩ = some (V bY) ∧ wx.cell? ⟨Y, 0, none⟩ = some (V 1) ∧ wx.cell? ⟨Y, 1, none⟩ = some (V 0) ∧ wx.cell? ⟨Y, 2, none⟩ = some (V 0) ∧ wx.cell? ⟨Y, 3, none⟩ = some (V0) ∧ wx.cell? ⟨Y, 4, none⟩ = some (V0) ∧ wx.cell? ⟨Y, 5, none⟩ = some (V 0) ∧ wx.cell? ⟨Y, 6, none⟩ = some (.func (.func 98) #[] #[Q3 X 0, Q3 (X + 1) 0])) w2 := bL.out w2 ap.out;refine tk 0 39 hS ?_;refine tk 1 40 hS ?_;refine tk 2 41 hS ?_;refine tk 4 43 hS ?_;have bs := VJ;have jC := (show Hid (∀ wx, Same w1 wx → Same w wx) from fun wx hk => (HI.out wx (ao.out.trans hk)).2.2.2);refine YH (i := 3) (j := 5) (by kernel_rfl) rfl rfl (fun Kc ak => ?_) (fun Kc ak => ?_)
  ·go_simp
   refine (KC.out w2 (jC.out w2 ap.out)).mono ?_;rintro e w3 ⟨la, ln, lc, os, rfl, oG, hO⟩;have dV := hid hO;have ni := hid oG;have ax := hid (ap.out.trans hO.same);clear hO oG hS;have hS : (fun wx : World => wx.cell? ⟨X, 0, none⟩ = some (Q3 M 0) ∧ wx.cell? ⟨X + 1, 0, none⟩ = some (V kd) ∧ wx.cell? ⟨X + 1, 1, none⟩ = some (V stx) ∧ wx.cell? ⟨X + 1, 2, none⟩ = some (V ah) ∧ wx.cell? ⟨X + 1, 3, none⟩ = some (V cnt) ∧ wx.cell? ⟨X + 1, 4, none⟩ = some (.slice sa sn sc) ∧ wx.cell? ⟨X + 1, 5, none⟩ = some (.slice ka kn kc) ∧ wx.cell? ⟨X + 1 + 1, 0, none⟩ = some (V bW) ∧ wx.cell? ⟨X + 1 + 1, 1, none⟩ = some (V bC) ∧ wx.cell? ⟨X + 1 + 1, 2, none⟩ = some (V b6) ∧ wx.cell? ⟨X + 1 + 1, 3, none⟩ = some (.slice da dn dc) ∧ wx.cell? ⟨X + 1 + 1, 4, none⟩ = some (.slice ra rn rc) ∧ wx.cell? ⟨X + 1 + 1, 5, none⟩ = some (V bY) ∧ wx.cell? ⟨Y, 0, none⟩ = some (V 1) ∧ wx.cell? ⟨Y, 1, none⟩ = some (V 0) ∧ wx.cell? ⟨Y, 2, none⟩ = some (V 0) ∧ wx.cell? ⟨Y, 3, none⟩ = some (V0) ∧ wx.cell? ⟨Y, 4, none⟩ = some (V0) ∧ wx.cell? ⟨Y, 5, none⟩ = some (V 0) ∧ wx.cell? ⟨Y, 6, none⟩ = some (.func (.func 98) #[] #[Q3 X 0, Q3 (X + 1) 0])) w3 := bL.out w3 ax.out
   go_wp2_with fail
   refine ak.out _ _ (fun _ => hS) ?_;clear ak Kc
   try simp only [Act.put, sA, s0, sS]
   refine o1Q 5 (fun Kc ak => ?_);go_simp;have fN := Blk.newL w3 [V 1, V 0, V 0, V0, V0, V 0, .func (.func 98) #[] #[Q3 X 0, Q3 (X + 1) 0]] 124;have fC : Same w3 (w3.alloc (.cells #[V 1, V 0, V 0, V0, V0, V 0, .func (.func 98) #[] #[Q3 X 0, Q3 (X + 1) 0]] 124)) := kZ0.alloc _;obtain ⟨Z, hZ⟩ : ∃ z, w3.heap.size = z := ⟨_, rfl⟩;rw [hZ] at fN
   try rw [hZ]
   generalize w3.alloc (.cells #[V 1, V 0, V 0, V0, V0, V 0, .func (.func 98) #[] #[Q3 X 0, Q3 (X + 1) 0]] 124) = w4 at fN fC ⊢;have vF := (show Hid (Blk w4 Z 124 (kOu.all [⟨1, 0, 0, none, 0, 0, [], none, 0, 0, [], 98, [], [Q3 X 0, Q3 (X + 1) 0], UC st (kd, stx, ah, cnt, sd, kb)⟩])) from fN);have pZ := hid fC;have aR := hid (ax.out.trans fC);clear fN fC hZ hS;have hS : (fun wx : World => wx.cell? ⟨X, 0, none⟩ = some (Q3 M 0) ∧ wx.cell? ⟨X + 1, 0, none⟩ = some (V kd) ∧ wx.cell? ⟨X + 1, 1, none⟩ = some (V stx) ∧ wx.cell? ⟨X + 1, 2, none⟩ = some (V ah) ∧ wx.cell? ⟨X + 1, 3, none⟩ = some (V cnt) ∧ wx.cell? ⟨X + 1, 4, none⟩ = some (.slice sa sn sc) ∧ wx.cell? ⟨X + 1, 5, none⟩ = some (.slice ka kn kc) ∧ wx.cell? ⟨X + 1 + 1, 0, none⟩ = some (V bW) ∧ wx.cell? ⟨X + 1 + 1, 1, none⟩ = some (V bC) ∧ wx.cell? ⟨X + 1 + 1, 2, none⟩ = some (V b6) ∧ wx.cell? ⟨X + 1 + 1, 3, none⟩ = some (.slice da dn dc) ∧ wx.cell? ⟨X + 1 + 1, 4, none⟩ = some (.slice ra rn rc) ∧ wx.cell? ⟨X + 1 + 1, 5, none⟩ = some (V bY) ∧ wx.cell? ⟨Y, 0, none⟩ = some (V 1) ∧ wx.cell? ⟨Y, 1, none⟩ = some (V 0) ∧ wx.cell? ⟨Y, 2, none⟩ = some (V 0) ∧ wx.cell? ⟨Y, 3, none⟩ = some (V0) ∧ wx.cell? ⟨Y, 4, none⟩ = some (V0) ∧ wx.cell? ⟨Y, 5, none⟩ = some (V 0) ∧ wx.cell? ⟨Y, 6, none⟩ = some (.func (.func 98) #[] #[Q3 X 0, Q3 (X + 1) 0])) w4 := bL.out w4 aR.out;have fI := hid (dV.out.on pZ.out);clear dV pZ;refine ak.out _ _ (fun _ => hS) ?_;clear ak Kc
   try simp only [Act.put, sA, s0, sS]
   have yO := (show Hid (Same w w2 ∧ Same w1 w2) from ⟨jC.out w2 ap.out, ap.out⟩);refine o1Q 6 (fun Kc ak => ?_)
   have bV := (show Hid (os.length + 1 ≤ 100000) from by
    have h1 : os.length = (Wn gp st (kd, stx, ah, cnt, sd, kb) bC b6).length := by rw [← ni.out, List.length_map]
    have := pW.out
    show os.length + 1 ≤ 100000
    omega)
   have yz := (show Hid (lo ≤ w2.heap.size) from by have := gy.out; have := yO.out.1.size; show lo ≤ w2.heap.size; omega);refine XM (us := [⟨1, 0, 0, none, 0, 0, [], none, 0, 0, [], 98, [], [Q3 X 0, Q3 (X + 1) 0], UC st (kd, stx, ah, cnt, sd, kb)⟩]) rfl (.tmp 42) (.tmp 44) (by rfl) (by rfl) (by rfl) fI.out (by exact ⟨kOu.all_length _, .inr ⟨Z, 1, _, rfl, Nat.zero_le _, vF.out, Nat.le_refl _, by unfold maxLen; omega, rfl, rfl⟩⟩) (fun y hy => by rw [List.mem_singleton.1 hy]; exact g9.out w4 aR.out) yz.out bV.out ?_;intro fq fe fh w6 mW _
   have HR := (show Hid (OuL lo M gp gf gl w w6 (.returned (.slice fq fe fh)) RP) from by
    refine ⟨fq, fe, fh, _, rfl, ?_, mW.before yO.out.1⟩;rw [HE.out, List.map_append, ni.out]
    rfl)
   have bI := (show Hid (Same w1 w6) from yO.out.2.trans mW.same);clear mW hS fI vF;have hS : (fun wx : World => wx.cell? ⟨X, 0, none⟩ = some (Q3 M 0) ∧ wx.cell? ⟨X + 1, 0, none⟩ = some (V kd) ∧ wx.cell? ⟨X + 1, 1, none⟩ = some (V stx) ∧ wx.cell? ⟨X + 1, 2, none⟩ = some (V ah) ∧ wx.cell? ⟨X + 1, 3, none⟩ = some (V cnt) ∧ wx.cell? ⟨X + 1, 4, none⟩ = some (.slice sa sn sc) ∧ wx.cell? ⟨X + 1, 5, none⟩ = some (.slice ka kn kc) ∧ wx.cell? ⟨X + 1 + 1, 0, none⟩ = some (V bW) ∧ wx.cell? ⟨X + 1 + 1, 1, none⟩ = some (V bC) ∧ wx.cell? ⟨X + 1 + 1, 2, none⟩ = some (V b6) ∧ wx.cell? ⟨X + 1 + 1, 3, none⟩ = some (.slice da dn dc) ∧ wx.cell? ⟨X + 1 + 1, 4, none⟩ = some (.slice ra rn rc) ∧ wx.cell? ⟨X + 1 + 1, 5, none⟩ = some (V bY) ∧ wx.cell? ⟨Y, 0, none⟩ = some (V 1) ∧ wx.cell? ⟨Y, 1, none⟩ = some (V 0) ∧ wx.cell? ⟨Y, 2, none⟩ = some (V 0) ∧ wx.cell? ⟨Y, 3, none⟩ = some (V0) ∧ wx.cell? ⟨Y, 4, none⟩ = some (V0) ∧ wx.cell? ⟨Y, 5, none⟩ = some (V 0) ∧ wx.cell? ⟨Y, 6, none⟩ = some (.func (.func 98) #[] #[Q3 X 0, Q3 (X + 1) 0])) w6 := bL.out w6 bI.out;refine ak.out _ _ (fun _ => hS) ?_;clear ak Kc
   try simp only [List.getElem_toArray, List.getElem_cons_succ, List.getElem_cons_zero]
   try simp only [Act.put, sA, s0, sS]
   refine o1Q 7 (fun Kc ak => ?_);go_simp;refine ak.out _ _ (fun _ => hS) ?_;clear ak Kc;refine TS (by kernel_rfl) ?_
   try simp only [Act.put, sA, s0, sS]
   clear hS bs;go_wp2;go_ret;exact HR.out
  ·go_simp
   have fN := Blk.newL w2 [V 1, V 0, V 0, V0, V0, V 0, .func (.func 98) #[] #[Q3 X 0, Q3 (X + 1) 0]] 124;have fC : Same w2 (w2.alloc (.cells #[V 1, V 0, V 0, V0, V0, V 0, .func (.func 98) #[] #[Q3 X 0, Q3 (X + 1) 0]] 124)) := kZ0.alloc _;obtain ⟨Z, hZ⟩ : ∃ z, w2.heap.size = z := ⟨_, rfl⟩;rw [hZ] at fN
   try rw [hZ]
   generalize w2.alloc (.cells #[V 1, V 0, V 0, V0, V0, V 0, .func (.func 98) #[] #[Q3 X 0, Q3 (X + 1) 0]] 124) = w3 at fN fC ⊢;have vF := (show Hid (Blk w3 Z 124 (kOu.all [⟨1, 0, 0, none, 0, 0, [], none, 0, 0, [], 98, [], [Q3 X 0, Q3 (X + 1) 0], UC st (kd, stx, ah, cnt, sd, kb)⟩])) from fN);have pZ := hid fC;have ax := hid (ap.out.trans fC);clear fN fC hZ hS;have hS : (fun wx : World => wx.cell? ⟨X, 0, none⟩ = some (Q3 M 0) ∧ wx.cell? ⟨X + 1, 0, none⟩ = some (V kd) ∧ wx.cell? ⟨X + 1, 1, none⟩ = some (V stx) ∧ wx.cell? ⟨X + 1, 2, none⟩ = some (V ah) ∧ wx.cell? ⟨X + 1, 3, none⟩ = some (V cnt) ∧ wx.cell? ⟨X + 1, 4, none⟩ = some (.slice sa sn sc) ∧ wx.cell? ⟨X + 1, 5, none⟩ = some (.slice ka kn kc) ∧ wx.cell? ⟨X + 1 + 1, 0, none⟩ = some (V bW) ∧ wx.cell? ⟨X + 1 + 1, 1, none⟩ = some (V bC) ∧ wx.cell? ⟨X + 1 + 1, 2, none⟩ = some (V b6) ∧ wx.cell? ⟨X + 1 + 1, 3, none⟩ = some (.slice da dn dc) ∧ wx.cell? ⟨X + 1 + 1, 4, none⟩ = some (.slice ra rn rc) ∧ wx.cell? ⟨X + 1 + 1, 5, none⟩ = some (V bY) ∧ wx.cell? ⟨Y, 0, none⟩ = some (V 1) ∧ wx.cell? ⟨Y, 1, none⟩ = some (V 0) ∧ wx.cell? ⟨Y, 2, none⟩ = some (V 0) ∧ wx.cell? ⟨Y, 3, none⟩ = some (V0) ∧ wx.cell? ⟨Y, 4, none⟩ = some (V0) ∧ wx.cell? ⟨Y, 5, none⟩ = some (V 0) ∧ wx.cell? ⟨Y, 6, none⟩ = some (.func (.func 98) #[] #[Q3 X 0, Q3 (X + 1) 0])) w3 := bL.out w3 ax.out;clear pZ;refine ak.out _ _ (fun _ => hS) ?_;clear ak Kc
   try simp only [Act.put, sA, s0, sS]
   refine o1Q 3 (fun Kc ak => ?_);go_simp;refine (KC.out w3 (jC.out w3 ax.out)).mono ?_;rintro e w4 ⟨la, ln, lc, os, rfl, oG, hO⟩;have fI := hid hO;have ni := hid oG;have aR := hid (ax.out.trans hO.same);clear hO oG hS;have hS : (fun wx : World => wx.cell? ⟨X, 0, none⟩ = some (Q3 M 0) ∧ wx.cell? ⟨X + 1, 0, none⟩ = some (V kd) ∧ wx.cell? ⟨X + 1, 1, none⟩ = some (V stx) ∧ wx.cell? ⟨X + 1, 2, none⟩ = some (V ah) ∧ wx.cell? ⟨X + 1, 3, none⟩ = some (V cnt) ∧ wx.cell? ⟨X + 1, 4, none⟩ = some (.slice sa sn sc) ∧ wx.cell? ⟨X + 1, 5, none⟩ = some (.slice ka kn kc) ∧ wx.cell? ⟨X + 1 + 1, 0, none⟩ = some (V bW) ∧ wx.cell? ⟨X + 1 + 1, 1, none⟩ = some (V bC) ∧ wx.cell? ⟨X + 1 + 1, 2, none⟩ = some (V b6) ∧ wx.cell? ⟨X + 1 + 1, 3, none⟩ = some (.slice da dn dc) ∧ wx.cell? ⟨X + 1 + 1, 4, none⟩ = some (.slice ra rn rc) ∧ wx.cell? ⟨X + 1 + 1, 5, none⟩ = some (V bY) ∧ wx.cell? ⟨Y, 0, none⟩ = some (V 1) ∧ wx.cell? ⟨Y, 1, none⟩ = some (V 0) ∧ wx.cell? ⟨Y, 2, none⟩ = some (V 0) ∧ wx.cell? ⟨Y, 3, none⟩ = some (V0) ∧ wx.cell? ⟨Y, 4, none⟩ = some (V0) ∧ wx.cell? ⟨Y, 5, none⟩ = some (V 0) ∧ wx.cell? ⟨Y, 6, none⟩ = some (.func (.func 98) #[] #[Q3 X 0, Q3 (X + 1) 0])) w4 := bL.out w4 aR.out
   go_wp2_with fail
   have DC := hid (vF.out.same fI.out.same);clear vF;have vF := DC;clear DC;refine ak.out _ _ (fun _ => hS) ?_;clear ak Kc
   try simp only [Act.put, sA, s0, sS]
   have yO := (show Hid (Same w w3 ∧ Same w1 w3) from ⟨jC.out w3 ax.out, ax.out⟩);refine o1Q 6 (fun Kc ak => ?_)
   have bV := (show Hid (os.length + 1 ≤ 100000) from by
    have h1 : os.length = (Wn gp st (kd, stx, ah, cnt, sd, kb) bC b6).length := by rw [← ni.out, List.length_map]
    have := pW.out
    show os.length + 1 ≤ 100000
    omega)
   have yz := (show Hid (lo ≤ w3.heap.size) from by have := gy.out; have := yO.out.1.size; show lo ≤ w3.heap.size; omega);refine XM (us := [⟨1, 0, 0, none, 0, 0, [], none, 0, 0, [], 98, [], [Q3 X 0, Q3 (X + 1) 0], UC st (kd, stx, ah, cnt, sd, kb)⟩]) rfl (.tmp 42) (.tmp 44) (by rfl) (by rfl) (by rfl) fI.out (by exact ⟨kOu.all_length _, .inr ⟨Z, 1, _, rfl, Nat.zero_le _, vF.out, Nat.le_refl _, by unfold maxLen; omega, rfl, rfl⟩⟩) (fun y hy => by rw [List.mem_singleton.1 hy]; exact g9.out w4 aR.out) yz.out bV.out ?_;intro fq fe fh w6 mW _
   have HR := (show Hid (OuL lo M gp gf gl w w6 (.returned (.slice fq fe fh)) RP) from by
    refine ⟨fq, fe, fh, _, rfl, ?_, mW.before yO.out.1⟩;rw [HE.out, List.map_append, ni.out]
    rfl)
   have bI := (show Hid (Same w1 w6) from yO.out.2.trans mW.same);clear mW hS fI vF;have hS : (fun wx : World => wx.cell? ⟨X, 0, none⟩ = some (Q3 M 0) ∧ wx.cell? ⟨X + 1, 0, none⟩ = some (V kd) ∧ wx.cell? ⟨X + 1, 1, none⟩ = some (V stx) ∧ wx.cell? ⟨X + 1, 2, none⟩ = some (V ah) ∧ wx.cell? ⟨X + 1, 3, none⟩ = some (V cnt) ∧ wx.cell? ⟨X + 1, 4, none⟩ = some (.slice sa sn sc) ∧ wx.cell? ⟨X + 1, 5, none⟩ = some (.slice ka kn kc) ∧ wx.cell? ⟨X + 1 + 1, 0, none⟩ = some (V bW) ∧ wx.cell? ⟨X + 1 + 1, 1, none⟩ = some (V bC) ∧ wx.cell? ⟨X + 1 + 1, 2, none⟩ = some (V b6) ∧ wx.cell? ⟨X + 1 + 1, 3, none⟩ = some (.slice da dn dc) ∧ wx.cell? ⟨X + 1 + 1, 4, none⟩ = some (.slice ra rn rc) ∧ wx.cell? ⟨X + 1 + 1, 5, none⟩ = some (V bY) ∧ wx.cell? ⟨Y, 0, none⟩ = some (V 1) ∧ wx.cell? ⟨Y, 1, none⟩ = some (V 0) ∧ wx.cell? ⟨Y, 2, none⟩ = some (V 0) ∧ wx.cell? ⟨Y, 3, none⟩ = some (V0) ∧ wx.cell? ⟨Y, 4, none⟩ = some (V0) ∧ wx.cell? ⟨Y, 5, none⟩ = some (V 0) ∧ wx.cell? ⟨Y, 6, none⟩ = some (.func (.func 98) #[] #[Q3 X 0, Q3 (X + 1) 0])) w6 := bL.out w6 bI.out;refine ak.out _ _ (fun _ => hS) ?_;clear ak Kc
   try simp only [List.getElem_toArray, List.getElem_cons_succ, List.getElem_cons_zero]
   try simp only [Act.put, sA, s0, sS]
   refine o1Q 7 (fun Kc ak => ?_);go_simp;refine ak.out _ _ (fun _ => hS) ?_;clear ak Kc;refine TS (by kernel_rfl) ?_
   try simp only [Act.put, sA, s0, sS]
   clear hS bs;go_wp2;go_ret;exact HR.out
theorem jee : Ur 103 := fun args wx => by simp [callFunc, go_sem, Tryz.func103, Tryz.f103]
theorem jef (i j : Int) (aa : Option Addr) (an ac : Nat) (ab : Option Addr) (bn bc : Nat) (xs ys : List Int) (w : World) (h1 : IsB xs) (h2 : IsB ys) (hx : Rd .u8 w (.slice aa an ac) xs) (hy : Rd .u8 w (.slice ab bn bc) ys) :
  Calls Tryz.prog 103 #[.agg #[V i, .slice aa an ac], .agg #[V j, .slice ab bn bc]] w fun e w' => e = .returned (.bool (decide ((i, xs) = (j, ys)))) ∧ Same w w' := by
 have hA := Blk.newL w [V i, .slice aa an ac] 79;obtain ⟨X, aQ⟩ : ∃ X, w.heap.size = X := ⟨_, rfl⟩;obtain ⟨wa, cg⟩ : ∃ z, w.alloc (.cells #[V i, .slice aa an ac] 79) = z := ⟨_, rfl⟩
 have cX : Same w wa := by rw [← cg]; exact kZ0.alloc _
 have dE : wa.heap.size = X + 1 := by rw [← cg, World.size_alloc, aQ]
 rw [aQ, cg] at hA;have hB := Blk.newL wa [V j, .slice ab bn bc] 79;obtain ⟨wb, cE⟩ : ∃ z, wa.alloc (.cells #[V j, .slice ab bn bc] 79) = z := ⟨_, rfl⟩
 have dD : Same wa wb := by rw [← cE]; exact kZ0.alloc _
 rw [dE, cE] at hB;have HK := hid (cX.trans dD);obtain ⟨a0, a1⟩ := (hA.same dD).all2;obtain ⟨b0, b1⟩ := hB.all2;have kE := ZR (.slice aa an ac) (.slice ab bn bc) xs ys wb h1 h2 (hx.same HK.out) (hy.same HK.out);clear hA hB cX dD hx hy h1 h2
 go_enter Tryz.func103, Tryz.ntmps103
 go_upto_region 1 with fail
 try rw [cg]
 try rw [cE]
 try rw [aQ]
 try rw [dE]
 clear cg cE aQ dE wa
 by_cases h : i = j
 case neg =>
  have q : (i == j) = false := by simpa using h
  have HR := (show Hid (decide ((i, xs) = (j, ys)) = false) from by show decide _ = false; simp [h]);clear h;go_wp2;go_ret;exact ⟨by rw [HR.out]; rfl, HK.out⟩
 have q : (i == j) = true := by simpa using h
 have HR := (show Hid (decide ((i, xs) = (j, ys)) = decide (xs = ys)) from by show decide _ = decide _; simp [h]);clear h
 go_wp2_with fail
 refine kE.mono ?_;rintro e w2 ⟨rfl, ae⟩;have ap := hid (HK.out.trans ae);clear kE ae a0 a1 b0 b1;go_wp2;go_ret;exact ⟨by rw [HR.out]; rfl, ap.out⟩
theorem jg2 {ps qs : List EHeapRecord} (hl : ps.length = qs.length) (h : ∀ k (h1 : k < ps.length) (h2 : k < qs.length), (ps[k].id, ps[k].bs) = (qs[k].id, qs[k].bs)) : jZ9 ps = jZ9 qs := by
 refine List.ext_getElem (by simpa [jZ9] using hl) (fun k h1 h2 => ?_)
 have g1 : k < ps.length := by simpa [jZ9] using h1
 have g2 : k < qs.length := by simpa [jZ9] using h2
 have h3 := h k g1 g2;simp only [jZ9, List.getElem_map, EHeapRecord.dat];exact h3
theorem jc5 (va vb : Value) (ps qs : List EHeapRecord) (w : World) (cW : ∀ p ∈ ps, IsB p.bs) (aV : ∀ p ∈ qs, IsB p.bs) (hp : RdR kHeapRecord w va ps) (hq : RdR kHeapRecord w vb qs) :
  Calls Tryz.prog 102 #[va, vb, .func (.func 103) #[] #[]] w fun e w' => e = .returned (.bool (decide (jZ9 ps = jZ9 qs))) ∧ Same w w' := by
 obtain ⟨aa, ac, rfl⟩ := hp.form;obtain ⟨ab, bc, rfl⟩ := hq.form;obtain ⟨L, hL⟩ : ∃ n, ps.length = n := ⟨_, rfl⟩;obtain ⟨K, hK⟩ : ∃ n, qs.length = n := ⟨_, rfl⟩;rw [hL] at hp ⊢;rw [hK] at hq ⊢;have d9 := hp.max;have jB := hq.max;unfold maxLen at d9 jB;rw [hL] at d9;rw [hK] at jB;have HP := hid hp;have HQ := hid hq;have bF := hid cW;have bK := hid aV;clear cW aV;have HL := hid hL;have yJ := hid hK;obtain ⟨RV, nS⟩ : ∃ b, decide (jZ9 ps = jZ9 qs) = b := ⟨_, rfl⟩;have fG := hid nS;rw [nS];have cz := jee;unfold Ur at cz;clear hp hq hL hK nS
 go_enter Tryz.func102, Tryz.ntmps102
 by_cases hLK : L = K
 case neg =>
  have hI : ((L : Int) == (K : Int)) = false := beq_eq_false_iff_ne.2 (fun e => hLK (by omega))
  have Ta : ((L : Int) != (K : Int)) = true := by simp [bne, hI]
  have HR := (show Hid (RV = false) from by
   show RV = false
   rw [← fG.out];refine decide_eq_false (fun e => hLK ?_);have := congrArg List.length e;simp only [jZ9, List.length_map] at this;rw [HL.out, yJ.out] at this
   exact this)
  have HK := (show Hid (Same w w) from kZ0);clear hLK;go_wp2;go_ret;exact ⟨by rw [HR.out]; rfl, HK.out⟩
 subst hLK
 go_wp2_with fail
 go_loopw [17] (fun i wr => ∃ k : Nat, k ≤ L ∧ i = V k ∧ Hid ((∀ j (h1 : j < ps.length) (h2 : j < qs.length), j < k → (ps[j].id, ps[j].bs) = (qs[j].id, qs[j].bs)) ∧ Same w wr)) (fun i _ => L - (intOf i).toNat)
 case atStart => exact ⟨0, Nat.zero_le _, rfl, fun j _ _ h => absurd h (Nat.not_lt_zero _), kZ0⟩
 case round =>
  obtain ⟨k, hk, rfl, HK⟩ := hrel
  by_cases aG : k < L
  case neg =>
   obtain rfl : L = k := by omega
   have HR := (show Hid (RV = true) from by
    show RV = true
    rw [← fG.out]
    exact decide_eq_true (jg2 (by rw [HL.out, yJ.out]) (fun j h1 h2 => HK.out.1 j h1 h2 (by rw [← HL.out]; exact h1))))
   have HS := hid HK.out.2;go_wp2;go_ret;exact ⟨by rw [HR.out]; rfl, HS.out⟩
  have h1 : k < ps.length := by rw [HL.out]; exact aG
  have h2 : k < qs.length := by rw [yJ.out]; exact aG
  rcases HP.out.row with ⟨h, _⟩ | ⟨ba, oa, ca, he, eW⟩
  ·rw [h] at h1; simp at h1
  rcases HQ.out.row with ⟨h, _⟩ | ⟨bb, ob, cb, jF, qh⟩
  ·rw [h] at h2; simp at h2
  injection he with e1 e2 e3
  subst e1 e3
  injection jF with f1 f2 f3
  subst f1 f3;clear e2 f2;obtain ⟨ia, sx⟩ : ∃ x, ps[k].id = x := ⟨_, rfl⟩;obtain ⟨ib, my⟩ : ∃ x, qs[k].id = x := ⟨_, rfl⟩;obtain ⟨xs, CL⟩ : ∃ x, ps[k].bs = x := ⟨_, rfl⟩;obtain ⟨ys, EK⟩ : ∃ x, qs[k].bs = x := ⟨_, rfl⟩;obtain ⟨va, qQ⟩ : ∃ x, ps[k].v = x := ⟨_, rfl⟩;obtain ⟨vb, qO⟩ : ∃ x, qs[k].v = x := ⟨_, rfl⟩
  have zH : Rd .u8 w va xs := by rw [← qQ, ← CL]; exact HP.out.data ps[k] (List.getElem_mem h1)
  have yX : Rd .u8 w vb ys := by rw [← qO, ← EK]; exact HQ.out.data qs[k] (List.getElem_mem h2)
  obtain ⟨da, FM, qH⟩ := zH.form;obtain ⟨db, Bo, ox⟩ := yX.form;obtain ⟨na, zA⟩ : ∃ n, xs.length = n := ⟨_, rfl⟩;obtain ⟨nb, yM⟩ : ∃ n, ys.length = n := ⟨_, rfl⟩;rw [zA] at qH;rw [yM] at ox;subst qH ox;have KE := (show Hid (∀ wx, Same wr wx → _) from fun wx hx => jef ia ib da na FM db nb Bo xs ys wx (by rw [← CL]; exact bF.out _ (List.getElem_mem h1)) (by rw [← EK]; exact bK.out _ (List.getElem_mem h2)) (zH.same (HK.out.2.trans hx)) (yX.same (HK.out.2.trans hx)))
  have a0 : wr.cell? ⟨ba, oa + k * 2, none⟩ = some (V ia) := by rw [← sx]; exact HK.out.2.cellOf (eW k 0 h1 (by decide)) (fun e => e)
  have a1 : wr.cell? ⟨ba, oa + k * 2 + 1, none⟩ = some (.slice da na FM) := by rw [← qQ]; exact HK.out.2.cellOf (eW k 1 h1 (by decide)) (fun e => e)
  have b0 : wr.cell? ⟨bb, ob + k * 2, none⟩ = some (V ib) := by rw [← my]; exact HK.out.2.cellOf (qh k 0 h2 (by decide)) (fun e => e)
  have b1 : wr.cell? ⟨bb, ob + k * 2 + 1, none⟩ = some (.slice db nb Bo) := by rw [← qO]; exact HK.out.2.cellOf (qh k 1 h2 (by decide)) (fun e => e)
  have PX := (show Hid ((ia, xs) ≠ (ib, ys) → RV = false) from fun bl => by
   show RV = false
   rw [← fG.out];refine decide_eq_false (fun e => bl ?_);have h3 := VQ e k h1 h2;simp only [EHeapRecord.dat] at h3;rw [sx, my, CL, EK] at h3
   exact h3)
  have Bj := (show Hid ((ia, xs) = (ib, ys) → ∀ j (h1 : j < ps.length) (h2 : j < qs.length), j < k + 1 → (ps[j].id, ps[j].bs) = (qs[j].id, qs[j].bs)) from fun heq j g1 g2 hj => by
   rcases Nat.lt_succ_iff_lt_or_eq.1 hj with h3 | h3
   ·exact HK.out.1 j g1 g2 h3
   ·subst h3; rw [sx, my, CL, EK]; exact heq)
  obtain ⟨EV, pP⟩ : ∃ b, decide ((ia, xs) = (ib, ys)) = b := ⟨_, rfl⟩;rw [pP] at KE;have eK := Blk.newL wr [V ia, .slice da na FM] 79;obtain ⟨X, hX⟩ : ∃ X, wr.heap.size = X := ⟨_, rfl⟩;obtain ⟨wa, cg⟩ : ∃ z, wr.alloc (.cells #[V ia, .slice da na FM] 79) = z := ⟨_, rfl⟩
  have cX : Same wr wa := by rw [← cg]; exact kZ0.alloc _
  have dE : wa.heap.size = X + 1 := by rw [← cg, World.size_alloc, hX]
  rw [hX, cg] at eK;have Ps : wa.cell? ⟨bb, ob + k * 2, none⟩ = some (V ib) := cX.cellOf b0 (fun e => e);have Ru : wa.cell? ⟨bb, ob + k * 2 + 1, none⟩ = some (.slice db nb Bo) := cX.cellOf b1 (fun e => e);have Ae := Blk.newL wa [V ib, .slice db nb Bo] 79;obtain ⟨wb, cE⟩ : ∃ z, wa.alloc (.cells #[V ib, .slice db nb Bo] 79) = z := ⟨_, rfl⟩
  have dD : Same wa wb := by rw [← cE]; exact kZ0.alloc _
  rw [dE, cE] at Ae;have pZ := hid (cX.trans dD);have Pt := hid (eK.same dD);have EX := hid Ae;have mJ := hid HK.out.2;clear eW qh sx my CL EK qQ qO zH yX zA yM h1 h2 cX dD eK Ae HK
  go_upto_region 6 with fail
  try rw [cg]
  try rw [hX]
  clear a0 a1 b0 b1
  go_upto_region 7 with fail
  try rw [cE]
  try rw [dE]
  clear Ps Ru cg cE dE hX;obtain ⟨x0, x1⟩ := Pt.out.all2;obtain ⟨y0, y1⟩ := EX.out.all2;have kE := KE.out wb pZ.out
  go_wp2_with fail
  refine kE.mono ?_;rintro e w3 ⟨rfl, ar⟩;have ax := hid ((mJ.out.trans pZ.out).trans ar);clear kE ar x0 x1 y0 y1
  cases EV with
  | false =>
   have HR := (show Hid (RV = false) from PX.out (of_decide_eq_false pP));clear pP;go_wp2;go_ret;exact ⟨by rw [HR.out]; rfl, ax.out⟩
  | true =>
   have HR := hid (Bj.out (of_decide_eq_true pP));clear pP;go_wp2;go_roundw
   case rel => exact ⟨k + 1, by omega, by go_num, HR.out, ax.out⟩
   case measure => simp [intOf]; omega
def Va (a b : AnD) : Bool := decide (a.1 = b.1) && decide (a.2.1 = b.2.1) && decide (a.2.2.1 = b.2.2.1) && decide (a.2.2.2.1 = b.2.2.2.1) && decide (a.2.2.2.2.1 = b.2.2.2.2.1)
theorem jc6 (c1 t1 i1 : Int) (d1 : Option Addr) (Dw EE : Nat) (r1 : Option Addr) (Du Bq : Nat) (u1 : Int) (c2 t2 i2 : Int) (d2 : Option Addr) (Cf EA : Nat) (r2 : Option Addr) (nz qg : Nat) (u2 : Int) (b1 b2 : List Int) (q1 q2 : List EHeapRecord) (w : World) (LQ : IsB b1) (Mb : IsB b2) (LS : ∀ p ∈ q1, IsB p.bs) (NU : ∀ p ∈ q2, IsB p.bs) (jd : Rd .u8 w (.slice d1 Dw EE) b1) (eQ : Rd .u8 w (.slice d2 Cf EA) b2) (lG : RdR kHeapRecord w (.slice r1 Du Bq) q1) (dZ : RdR kHeapRecord w (.slice r2 nz qg) q2) :
  Calls Tryz.prog 69 #[.agg #[V c1, V t1, V i1, .slice d1 Dw EE, .slice r1 Du Bq, V u1], .agg #[V c2, V t2, V i2, .slice d2 Cf EA, .slice r2 nz qg, V u2]] w fun e w' => e = .returned (.bool (Va (c1, t1, i1, b1, jZ9 q1, u1) (c2, t2, i2, b2, jZ9 q2, u2))) ∧ Same w w' := by
 have hA := Blk.newL w [V c1, V t1, V i1, .slice d1 Dw EE, .slice r1 Du Bq, V u1] 73;obtain ⟨X, aQ⟩ : ∃ X, w.heap.size = X := ⟨_, rfl⟩;obtain ⟨wa, cg⟩ : ∃ z, w.alloc (.cells #[V c1, V t1, V i1, .slice d1 Dw EE, .slice r1 Du Bq, V u1] 73) = z := ⟨_, rfl⟩
 have cX : Same w wa := by rw [← cg]; exact kZ0.alloc _
 have dE : wa.heap.size = X + 1 := by rw [← cg, World.size_alloc, aQ]
 rw [aQ, cg] at hA;have hB := Blk.newL wa [V c2, V t2, V i2, .slice d2 Cf EA, .slice r2 nz qg, V u2] 73;obtain ⟨wb, cE⟩ : ∃ z, wa.alloc (.cells #[V c2, V t2, V i2, .slice d2 Cf EA, .slice r2 nz qg, V u2] 73) = z := ⟨_, rfl⟩
 have dD : Same wa wb := by rw [← cE]; exact kZ0.alloc _
 rw [dE, cE] at hB;have HK := hid (cX.trans dD);obtain ⟨a0, a1, a2, a3, a4, a5⟩ := (hA.same dD).all6;obtain ⟨e0, e1, e2, e3, e4, e5⟩ := hB.all6;have HX := hid (hA.same dD);have HY := hid hB;have kE := ZR (.slice d1 Dw EE) (.slice d2 Cf EA) b1 b2 wb LQ Mb (jd.same HK.out) (eQ.same HK.out);have KQ := (show Hid (∀ wx, Same w wx → _) from fun wx hx => jc5 (.slice r1 Du Bq) (.slice r2 nz qg) q1 q2 wx LS NU (lG.same hx) (dZ.same hx));obtain ⟨RV, nS⟩ : ∃ z, Va (c1, t1, i1, b1, jZ9 q1, u1) (c2, t2, i2, b2, jZ9 q2, u2) = z := ⟨_, rfl⟩;rw [nS];have fG := (show Hid ((decide (c1 = c2) && decide (t1 = t2) && decide (i1 = i2) && decide (b1 = b2) && decide (jZ9 q1 = jZ9 q2)) = RV) from nS);clear hA hB cX dD jd eQ lG dZ LS NU LQ Mb nS;generalize decide (b1 = b2) = EB at kE fG;generalize decide (jZ9 q1 = jZ9 q2) = EQ at KQ fG
 go_enter Tryz.func69, Tryz.ntmps69
 go_upto_region 1 with fail
 try rw [cg]
 try rw [cE]
 try rw [aQ]
 try rw [dE]
 clear cg cE aQ dE wa
 by_cases h0 : c1 = c2
 case neg =>
  have q : (c1 == c2) = false := by simpa using h0
  have HR := (show Hid (false = RV) from by show false = RV; rw [← fG.out, decide_eq_false h0]; simp);clear h0 KQ kE;go_wp2;go_ret;exact ⟨by rw [← HR.out]; rfl, HK.out⟩
 have q0 : (c1 == c2) = true := by simpa using h0
 rw [decide_eq_true h0] at fG;clear h0
 by_cases h1 : t1 = t2
 case neg =>
  have q : (t1 == t2) = false := by simpa using h1
  have HR := (show Hid (false = RV) from by show false = RV; rw [← fG.out, decide_eq_false h1]; simp);clear h1 KQ kE;go_wp2;go_ret;exact ⟨by rw [← HR.out]; rfl, HK.out⟩
 have q1 : (t1 == t2) = true := by simpa using h1
 rw [decide_eq_true h1] at fG;clear h1
 by_cases h2 : i1 = i2
 case neg =>
  have q : (i1 == i2) = false := by simpa using h2
  have HR := (show Hid (false = RV) from by show false = RV; rw [← fG.out, decide_eq_false h2]; simp);clear h2 KQ kE;go_wp2;go_ret;exact ⟨by rw [← HR.out]; rfl, HK.out⟩
 have q2 : (i1 == i2) = true := by simpa using h2
 rw [decide_eq_true h2] at fG;clear h2;have xV := (show Hid ((EB && EQ) = RV) from by show (EB && EQ) = RV; rw [← fG.out]; simp);clear fG
 go_wp2_with fail
 refine kE.mono ?_;rintro e w2 ⟨rfl, ae⟩;have ap := hid (HK.out.trans ae);have kQ := KQ.out w2 ap.out;have eP := hid (HX.out.same ae);have i6 := hid (HY.out.same ae);clear kE ae a0 a1 a2 a3 a4 a5 e0 e1 e2 e3 e4 e5 HX HY KQ;obtain ⟨a0, a1, a2, a3, a4, a5⟩ := eP.out.all6;obtain ⟨e0, e1, e2, e3, e4, e5⟩ := i6.out.all6
 cases EB with
 | false =>
  have HR := (show Hid (false = RV) from by show false = RV; rw [← xV.out]; simp);clear kQ;go_wp2;go_ret;exact ⟨by rw [← HR.out]; rfl, ap.out⟩
 | true =>
  have HR := (show Hid (EQ = RV) from by show EQ = RV; rw [← xV.out]; simp);clear xV
  go_wp2_with fail
  refine kQ.mono ?_;rintro e w3 ⟨rfl, ar⟩;have ax := hid (ap.out.trans ar);clear kQ ar a0 a1 a2 a3 a4 a5 e0 e1 e2 e3 e4 e5;go_wp2;go_ret;exact ⟨by rw [← HR.out]; rfl, ax.out⟩
end Go.Proofs.YtljfcdkhicffcaaGreat
