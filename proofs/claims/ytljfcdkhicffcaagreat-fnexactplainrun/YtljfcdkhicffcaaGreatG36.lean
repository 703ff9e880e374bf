import Derived.Test.YtljfcdkhicffcaaGreatG34
import Derived.Test.YtljfcdkhicffcaaGreatG35
namespace Go.Proofs.YtljfcdkhicffcaaGreat
set_option maxRecDepth 100000
set_option maxHeartbeats 8000000
set_option linter.unusedVariables false
set_option linter.unusedSimpArgs false
open Go Go.RowKit Go.MapKept
theorem jej (gp gf gl : Int) (rv : Value) (rs : List EHeapRecord) (sv : Value) (ss : List StStep) (av : Value) (zs : List EAn) (w : World) (hr : RdR kHeapRecord w rv rs) (hs : RdSp w sv ss) (ha : RdAn w av zs) (bd : RunOk rs ss zs) :
  Calls Tryz.prog 12 #[.agg #[V gp, V gf, V gl], rv, sv, av] w fun e w' => AnsPl w w' e (XO gp gf gl (jZ9 rs) (Um ss) (Uv zs)) := by
 obtain ⟨ra, rc, tC⟩ := hr.form;obtain ⟨sa, sc, wL⟩ := hs.form;obtain ⟨aa, ac, xh⟩ := ha.form;obtain ⟨L, hL⟩ : ∃ n, rs.length = n := ⟨_, rfl⟩;obtain ⟨S, ic⟩ : ∃ n, ss.length = n := ⟨_, rfl⟩;obtain ⟨A, kU⟩ : ∃ n, zs.length = n := ⟨_, rfl⟩;rw [hL] at tC;rw [ic] at wL;rw [kU] at xh;subst tC wL xh;have HR := hid hr;have HS := hid hs;have HA := hid ha;have HL := hid hL;have qL := hid ic;have De := hid kU;have iL := hid bd
 have oy : A ≤ maxLen := by rw [← kU]; exact ha.row.max
 have Bp : S ≤ maxLen := by rw [← ic]; exact hs.row.max
 obtain ⟨FB, rT⟩ : ∃ z, Wi gp gf gl (jZ9 rs) (Um ss) A = z := ⟨_, rfl⟩;obtain ⟨RD, yr⟩ : ∃ z, XO gp gf gl (jZ9 rs) (Um ss) (Uv zs) = z := ⟨_, rfl⟩;rw [yr]
 have eT := (show Hid (RD = ZH FB (Xm gp (Um ss) (Uv zs) (U0 (jZ9 rs)) S) S) from by
  show RD = _
  rw [← yr, ← rT];unfold XO
  rw [Uz, kU, Ul, ic])
 have KF := (show Hid (∀ wx, Same w wx → Calls Tryz.prog 32 #[.agg #[V gp, V gf, V gl], .slice ra L rc, .slice sa S sc, .slice aa A ac] wx fun e w' => e = .returned (.bool FB) ∧ Same wx w') from fun wx hx => by
  have h1 := jdc gp gf gl _ rs _ ss aa A ac wx (hr.same hx) (hs.same hx) oy (fun p hp => (hs.data p hp).2.1);rw [rT] at h1
  exact h1)
 have Cs := hid rT;have i7 := Blk.newL w [V gp, V gf, V gl] 35;have dx : Same w (w.alloc (.cells #[V gp, V gf, V gl] 35)) := kZ0.alloc _;obtain ⟨GG, lV⟩ : ∃ X, w.heap.size = X := ⟨_, rfl⟩;have qq := Blk.newL (w.alloc (.cells #[V gp, V gf, V gl] 35)) [V 0, V 0, V0, V0] 33;have af : Same (w.alloc (.cells #[V gp, V gf, V gl] 35)) ((w.alloc (.cells #[V gp, V gf, V gl] 35)).alloc (.cells #[V 0, V 0, V0, V0] 33)) := kZ0.alloc _
 have bD : (w.alloc (.cells #[V gp, V gf, V gl] 35)).heap.size = GG + 1 := by rw [World.size_alloc, lV]
 have fo : ((w.alloc (.cells #[V gp, V gf, V gl] 35)).alloc (.cells #[V 0, V 0, V0, V0] 33)).heap.size = GG + 2 := by rw [World.size_alloc, bD]
 rw [lV] at i7;rw [bD] at qq;clear hr hs ha bd hL ic kU yr rT
 go_enter Tryz.func12, Tryz.ntmps12
 go_upto_region 1 with fail
 try rw [lV]
 try rw [bD]
 have su := i7.same af;have eR := dx.trans af;generalize (w.alloc (.cells #[V gp, V gf, V gl] 35)).alloc (.cells #[V 0, V 0, V0, V0] 33) = w1 at su qq eR fo ⊢;have HG := hid su;have HZ := hid qq;have ao := hid eR;obtain ⟨g0, g1, g2⟩ := su.all3;have Bf := (show Hid (w.heap.size = GG) from lV);have od := (show Hid (w1.heap.size = GG + 2) from fo);clear i7 qq su eR dx af bD lV fo;have kF := KF.out w1 ao.out
 go_wp2_with fail
 refine kF.mono ?_;rintro e w2 ⟨rfl, ae⟩;have ap := hid (ao.out.trans ae);have wV := hid (HG.out.same ae);have jq := hid (HZ.out.same ae);obtain ⟨lo, cN⟩ : ∃ z, w2.heap.size = z := ⟨_, rfl⟩;have gy := (show Hid (GG + 2 ≤ lo ∧ w.heap.size = GG) from ⟨by have := ae.size; have := od.out; omega, Bf.out⟩);have vX := (show Hid (w2.heap.size = lo) from cN);clear kF KF ae g0 g1 g2 HG HZ ao Bf od cN
 have l5 := (show Hid (∀ (wx : World) (cd pl : Int), Same w wx → Blk wx (GG + 1) 33 [V 0, V 0, V0, V0] → (cd, pl, ([] : List RcD), ([] : List (Int × List WrD))) = RD → AnsPl w ((((wx.setCell ⟨GG + 1, 0, none⟩ (V cd)).setCell ⟨GG + 1, 1, none⟩ (V pl)).setCell ⟨GG + 1, 2, none⟩ (V0)).setCell ⟨GG + 1, 3, none⟩ (V0)) (.returned (.agg #[V cd, V pl, V0, V0])) RD) from fun wx cd pl hk hb e => by
  refine ⟨cd, pl, none, 0, 0, [], none, 0, 0, [], rfl, e, OwnPl.nil _ _, ?_⟩;have aM : Kept (fun b => b = GG + 1) wx ((((wx.setCell ⟨GG + 1, 0, none⟩ (V cd)).setCell ⟨GG + 1, 1, none⟩ (V pl)).setCell ⟨GG + 1, 2, none⟩ (V0)).setCell ⟨GG + 1, 3, none⟩ (V0)) := Kept.setCell (R := fun b => b = GG + 1) (Kept.setCell (R := fun b => b = GG + 1) (Kept.setCell (R := fun b => b = GG + 1) (Kept.setCell (R := fun b => b = GG + 1) kZ0 (p := ⟨GG + 1, 0, none⟩) (.inr rfl) _) (p := ⟨GG + 1, 1, none⟩) (.inr rfl) _) (p := ⟨GG + 1, 2, none⟩) (.inr rfl) _) (p := ⟨GG + 1, 3, none⟩) (.inr rfl) _
  exact hk.next aM (fun i hi e => by have := gy.out.2; omega))
 cases FB
 case true =>
  have kK := hid (l5.out w2 2 0 ap.out jq.out (by rw [eT.out]; rfl));obtain ⟨z0, z1, z2, z3⟩ := jq.out.all4;have fz := jq.out.frozen;go_wp2;exact bodyPost_ret (v := .agg #[V 2, V 0, V0, V0]) (by simp [results, Tryz.results12, go_sem, z0, z1, z2, z3]) rfl kK.out
 have gB := (show Hid (RD = ZH false (Xm gp (Um ss) (Uv zs) (U0 (jZ9 rs)) S) S) from eT.out);have ct := jaO Cs.out;have gH := hid ct.1
 have Ed : S ≤ 400 := by have := ct.2.1; rw [Ul, qL.out] at this; exact this
 have I8 : S = A := by have := ct.2.2.1; rw [Ul, qL.out] at this; exact this.symm
 subst I8;have jO := hid ct.2.2.2.1;have iH := (show Hid (OkS gp 0 (U0 (jZ9 rs))) from OkS.start ct.2.2.2.2.1 ct.2.2.2.2.2 iL.out.recs);have kO := jfz gp gf gl _ rs w2 (HR.out.same ap.out) ct.2.2.2.2.1;rw [vX.out] at kO;obtain ⟨g0, g1, g2⟩ := wV.out.all3;clear ct Cs eT
 go_wp2_with fail
 refine kO.mono ?_;rintro e w3 ⟨M, rfl, Od, ar⟩;have nG := hid Od;have ax := hid (ap.out.trans ar);have rY := hid (jq.out.same ar);have Ee := (show Hid (lo ≤ w3.heap.size) from by have := ar.size; have := vX.out; show lo ≤ w3.heap.size; omega);clear kO Od ar g0 g1 g2 ap wV jq vX
 go_wp2_with fail
 go_loopw [23] (fun i wr => ∃ (j : Nat) (st : PlS), j ≤ S ∧ i = V j ∧ Hid (Xm gp (Um ss) (Uv zs) (U0 (jZ9 rs)) j = .inr st) ∧ Hid (PmS wr lo M gp gf gl st) ∧ Hid (OkS gp j st) ∧ Hid (Same w wr) ∧ Hid (Blk wr (GG + 1) 33 [V 0, V 0, V0, V0]) ∧ Hid (lo ≤ wr.heap.size)) (fun i _ => S - (intOf i).toNat)
 case atStart => exact ⟨0, _, Nat.zero_le _, rfl, rfl, nG, iH, ax, rY, Ee⟩
 case round =>
  clear nG iH ax rY Ee;obtain ⟨j, st, hj, rfl, qe, bL, HO, HK, HZ, Oa⟩ := hrel
  by_cases aG : j < S
  case pos =>
   have h1 : j < ss.length := by rw [qL.out]; exact aG
   have h2 : j < zs.length := by rw [De.out]; exact aG
   rcases HS.out.row.row with ⟨h, _⟩ | ⟨b, off, c, he, hc⟩
   ·rw [h] at h1; simp at h1
   injection he with e1 e2 e3
   subst e1 e3
   rcases HA.out.row.row with ⟨h, _⟩ | ⟨b2, aL, c2, jF, cR⟩
   ·rw [h] at h2; simp at h2
   injection jF with f1 f2 f3
   subst f1 f3;have cD := fun i (hi : i < 6) => hc j i h1 hi;have eW := fun i (hi : i < 6) => cR j i h2 hi;have jU := HS.out.data ss[j] (List.getElem_mem h1);have iD := HA.out.row.data zs[j] (List.getElem_mem h2);have iz := HA.out.recs zs[j] (List.getElem_mem h2);have jj := iL.out.data ss[j] (List.getElem_mem h1);have fv := iL.out.ans zs[j] (List.getElem_mem h2);have rS := hid (jeK qe.out (s := ss[j].dat) (a := zs[j].dat) (by rw [List.getD_eq_getElem?_getD, List.getElem?_eq_getElem (by rw [Ul]; exact h1)]; simp [Um]) (by rw [List.getD_eq_getElem?_getD, List.getElem?_eq_getElem (by rw [Uz]; exact h2)]; simp [Uv]));have dm := jO.out ss[j].dat (List.mem_map_of_mem (List.getElem_mem h1));have dN := Ym dm;generalize ss[j] = sj at cD jU jj rS dN dm;generalize zs[j] = aj at eW iD iz fv rS;obtain ⟨kd, stx, ah, cnt, ⟨de, da, dc, db⟩, ⟨ke, ka, kn, kc, kb⟩⟩ := sj;obtain ⟨bW, bC, cI, JN, lw, Il, ll, bY⟩ := aj;obtain ⟨jK, adc, nr⟩ := iD.form;have G4 : JN = .slice jK lw.length adc := nr;clear nr;subst G4;obtain ⟨jA, jD, o7⟩ := iz.form;have Kj : Il = .slice jA ll.length jD := o7;clear o7;subst Kj;obtain ⟨dn, dM⟩ : ∃ n, db.length = n := ⟨_, rfl⟩;obtain ⟨lI, je⟩ : ∃ n, lw.length = n := ⟨_, rfl⟩;obtain ⟨lA, jP⟩ : ∃ n, ll.length = n := ⟨_, rfl⟩
   have nY : ∀ wx : World, Same w wx → wx.cell? ⟨b, off + j * 6, none⟩ = some (V kd) ∧ wx.cell? ⟨b, off + j * 6 + 1, none⟩ = some (V stx) ∧ wx.cell? ⟨b, off + j * 6 + 2, none⟩ = some (V ah) ∧ wx.cell? ⟨b, off + j * 6 + 3, none⟩ = some (V cnt) ∧ wx.cell? ⟨b, off + j * 6 + 4, none⟩ = some (.slice da dn dc) ∧ wx.cell? ⟨b, off + j * 6 + 5, none⟩ = some (.slice ka kn kc) := fun wx hx => by
    have g : ∀ {q : Addr} {v : Value}, w.cell? q = some v → wx.cell? q = some v := fun h => hx.cellOf h (fun e => e);rw [← dM];exact ⟨g (cD 0 (by decide)), g (cD 1 (by decide)), g (cD 2 (by decide)), g (cD 3 (by decide)), g (cD 4 (by decide)), g (cD 5 (by decide))⟩
   have cH := (show Hid (∀ wx : World, Same w wx → wx.cell? ⟨b2, aL + j * 6, none⟩ = some (V bW) ∧ wx.cell? ⟨b2, aL + j * 6 + 1, none⟩ = some (V bC) ∧ wx.cell? ⟨b2, aL + j * 6 + 2, none⟩ = some (V cI) ∧ wx.cell? ⟨b2, aL + j * 6 + 3, none⟩ = some (.slice jK lI adc) ∧ wx.cell? ⟨b2, aL + j * 6 + 4, none⟩ = some (.slice jA lA jD) ∧ wx.cell? ⟨b2, aL + j * 6 + 5, none⟩ = some (V bY)) from fun wx hx => by
    have g : ∀ {q : Addr} {v : Value}, w.cell? q = some v → wx.cell? q = some v := fun h => hx.cellOf h (fun e => e);rw [← je, ← jP]
    exact ⟨g (eW 0 (by decide)), g (eW 1 (by decide)), g (eW 2 (by decide)), g (eW 3 (by decide)), g (eW 4 (by decide)), g (eW 5 (by decide))⟩)
   obtain ⟨d0, d1, d2, d3, d4, d5⟩ := nY wr HK.out;have qW := (show Hid (∀ wx, Kept (fun b => lo ≤ b) wr wx → Same w wx) from fun wx hk => HK.out.next hk (fun i hi e => by have := gy.out; omega));have Cw : WU (kd, stx, ah, cnt, db, kb) = 0 := dm;have heq : UR (bW, bC, cI, lw, jZ9 ll, bY) (Zj gp st (kd, stx, ah, cnt, db, kb) bC cI) = VD gp st (kd, stx, ah, cnt, db, kb) (bW, bC, cI, lw, jZ9 ll, bY) := step_eq HO.out (by omega) ⟨by have := gH.out.1; omega, gH.out.2⟩ Cw (bW, bC, cI, lw, jZ9 ll, bY)
   have KS := (show Hid (∀ (wx : World), Same wr wx → Calls Tryz.prog 34 #[Q3 M 0, .agg #[V kd, V stx, V ah, V cnt, .slice da dn dc, .slice ka kn kc], .agg #[V bW, V bC, V cI, .slice jK lI adc, .slice jA lA jD, V bY]] wx fun e w' => TkO lo M gp gf gl wx w' e (VD gp st (kd, stx, ah, cnt, db, kb) (bW, bC, cI, lw, jZ9 ll, bY))) from fun wx hx => by
    obtain ⟨x, mX, eK⟩ := bL.out;have tU : Kept (fun b => lo ≤ b) wr wx := hx.mono (fun _ _ e => e.elim);have h3 := jfF lo M gp gf gl x st j kd stx ah cnt da dn dc ka kn kc db kb bW bC cI jK lI adc jA lA jD bY lw ll wx (mX.same hx) eK HO.out (by omega) ⟨by have := gH.out.1; omega, gH.out.2⟩ dN (fun w' hk => by rw [← dM]; exact jU.1.same (qW.out w' (tU.trans hk))) dM (by rw [← je]; exact iD.same (qW.out wx tU)) (by rw [← jP]; exact iz.same (qW.out wx tU)) fv.1.1 (fun p hp => (fv.2.1 p.dat (List.mem_map_of_mem hp)).1);rw [← heq]
    exact h3)
   have Cl := (show Hid (∀ cJ, VD gp st (kd, stx, ah, cnt, db, kb) (bW, bC, cI, lw, jZ9 ll, bY) = some cJ → OkS gp (j + 1) cJ) from fun cJ e => HO.out.step ⟨by have := gH.out.1; omega, gH.out.2⟩ (by omega) jj fv.2.1 e);obtain ⟨RP, bS⟩ : ∃ z, VD gp st (kd, stx, ah, cnt, db, kb) (bW, bC, cI, lw, jZ9 ll, bY) = z := ⟨_, rfl⟩;rw [bS] at KS Cl
   have ow := (show Hid (Xm gp (Um ss) (Uv zs) (U0 (jZ9 rs)) (j + 1) = nextR j RP) from by
    have h := rS.out;dsimp only [StStep.dat, EAn.dat] at h;rw [bS] at h
    exact h)
   have aV := Blk.newL wr [V kd, V stx, V ah, V cnt, .slice da dn dc, .slice ka kn kc] 71;have ae : Same wr (wr.alloc (.cells #[V kd, V stx, V ah, V cnt, .slice da dn dc, .slice ka kn kc] 71)) := kZ0.alloc _;obtain ⟨Z, pR⟩ : ∃ X, wr.heap.size = X := ⟨_, rfl⟩;rw [pR] at aV;clear bS cD eW jU iD iz jj fv rS hc cR e2 f2 dN dM je jP bL HO heq dm Cw nY h1 h2
   go_upto_region 7 with fail
   try rw [pR]
   generalize wr.alloc (.cells #[V kd, V stx, V ah, V cnt, .slice da dn dc, .slice ka kn kc] 71) = w3 at aV ae ⊢;have eN := hid aV;have ax := hid ae;clear aV ae pR d0 d1 d2 d3 d4 d5;refine TT (fun wx : World => wx.cell? ⟨Z, 0, none⟩ = some (V kd) ∧ wx.cell? ⟨Z, 1, none⟩ = some (V stx) ∧ wx.cell? ⟨Z, 2, none⟩ = some (V ah) ∧ wx.cell? ⟨Z, 3, none⟩ = some (V cnt) ∧ wx.cell? ⟨Z, 4, none⟩ = some (.slice da dn dc) ∧ wx.cell? ⟨Z, 5, none⟩ = some (.slice ka kn kc) ∧ wx.cell? ⟨b2, aL + j * 6, none⟩ = some (V bW) ∧ wx.cell? ⟨b2, aL + j * 6 + 1, none⟩ = some (V bC) ∧ wx.cell? ⟨b2, aL + j * 6 + 2, none⟩ = some (V cI) ∧ wx.cell? ⟨b2, aL + j * 6 + 3, none⟩ = some (.slice jK lI adc) ∧ wx.cell? ⟨b2, aL + j * 6 + 4, none⟩ = some (.slice jA lA jD) ∧ wx.cell? ⟨b2, aL + j * 6 + 5, none⟩ = some (V bY)) 99 8 rfl (by kernel_rfl) ?_;have aM : Same w3 (World.drew w3) := kZ0.drew;generalize World.drew w3 = w4 at aM ⊢;have aR := hid (ax.out.trans aM);have D4 := hid (eN.out.same aM);clear aM ax eN
   have FE := (show Hid (∀ wx, Same w4 wx → (fun wx : World => wx.cell? ⟨Z, 0, none⟩ = some (V kd) ∧ wx.cell? ⟨Z, 1, none⟩ = some (V stx) ∧ wx.cell? ⟨Z, 2, none⟩ = some (V ah) ∧ wx.cell? ⟨Z, 3, none⟩ = some (V cnt) ∧ wx.cell? ⟨Z, 4, none⟩ = some (.slice da dn dc) ∧ wx.cell? ⟨Z, 5, none⟩ = some (.slice ka kn kc) ∧ wx.cell? ⟨b2, aL + j * 6, none⟩ = some (V bW) ∧ wx.cell? ⟨b2, aL + j * 6 + 1, none⟩ = some (V bC) ∧ wx.cell? ⟨b2, aL + j * 6 + 2, none⟩ = some (V cI) ∧ wx.cell? ⟨b2, aL + j * 6 + 3, none⟩ = some (.slice jK lI adc) ∧ wx.cell? ⟨b2, aL + j * 6 + 4, none⟩ = some (.slice jA lA jD) ∧ wx.cell? ⟨b2, aL + j * 6 + 5, none⟩ = some (V bY)) wx) from fun wx hx => by
    obtain ⟨s0, s1, s2, s3, s4, s5⟩ := (D4.out.same hx).all6
    exact ⟨s0, s1, s2, s3, s4, s5, cH.out wx ((HK.out.trans aR.out).trans hx)⟩)
   have hS : (fun wx : World => wx.cell? ⟨Z, 0, none⟩ = some (V kd) ∧ wx.cell? ⟨Z, 1, none⟩ = some (V stx) ∧ wx.cell? ⟨Z, 2, none⟩ = some (V ah) ∧ wx.cell? ⟨Z, 3, none⟩ = some (V cnt) ∧ wx.cell? ⟨Z, 4, none⟩ = some (.slice da dn dc) ∧ wx.cell? ⟨Z, 5, none⟩ = some (.slice ka kn kc) ∧ wx.cell? ⟨b2, aL + j * 6, none⟩ = some (V bW) ∧ wx.cell? ⟨b2, aL + j * 6 + 1, none⟩ = some (V bC) ∧ wx.cell? ⟨b2, aL + j * 6 + 2, none⟩ = some (V cI) ∧ wx.cell? ⟨b2, aL + j * 6 + 3, none⟩ = some (.slice jK lI adc) ∧ wx.cell? ⟨b2, aL + j * 6 + 4, none⟩ = some (.slice jA lA jD) ∧ wx.cell? ⟨b2, aL + j * 6 + 5, none⟩ = some (V bY)) w4 := FE.out w4 kZ0;refine tk 0 28 hS ?_;refine tk 1 29 hS ?_;refine tk 2 30 hS ?_;refine tk 3 31 hS ?_;refine tk 4 32 hS ?_;refine tk 5 33 hS ?_
   cases RP with
   | none =>
    refine o1Q 6 (fun Kc ak => ?_);go_simp;refine (KS.out w4 aR.out).mono ?_;rintro e w5 ⟨rfl, aP⟩;have aH := hid ((HK.out.trans aR.out).trans aP);have iy := hid (HZ.out.same (aR.out.trans aP));have iN : (fun wx : World => wx.cell? ⟨Z, 0, none⟩ = some (V kd) ∧ wx.cell? ⟨Z, 1, none⟩ = some (V stx) ∧ wx.cell? ⟨Z, 2, none⟩ = some (V ah) ∧ wx.cell? ⟨Z, 3, none⟩ = some (V cnt) ∧ wx.cell? ⟨Z, 4, none⟩ = some (.slice da dn dc) ∧ wx.cell? ⟨Z, 5, none⟩ = some (.slice ka kn kc) ∧ wx.cell? ⟨b2, aL + j * 6, none⟩ = some (V bW) ∧ wx.cell? ⟨b2, aL + j * 6 + 1, none⟩ = some (V bC) ∧ wx.cell? ⟨b2, aL + j * 6 + 2, none⟩ = some (V cI) ∧ wx.cell? ⟨b2, aL + j * 6 + 3, none⟩ = some (.slice jK lI adc) ∧ wx.cell? ⟨b2, aL + j * 6 + 4, none⟩ = some (.slice jA lA jD) ∧ wx.cell? ⟨b2, aL + j * 6 + 5, none⟩ = some (V bY)) w5 := FE.out w5 aP;clear aP hS
    go_wp2_with fail
    refine ak.out _ _ (fun _ => iN) ?_;clear ak Kc
    try simp only [Act.put, sA, s0, sS]
    refine tk 7 35 iN ?_;refine TS (by kernel_rfl) ?_
    try simp only [Act.put, sA, s0, sS]
    clear iN cH FE KS
    have kK := hid (l5.out w5 1 j aH.out iy.out (by
     rw [gB.out];have h := ZI ow.out (S - (j + 1));rw [show j + 1 + (S - (j + 1)) = S by omega] at h;rw [h]
     rfl))
    obtain ⟨z0, z1, z2, z3⟩ := iy.out.all4;have fz := iy.out.frozen;go_wp2;exact bodyPost_ret (v := .agg #[V 1, V j, V0, V0]) (by simp [results, Tryz.results12, go_sem, z0, z1, z2, z3]) rfl kK.out
   | some st2 =>
    refine o1Q 6 (fun Kc ak => ?_);go_simp;refine (KS.out w4 aR.out).mono ?_;rintro e w5 ⟨rfl, mN, aP⟩;have sg := hid mN;have yJ := (show Hid (Kept (fun b => lo ≤ b) wr w5) from (aR.out.mono (fun _ _ e => e.elim)).trans aP.2);have mJ := hid (qW.out w5 yJ.out);have iy := hid (HZ.out.kept yJ.out (by have := gy.out; omega));have Ca := (show Hid (lo ≤ w5.heap.size) from by have := yJ.out.size; have := Oa.out; show lo ≤ w5.heap.size; omega);have cP := (show Hid (Blk w5 Z 71 [V kd, V stx, V ah, V cnt, .slice da dn dc, .slice ka kn kc]) from aP.blk D4.out (by decide) (by decide) (by decide))
    have iN : (fun wx : World => wx.cell? ⟨Z, 0, none⟩ = some (V kd) ∧ wx.cell? ⟨Z, 1, none⟩ = some (V stx) ∧ wx.cell? ⟨Z, 2, none⟩ = some (V ah) ∧ wx.cell? ⟨Z, 3, none⟩ = some (V cnt) ∧ wx.cell? ⟨Z, 4, none⟩ = some (.slice da dn dc) ∧ wx.cell? ⟨Z, 5, none⟩ = some (.slice ka kn kc) ∧ wx.cell? ⟨b2, aL + j * 6, none⟩ = some (V bW) ∧ wx.cell? ⟨b2, aL + j * 6 + 1, none⟩ = some (V bC) ∧ wx.cell? ⟨b2, aL + j * 6 + 2, none⟩ = some (V cI) ∧ wx.cell? ⟨b2, aL + j * 6 + 3, none⟩ = some (.slice jK lI adc) ∧ wx.cell? ⟨b2, aL + j * 6 + 4, none⟩ = some (.slice jA lA jD) ∧ wx.cell? ⟨b2, aL + j * 6 + 5, none⟩ = some (V bY)) w5 := by
     obtain ⟨s0, s1, s2, s3, s4, s5⟩ := cP.out.all6;exact ⟨s0, s1, s2, s3, s4, s5, cH.out w5 mJ.out⟩
    clear mN aP hS
    go_wp2_with fail
    refine ak.out _ _ (fun _ => iN) ?_;clear ak Kc
    try simp only [Act.put, sA, s0, sS]
    refine tk 7 35 iN ?_;refine TS (by kernel_rfl) ?_
    try simp only [Act.put, sA, s0, sS]
    clear iN cH FE KS;go_wp2;go_roundw
    case rel => exact ⟨j + 1, st2, by omega, by go_num, ow, sg, Cl.out st2 rfl, mJ, iy, Ca⟩
    case measure => simp [intOf]; omega
  obtain rfl : S = j := by omega
  have HD := (show Hid ((0, (S : Int), st.recs, ZX st.txns) = RD) from by
   show _ = RD
   rw [gB.out, qe.out]
   rfl)
  obtain ⟨x, mX, eK⟩ := bL.out;have HX := hid mX;have Sz := hid eK
  have iv : st.recs.length ≤ 512 ∧ ∀ r ∈ st.recs, 0 ≤ r.1 ∧ r.1 < 512 := by
   have h1 := V3 (st.recs.map (·.1)) 0 (gp * 32) HO.out.rise (fun y hy => by
    obtain ⟨r, hr, rfl⟩ := List.mem_map.1 hy
    exact HO.out.ids r hr)
   rw [List.length_map] at h1;have h2 := gH.out;exact ⟨by omega, fun r hr => ⟨(HO.out.ids r hr).1, by have := (HO.out.ids r hr).2; omega⟩⟩
  have kL := jbA lo x.C x.ck x.ce st.recs wr mX.n.rcm eK.recs HO.out.rise iv.2 HO.out.okr iv.1;have KT := (show Hid (∀ wx, Same wr wx → Calls Tryz.prog 36 #[Q3 M 0] wx fun e w' => TlR wx w' e st.txns) from fun wx hx => jfB lo M gp gf gl x st S wx (mX.same hx) eK HO.out (by omega) ⟨by have := gH.out.1; omega, gH.out.2⟩);have m5 := mX.box.cell 5;simp only [PmC, List.getElem?_cons_zero, List.getElem?_cons_succ] at m5;clear mX eK iv bL gB qe l5
  go_wp2_with fail
  refine kL.mono ?_;rintro e w5 ⟨qa, qn, qc, qs, rfl, p9, hU⟩;have js := hid hU;have CQ := hid p9;have iy := hid (HZ.out.same hU.same);have kT := KT.out w5 hU.same;clear kL hU p9 m5 KT
  go_wp2_with fail
  refine kT.mono ?_;rintro e w6 ⟨ta, tn, tc, ts, rfl, OL, hT⟩;have zD := hid hT;have CB := hid OL;have CK := (show Hid (OwnR kHeapRecord 0 79 5 w6 (.slice qa qn qc) qs) from js.out.own.same hT.same);have AE := hid (iy.out.same hT.same);have bI := hid ((HK.out.trans js.out.same).trans hT.same);obtain ⟨z0, z1, z2, z3⟩ := AE.out.all4;have fz := AE.out.frozen
  have kK := (show Hid (AnsPl w ((((w6.setCell ⟨GG + 1, 0, none⟩ (V 0)).setCell ⟨GG + 1, 1, none⟩ (V S)).setCell ⟨GG + 1, 2, none⟩ (.slice qa qn qc)).setCell ⟨GG + 1, 3, none⟩ (.slice ta tn tc)) (.returned (.agg #[V 0, V S, .slice qa qn qc, .slice ta tn tc])) RD) from by
   have aM : Kept (fun b => b = GG + 1) w6 ((((w6.setCell ⟨GG + 1, 0, none⟩ (V 0)).setCell ⟨GG + 1, 1, none⟩ (V S)).setCell ⟨GG + 1, 2, none⟩ (.slice qa qn qc)).setCell ⟨GG + 1, 3, none⟩ (.slice ta tn tc)) := Kept.setCell (R := fun b => b = GG + 1) (Kept.setCell (R := fun b => b = GG + 1) (Kept.setCell (R := fun b => b = GG + 1) (Kept.setCell (R := fun b => b = GG + 1) kZ0 (p := ⟨GG + 1, 0, none⟩) (.inr rfl) _) (p := ⟨GG + 1, 1, none⟩) (.inr rfl) _) (p := ⟨GG + 1, 2, none⟩) (.inr rfl) _) (p := ⟨GG + 1, 3, none⟩) (.inr rfl) _;have yN : lo ≤ wr.heap.size := Oa.out;have h5 : wr.heap.size ≤ w5.heap.size := js.out.same.size;have cN := gy.out;have Hn : ∀ b, Uc kHeapRecord (.slice qa qn qc) qs b → wr.heap.size ≤ b ∧ b < w5.heap.size := fun b hb => ⟨js.out.foot b hb, (js.out.own.lt b hb).2⟩;have Ky : ∀ b, ((Value.slice ta tn tc).ownBlock = some b ∨ ∃ t ∈ ts, Uc kWr t.v t.ps b) → w5.heap.size ≤ b := zD.out.foot;refine ⟨0, (S : Int), qa, qn, qc, qs, ta, tn, tc, ts, rfl, ?_, ?_, bI.out.next aM (fun i hi e => by omega)⟩
   ·rw [← HD.out, CQ.out, CB.out]
   ·have h0 : OwnPl w w6 (.slice qa qn qc) qs (.slice ta tn tc) ts := ⟨CK.out, zD.out.row, zD.out.wr, zD.out.each, fun b hb t ht hf => by have := Hn b hb; have := Ky b (.inr ⟨t, ht, hf⟩); omega, fun b hb => by have := Hn b hb; omega, fun b hb => by have := Ky b hb; omega⟩
    exact h0.kept aM (fun b hb e => by have := Hn b hb; omega) (fun b hb e => by have := Ky b hb; omega))
  clear kT hT OL;go_wp2;exact bodyPost_ret (v := .agg #[V 0, V S, .slice qa qn qc, .slice ta tn tc]) (by simp [results, Tryz.results12, go_sem, z0, z1, z2, z3]) rfl kK.out
structure PlOk (D : jf4) : Prop where
 rl : D.2.2.1.length ≤ 512
 ro : OkR D.2.2.1
 tl : D.2.2.2.length ≤ 8
 tw : ∀ t ∈ D.2.2.2, t.2.length ≤ 512 ∧ OkW t.2
theorem jek {W : List WrD} {id : Int} {d : Bool × List Int} (h : U9 W id = some d) : ∃ x ∈ W, x.2 = d := by
 unfold U9 at h
 have : ∀ (l : List WrD) (o : Option (Bool × List Int)), l.foldl (fun o w => if w.1 = id then some w.2 else o) o = some d → o = some d ∨ ∃ x ∈ l, x.2 = d := by
  intro l
  induction l with
  | nil => intro o h; exact .inl h
  | cons x xs ih =>
   intro o h;rw [List.foldl_cons] at h
   rcases ih _ h with h2 | ⟨y, hy, h2⟩
   ·by_cases hx : x.1 = id
    ·rw [if_pos hx] at h2
     injection h2 with h2
     exact .inr ⟨x, List.mem_cons_self, h2⟩
    ·rw [if_neg hx] at h2
     exact .inl h2
   ·exact .inr ⟨y, List.mem_cons_of_mem _ hy, h2⟩
 rcases this W none h with h2 | h2
 ·cases h2
 ·exact h2
theorem jfC {W : List WrD} (n : Nat) (h : OkW W) : (UG W n).length ≤ n ∧ OkW (UG W n) := by
 obtain ⟨h1, h2, _⟩ := VN W n
 have h3 := V3 ((UG W n).map (·.1)) 0 (n : Int) h1 (fun y hy => by
  obtain ⟨x, hx, rfl⟩ := List.mem_map.1 hy;have := h2 x hx
  exact ⟨this.1, this.2.1⟩)
 rw [List.length_map] at h3;refine ⟨by omega, fun x hx => ?_⟩;obtain ⟨y, hy, e⟩ := jek (h2 x hx).2.2;have := h y hy;rw [e] at this;exact this
theorem jeL {gp : Int} {ss : List StD} {al : List AnD} {IB : PlS} (h0 : OkS gp 0 IB) (hg : 0 ≤ gp ∧ gp ≤ 16) (hs : ∀ s ∈ ss, OkB s.2.2.2.2.1) (ha : ∀ a ∈ al, OkR a.2.2.2.2.1) (hl : ss.length ≤ 400) (eg : al.length = ss.length) : ∀ (k : Nat) (st : PlS), k ≤ ss.length → Xm gp ss al IB k = .inr st → OkS gp k st
 | 0, st, _, h => by
  injection h with h
  rw [← h];exact h0
 | k + 1, st, hk, h => by
  unfold Xm at h
  cases hr : Xm gp ss al IB k with
  | inl i => rw [hr] at h; cases h
  | inr cJ =>
   rw [hr] at h;dsimp only at h
   cases hp : VD gp cJ (ss.getD k (0, 0, 0, 0, [], [])) (al.getD k (0, 0, 0, [], [], 0)) with
   | none => rw [hp] at h; cases h
   | some st'' =>
    rw [hp] at h
    injection h with h
    subst h;have h1 := jeL h0 hg hs ha hl eg k cJ (by omega) hr
    have e1 : ss.getD k (0, 0, 0, 0, [], []) = ss[k] := by rw [List.getD_eq_getElem?_getD, List.getElem?_eq_getElem (by omega)]; rfl
    have e2 : al.getD k (0, 0, 0, [], [], 0) = al[k]'(by omega) := by rw [List.getD_eq_getElem?_getD, List.getElem?_eq_getElem (by omega)]; rfl
    rw [e1, e2] at hp;exact h1.step hg (by omega) (hs _ (List.getElem_mem _)) (ha _ (List.getElem_mem _)) hp
theorem jfD {gp gf gl : Int} {rs : List EHeapRecord} {ss : List StStep} {zs : List EAn} (bd : RunOk rs ss zs) : PlOk (XO gp gf gl (jZ9 rs) (Um ss) (Uv zs)) := by
 have i9 : ∀ a b : Int, PlOk (a, b, [], []) := fun a b => ⟨Nat.zero_le _, fun r hr => (by cases hr), Nat.zero_le _, fun t ht => (by cases ht)⟩
 unfold XO ZH
 cases hF : Wi gp gf gl (jZ9 rs) (Um ss) (Uv zs).length with
 | true => exact i9 _ _
 | false =>
  obtain ⟨hg, hl, zA, dm, lG, dZ⟩ := jaO hF;rw [if_neg (by decide)]
  cases hR : Xm gp (Um ss) (Uv zs) (U0 (jZ9 rs)) (Um ss).length with
  | inl i => exact i9 _ _
  | inr st =>
   have zG : 0 ≤ gp ∧ gp ≤ 16 := by omega
   have h := jeL (OkS.start lG dZ bd.recs) zG (fun s hs => by
    obtain ⟨p, hp, rfl⟩ := List.mem_map.1 hs
    exact bd.data p hp) (fun a ha => by
    obtain ⟨p, hp, rfl⟩ := List.mem_map.1 ha
    exact (bd.ans p hp).2.1) hl zA _ st (Nat.le_refl _) hR
   refine ⟨h.few zG, h.okr, ?_, fun t ht => ?_⟩
   ·show (st.txns.map _).length ≤ 8
    rw [List.length_map];exact h.n8
   ·obtain ⟨y, hy, rfl⟩ := List.mem_map.1 ht
    exact jfC 512 (h.okw y hy).ok
structure OwnPv (w : World) (rv : Value) (ps : List EHeapRecord) (tv : Value) (ts : List ETx) : Prop where
 recs : OwnR kHeapRecord 0 79 5 w rv ps
 tx : OwnTx w tv ts
 apart : ∀ b, Uc kHeapRecord rv ps b → ¬ Ya tv ts b
def ZL (rv : Value) (ps : List EHeapRecord) (tv : Value) (ts : List ETx) (b : Nat) : Prop := Uc kHeapRecord rv ps b ∨ Ya tv ts b
theorem jde {w : World} {e : TypeId} {m n : Nat} {v : Value} {xs : List Value} (h : w.ownsRow 0 e m v n xs) {v' : Value} {ps : List EHeapRecord} (h' : OwnR kHeapRecord 0 79 5 w v' ps) (h1 : e ≠ 79) (h2 : e ≠ 5) : ∀ b, v.ownBlock = some b → ¬ Uc kHeapRecord v' ps b := fun b hb hf => by
 rcases hf with hf | ⟨p, hp, hf⟩
 ·exact own_ne h h'.row h1 b hb hf
 ·exact own_ne h (h'.data p hp) h2 b hb hf
theorem OwnPl.pv {w0 w : World} {rv : Value} {ps : List EHeapRecord} {tv : Value} {ts : List ETx} (h : OwnPl w0 w rv ps tv ts) : OwnPv w rv ps tv ts :=
 ⟨h.recs, ⟨je5 h.row, h.wr, h.each⟩, fun b hb hf => by
  rcases hf with hf | ⟨t, ht, hf⟩
  ·exact jde h.row h.recs (by decide) (by decide) b hf hb
  ·exact h.ra b hb t ht hf⟩
theorem OwnPv.kept {R : Nat → Prop} {w w' : World} {rv : Value} {ps : List EHeapRecord} {tv : Value} {ts : List ETx} (h : OwnPv w rv ps tv ts) (hk : Kept R w w') (hr : ∀ b, ZL rv ps tv ts b → ¬ R b) : OwnPv w' rv ps tv ts :=
 ⟨h.recs.kept hk (fun b hb => hr b (.inl hb)), h.tx.kept hk (fun b hb => hr b (.inr hb)), h.apart⟩
theorem OwnPv.same {w w' : World} {rv : Value} {ps : List EHeapRecord} {tv : Value} {ts : List ETx} (h : OwnPv w rv ps tv ts) (hk : Same w w') : OwnPv w' rv ps tv ts := h.kept hk (fun _ _ => id)
theorem jaQ {k : Int} {v : Value} {ps : List EHeapRecord} {b : Nat} : Uc kHeapRecord v (Uk mHeapRecord k ps) b ↔ Uc kHeapRecord v ps b := by
 have h : ∀ qs : List EHeapRecord, Uc kHeapRecord v qs b ↔ v.ownBlock = some b ∨ some b ∈ (qs.map kHeapRecord.v).map Value.ownBlock := fun qs => by
  unfold Uc;constructor
  ·rintro (h | ⟨p, hp, h⟩)
   ·exact .inl h
   ·exact .inr (by rw [← h]; exact List.mem_map_of_mem (List.mem_map_of_mem hp))
  ·rintro (h | h)
   ·exact .inl h
   ·obtain ⟨u, hu, h⟩ := List.mem_map.1 h
    obtain ⟨p, hp, rfl⟩ := List.mem_map.1 hu;exact .inr ⟨p, hp, h⟩
 rw [h, h, jeA]
theorem jel {k : Int} {v : Value} {ts : List ETx} {b : Nat} : Ya v (Uk mTx k ts) b → Ya v ts b := fun h => by
 rcases h with h | ⟨t, ht, h⟩
 ·exact .inl h
 ·obtain ⟨i, hi, rfl⟩ := List.getElem_of_mem ht
  have iG : i < ts.length := by rw [Ua] at hi; exact hi
  rw [U4 _ _ _ _ iG] at h;exact .inr ⟨ts[i], List.getElem_mem iG, XC.1 h⟩
structure PvB (ps : List EHeapRecord) (ts : List ETx) : Prop where
 rl : ps.length ≤ 1125899906842624
 ro : ∀ p ∈ ps, p.bs.length ≤ 1125899906842624
 tl : ts.length ≤ 1125899906842624
 tb : TxB ts
 mks : ∀ k : Int, 0 ≤ k → k ≤ 1 → Ug mHeapRecord k ps ≤ 1125899906842624 ∧ Ug mTx (Ug mHeapRecord k ps) ts ≤ 1125899906842624
theorem jdf : ∀ (ps : List EHeapRecord), (∀ p ∈ ps, p.bs.length ≤ 1048576) → TW ps ≤ 1048576 * ps.length
 | [], _ => Nat.le_refl _
 | p :: ps, h => by
  have h1 := h p List.mem_cons_self;have h2 := jdf ps (fun q hq => h q (List.mem_cons_of_mem _ hq));simp only [TW, List.length_cons];omega
theorem jdg : ∀ (ps : List EWr), (∀ p ∈ ps, p.bs.length ≤ 1048576) → UY ps ≤ 1048576 * ps.length
 | [], _ => Nat.le_refl _
 | p :: ps, h => by
  have h1 := h p List.mem_cons_self;have h2 := jdg ps (fun q hq => h q (List.mem_cons_of_mem _ hq));simp only [UY, List.length_cons];omega
theorem jdh : ∀ (ts : List ETx) (k : Int), (∀ t ∈ ts, wrSz t.ps ≤ 1073741824) → Ug mTx k ts ≤ k + 1073741825 * ts.length
 | [], k, _ => by simp [Ug]
 | t :: ts, k, h => by
  have h1 := h t List.mem_cons_self;have h2 := jdh ts (k + (mTx.sz t : Nat)) (fun q hq => h q (List.mem_cons_of_mem _ hq));have h3 : mTx.sz t = 1 + wrSz t.ps := rfl;simp only [Ug, List.length_cons];omega
theorem PlOk.pvB {D : jf4} (h : PlOk D) {ps : List EHeapRecord} {ts : List ETx} (h1 : jZ9 ps = D.2.2.1) (h2 : Uo ts = D.2.2.2) : PvB ps ts := by
 have mZ : ps.length ≤ 512 := by rw [← TQ, h1]; exact h.rl
 have M2 : ∀ p ∈ ps, p.bs.length ≤ 1048576 := fun p hp => (h.ro p.dat (by rw [← h1]; exact List.mem_map_of_mem hp)).2
 have I9 : ts.length ≤ 8 := by rw [← XB, h2]; exact h.tl
 have lE : ∀ t ∈ ts, t.ps.length ≤ 512 ∧ ∀ p ∈ t.ps, p.bs.length ≤ 1048576 := fun t ht => by
  obtain ⟨h3, h4⟩ := h.tw t.dat (by rw [← h2]; exact List.mem_map_of_mem ht)
  have e : t.dat.2.length = t.ps.length := by simp [ETx.dat, TU]
  exact ⟨by omega, fun p hp => (h4 p.dat (List.mem_map_of_mem hp)).2⟩
 have yY : ∀ t ∈ ts, wrSz t.ps ≤ 1073741824 := fun t ht => by
  obtain ⟨h3, h4⟩ := lE t ht;have := jdg t.ps h4;unfold wrSz;omega
 refine ⟨by omega, fun p hp => by have := M2 p hp; omega, by omega, fun t ht => ⟨by have := (lE t ht).1; omega, fun p hp => by have := (lE t ht).2 p hp; omega⟩, fun k h0 af => ?_⟩;have e1 := Vz k ps;have e2 := jdf ps M2;have e3 := jdh ts (Ug mHeapRecord k ps) yY
 constructor <;> omega
theorem Yg (cd pl : Int) (ra : Option Addr) (rn rc : Nat) (ta : Option Addr) (tn tc : Nat) (Cv : Option Addr) (nz qg : Nat) (DX : Option Addr) (BQ CG : Nat) (ps qs : List EHeapRecord) (ts us : List ETx) (w : World) (hr : jZ9 ps = jZ9 qs) (ht : Uo ts = Uo us) (hB : PvB ps ts)
  (ha : OwnPv w (.slice ra rn rc) ps (.slice ta tn tc) ts) (hb : OwnPv w (.slice Cv nz qg) qs (.slice DX BQ CG) us) :
  Calls Tryz.prog 13 #[.agg #[V cd, V pl, .slice ra rn rc, .slice ta tn tc], .agg #[V cd, V pl, .slice Cv nz qg, .slice DX BQ CG]] w fun e w' => e = .returned (.bool true) ∧ Same w w' := by
 have hA := Blk.newL w [V cd, V pl, .slice ra rn rc, .slice ta tn tc] 33;obtain ⟨X, aQ⟩ : ∃ X, w.heap.size = X := ⟨_, rfl⟩;obtain ⟨wa, cg⟩ : ∃ z, w.alloc (.cells #[V cd, V pl, .slice ra rn rc, .slice ta tn tc] 33) = z := ⟨_, rfl⟩
 have cX : Same w wa := by rw [← cg]; exact kZ0.alloc _
 have dE : wa.heap.size = X + 1 := by rw [← cg, World.size_alloc, aQ]
 rw [aQ, cg] at hA;have zg := Blk.newL wa [V cd, V pl, .slice Cv nz qg, .slice DX BQ CG] 33;obtain ⟨wb, cE⟩ : ∃ z, wa.alloc (.cells #[V cd, V pl, .slice Cv nz qg, .slice DX BQ CG] 33) = z := ⟨_, rfl⟩
 have dD : Same wa wb := by rw [← cE]; exact kZ0.alloc _
 rw [dE, cE] at zg;have HK := hid (cX.trans dD);have HX := hid (hA.same dD);have HY := hid zg;obtain ⟨a0, a1, a2, a3⟩ := HX.out.all4;obtain ⟨b0, b1, b2, b3⟩ := HY.out.all4;have KR := (show Hid (∀ wx, Same w wx → _) from fun wx hx => VR 0 (.slice ra rn rc) (.slice Cv nz qg) ps qs wx hB.rl hr hB.ro (ha.recs.same hx) (hb.recs.same hx));have KT := (show Hid (∀ wx, Same w wx → _) from fun wx hx => Z6 (.slice ta tn tc) (.slice DX BQ CG) ts us wx hB.tl ht hB.tb (ha.tx.same hx) (hb.tx.same hx));have kR := KR.out wb HK.out;clear hA zg cX dD ha hb hr ht hB KR
 go_enter Tryz.func13, Tryz.ntmps13
 go_upto_region 1 with fail
 try rw [cg]
 try rw [cE]
 try rw [aQ]
 try rw [dE]
 clear cg cE aQ dE wa
 go_wp2_with fail
 refine kR.mono ?_;rintro e w1 ⟨rfl, af⟩;have ao := hid (HK.out.trans af);have gk := hid (HX.out.same af);have Gx := hid (HY.out.same af);have kT := KT.out w1 ao.out;clear kR af a0 a1 a2 a3 b0 b1 b2 b3 HX HY KT;obtain ⟨a0, a1, a2, a3⟩ := gk.out.all4;obtain ⟨b0, b1, b2, b3⟩ := Gx.out.all4
 go_wp2_with fail
 refine kT.mono ?_;rintro e w2 ⟨rfl, ae⟩;have ap := hid (ao.out.trans ae);clear kT ae a0 a1 a2 a3 b0 b1 b2 b3;go_wp2;go_ret;exact ⟨rfl, ap.out⟩
theorem jbg (cd pl : Int) (ra : Option Addr) (rn rc : Nat) (ta : Option Addr) (tn tc : Nat) (ps : List EHeapRecord) (ts : List ETx) (k0 : Int) (w : World) (h0 : 0 ≤ k0 ∧ k0 ≤ 1) (hB : PvB ps ts) (ha : OwnPv w (.slice ra rn rc) ps (.slice ta tn tc) ts) :
  Calls Tryz.prog 20 #[.agg #[V cd, V pl, .slice ra rn rc, .slice ta tn tc], V k0] w fun e w' => e = .returned (V (Ug mTx (Ug mHeapRecord k0 ps) ts)) ∧ OwnPv w' (.slice ra rn rc) (Uk mHeapRecord k0 ps) (.slice ta tn tc) (Uk mTx (Ug mHeapRecord k0 ps) ts) ∧ Kept (ZL (.slice ra rn rc) ps (.slice ta tn tc) ts) w w' := by
 have hA := Blk.newL w [V cd, V pl, .slice ra rn rc, .slice ta tn tc] 33;have cX : Same w (w.alloc (.cells #[V cd, V pl, .slice ra rn rc, .slice ta tn tc] 33)) := kZ0.alloc _;obtain ⟨X, aQ⟩ : ∃ X, w.heap.size = X := ⟨_, rfl⟩;rw [aQ] at hA;have hm := hB.mks k0 h0.1 h0.2;have HA := hid ha;have HB := hid hB;have PY := (show Hid (w.heap.size = X) from aQ)
 have gU := (show Hid (∀ b, ZL (.slice ra rn rc) ps (.slice ta tn tc) ts b → b < X) from fun b hb => by
  rcases hb with hb | hb | ⟨t, ht, hb⟩
  ·have := (ha.recs.lt b hb).2; omega
  ·have := (ha.tx.own.lt b (.inl hb)).2; omega
  ·have := ((ha.tx.wr t ht).lt b hb).2; omega)
 clear ha hB;have xW : k0 ≤ Ug mHeapRecord k0 ps := Vu _ _ _;have oA : Ug mHeapRecord k0 ps ≤ Ug mTx (Ug mHeapRecord k0 ps) ts := Vu _ _ _;obtain ⟨c2, cR⟩ : ∃ z, Ug mTx (Ug mHeapRecord k0 ps) ts = z := ⟨_, rfl⟩;obtain ⟨c1, fy⟩ : ∃ z, Ug mHeapRecord k0 ps = z := ⟨_, rfl⟩;rw [cR] at hm oA ⊢;rw [fy] at hm xW oA cR ⊢;have jz := hid fy;have eu := hid cR;clear fy cR
 go_enter Tryz.func20, Tryz.ntmps20
 go_upto_region 1 with fail
 try rw [aQ]
 generalize w.alloc (.cells #[V cd, V pl, .slice ra rn rc, .slice ta tn tc] 33) = w1 at hA cX ⊢;have ao := hid cX;have HX := hid hA;obtain ⟨a0, a1, a2, a3⟩ := hA.all4;have kR := VB 0 (.slice ra rn rc) ps k0 w1 h0.1 (by rw [jz.out]; exact hm.1) HB.out.rl (HA.out.recs.same cX);rw [jz.out] at kR;clear hA cX aQ
 go_wp2_with fail
 refine kR.mono ?_;rintro e w2 ⟨rfl, ho, ae⟩;have vJ := hid ho;have ap := (show Hid (Kept (ZL (.slice ra rn rc) ps (.slice ta tn tc) ts) w w2) from (ao.out.mono (fun _ _ e => e.elim)).trans (ae.mono (fun b _ hb => .inl hb)));have eP := hid (HX.out.kept ae (fun hb => by have := gU.out X (.inl hb); omega));have zI := (show Hid (OwnTx w2 (.slice ta tn tc) ts) from (HA.out.tx.same ao.out).kept ae (fun b hb hf => HA.out.apart b hf hb));clear kR ho ae a0 a1 a2 a3 HX ao;obtain ⟨a0, a1, a2, a3⟩ := eP.out.all4;have kT := Zb (.slice ta tn tc) ts c1 w2 (by omega) (by rw [eu.out]; exact hm.2) HB.out.tl zI.out HB.out.tb;rw [eu.out] at kT
 go_wp2_with fail
 refine kT.mono ?_;rintro e w3 ⟨rfl, ho, ar⟩;have HR := (show Hid (OwnPv w3 (.slice ra rn rc) (Uk mHeapRecord k0 ps) (.slice ta tn tc) (Uk mTx c1 ts) ∧ Kept (ZL (.slice ra rn rc) ps (.slice ta tn tc) ts) w w3) from ⟨⟨vJ.out.kept ar (fun b hb hf => HA.out.apart b (jaQ.1 hb) hf), ho, fun b hb hf => HA.out.apart b (jaQ.1 hb) (jel hf)⟩, ap.out.trans (ar.mono (fun b _ hb => .inr hb))⟩);clear kT ho ar a0 a1 a2 a3;go_wp2;go_ret;exact ⟨rfl, HR.out⟩
theorem YC (cd pl : Int) (ra : Option Addr) (rn rc : Nat) (ta : Option Addr) (tn tc : Nat) (ps : List EHeapRecord) (ts : List ETx) (k0 : Int) (w : World) (h0 : 0 ≤ k0 ∧ k0 ≤ 1) (hB : PvB ps ts) (ha : OwnPv w (.slice ra rn rc) (Uk mHeapRecord k0 ps) (.slice ta tn tc) (Uk mTx (Ug mHeapRecord k0 ps) ts)) :
  Calls Tryz.prog 21 #[.agg #[V cd, V pl, .slice ra rn rc, .slice ta tn tc], V k0] w fun e w' => e = .returned (V (Ug mTx (Ug mHeapRecord k0 ps) ts)) ∧ Same w w' := by
 have hA := Blk.newL w [V cd, V pl, .slice ra rn rc, .slice ta tn tc] 33;have cX : Same w (w.alloc (.cells #[V cd, V pl, .slice ra rn rc, .slice ta tn tc] 33)) := kZ0.alloc _;obtain ⟨X, aQ⟩ : ∃ X, w.heap.size = X := ⟨_, rfl⟩;rw [aQ] at hA;have hm := hB.mks k0 h0.1 h0.2;have HA := hid ha;have HB := hid hB;clear ha hB;have xW : k0 ≤ Ug mHeapRecord k0 ps := Vu _ _ _;have oA : Ug mHeapRecord k0 ps ≤ Ug mTx (Ug mHeapRecord k0 ps) ts := Vu _ _ _;obtain ⟨c2, cR⟩ : ∃ z, Ug mTx (Ug mHeapRecord k0 ps) ts = z := ⟨_, rfl⟩;obtain ⟨c1, fy⟩ : ∃ z, Ug mHeapRecord k0 ps = z := ⟨_, rfl⟩;rw [cR] at hm oA ⊢;rw [fy] at hm xW oA cR HA;have jz := hid fy;have eu := hid cR;clear fy cR
 go_enter Tryz.func21, Tryz.ntmps21
 go_upto_region 1 with fail
 try rw [aQ]
 generalize w.alloc (.cells #[V cd, V pl, .slice ra rn rc, .slice ta tn tc] 33) = w1 at hA cX ⊢;have ao := hid cX;have HX := hid hA;obtain ⟨a0, a1, a2, a3⟩ := hA.all4;have kR := Yq 0 (.slice ra rn rc) ps k0 w1 h0.1 (by rw [jz.out]; exact hm.1) HB.out.rl (HA.out.recs.same cX);rw [jz.out] at kR;have kT := Zc (.slice ta tn tc) ts c1 w1 (by omega) (by rw [eu.out]; exact hm.2) HB.out.tl (HA.out.tx.same cX) HB.out.tb;rw [eu.out] at kT;clear hA cX aQ
 go_wp2_with fail
 refine kR.mono ?_;rintro e w2 ⟨rfl, rfl⟩;clear kR
 go_wp2_with fail
 refine kT.mono ?_;rintro e w3 ⟨rfl, rfl⟩;clear kT a0 a1 a2 a3;go_wp2;go_ret;exact ⟨rfl, ao.out⟩
end Go.Proofs.YtljfcdkhicffcaaGreat
