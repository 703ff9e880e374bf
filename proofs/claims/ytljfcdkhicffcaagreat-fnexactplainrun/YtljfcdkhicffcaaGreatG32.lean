import Derived.Test.YtljfcdkhicffcaaGreatPlY
import Derived.Test.YtljfcdkhicffcaaGreatPmTk
namespace Go.Proofs.YtljfcdkhicffcaaGreat
set_option maxRecDepth 100000
set_option maxHeartbeats 8000000
set_option linter.unusedVariables false
set_option linter.unusedSimpArgs false
open Go Go.RowKit
theorem Kept.toSame {lo : Nat} {w w' : World} (h : Kept (fun b => lo ≤ b) w w') (cN : w.heap.size ≤ lo) : Same w w' := h.mono (fun b hb e => absurd hb (by omega))
def ZH (FB : Bool) (R : Sum Nat PlS) (S : Nat) : jf4 :=
 if FB = true then (2, 0, [], [])
 else match R with
  | .inl i => (1, (i : Int), [], [])
  | .inr st => (0, (S : Int), st.recs, st.txns.map (fun t => (t.1, UG t.2 512)))
def XO (gp gf gl : Int) (recs : List RcD) (ss : List StD) (al : List AnD) : jf4 := ZH (Wi gp gf gl recs ss al.length) (Xm gp ss al (U0 recs) ss.length) ss.length
theorem ZI {gp : Int} {ss : List StD} {al : List AnD} {st : PlS} {i k : Nat} (h : Xm gp ss al st k = .inl i) : ∀ d, Xm gp ss al st (k + d) = .inl i
 | 0 => h
 | d + 1 => by
  show (match Xm gp ss al st (k + d) with | .inl i => _ | .inr cJ => _) = _
  rw [ZI h d]
def nextR (k : Nat) : Option PlS → Sum Nat PlS
 | none => .inl k
 | some s => .inr s
theorem jeK {gp : Int} {ss : List StD} {al : List AnD} {st cJ : PlS} {k : Nat} (h : Xm gp ss al st k = .inr cJ) {s : StD} {a : AnD} (hs : ss.getD k (0, 0, 0, 0, [], []) = s) (ha : al.getD k (0, 0, 0, [], [], 0) = a) : Xm gp ss al st (k + 1) = nextR k (VD gp cJ s a) := by
 show (match Xm gp ss al st k with | .inl i => _ | .inr cJ => _) = _
 rw [h];dsimp only;rw [hs, ha]
 cases VD gp cJ s a <;> rfl
structure RunOk (rs : List EHeapRecord) (ss : List StStep) (zs : List EAn) : Prop where
 recs : OkR (jZ9 rs)
 len : rs.length ≤ 4000000
 data : ∀ s ∈ ss, OkB s.data.bs
 ans : ∀ a ∈ zs, OkB a.db ∧ OkR (jZ9 a.rs) ∧ a.rs.length ≤ 4000000
theorem jc7 {gp : Int} : ∀ {rs : List RcD} {p : Option Int}, VU gp p rs = false → (rs.map (·.1)).Pairwise (· < ·) ∧ (∀ r ∈ rs, 0 ≤ r.1 ∧ r.1 < gp * 32) ∧ ∀ q, p = some q → ∀ r ∈ rs, q < r.1
 | [], p, _ => ⟨List.Pairwise.nil, fun r hr => by simp at hr, fun q _ r hr => by simp at hr⟩
 | x :: xs, p, h => by
  unfold VU at h;simp only [Bool.or_eq_false_iff, decide_eq_false_iff_not] at h;obtain ⟨⟨⟨⟨h1, h2⟩, h3⟩, h4⟩, h5⟩ := h;obtain ⟨i1, i2, i3⟩ := jc7 h5;have i4 := i3 x.1 rfl;refine ⟨?_, fun r hr => ?_, fun q hq r hr => ?_⟩
  ·rw [List.map_cons]
   refine List.pairwise_cons.2 ⟨fun y hy => ?_, i1⟩;obtain ⟨r, hr, rfl⟩ := List.mem_map.1 hy;exact i4 r hr
  ·rcases List.mem_cons.1 hr with rfl | hr
   ·omega
   ·exact i2 r hr
  ·subst hq
   simp only [decide_eq_false_iff_not] at h4
   rcases List.mem_cons.1 hr with rfl | hr
   ·omega
   ·have := i4 r hr
    omega
theorem jaO {gp gf gl : Int} {recs : List RcD} {ss : List StD} {na : Nat} (h : Wi gp gf gl recs ss na = false) : (1 ≤ gp ∧ gp ≤ 16) ∧ ss.length ≤ 400 ∧ na = ss.length ∧ (∀ s ∈ ss, WU s = 0) ∧ (recs.map (·.1)).Pairwise (· < ·) ∧ ∀ r ∈ recs, 0 ≤ r.1 ∧ r.1 < gp * 32 := by
 unfold Wi at h;simp only [Bool.or_eq_false_iff, decide_eq_false_iff_not, List.any_eq_false, decide_eq_true_eq] at h;obtain ⟨⟨⟨⟨h1, h2⟩, h3⟩, h4⟩, h5⟩ := h;obtain ⟨i1, i2, _⟩ := jc7 h5;exact ⟨jem (Classical.not_not.1 h1), by omega, by omega, fun s hs => Classical.not_not.1 (h4 s hs), i1, i2⟩
theorem Ym {s : StD} (h : WU s = 0) : 1 ≤ s.1 ∧ s.1 ≤ 11 := by
 unfold WU TY at h
 split at h
 ·cases h
 ·omega
theorem jeg (gp gf gl : Int) (rv : Value) (rs : List EHeapRecord) (sv : Value) (ss : List StStep) (av : Value) (zs : List EAn) (w : World) (hr : RdR kHeapRecord w rv rs) (hs : RdSp w sv ss) (ha : RdAn w av zs) (bd : RunOk rs ss zs) :
  Calls Tryz.prog 7 #[.agg #[V gp, V gf, V gl], rv, sv, av] w fun e w' => AnsPl w w' e (XO gp gf gl (jZ9 rs) (Um ss) (Uv zs)) := by
 obtain ⟨ra, rc, tC⟩ := hr.form;obtain ⟨sa, sc, wL⟩ := hs.form;obtain ⟨aa, ac, xh⟩ := ha.form;obtain ⟨L, hL⟩ : ∃ n, rs.length = n := ⟨_, rfl⟩;obtain ⟨S, ic⟩ : ∃ n, ss.length = n := ⟨_, rfl⟩;obtain ⟨A, kU⟩ : ∃ n, zs.length = n := ⟨_, rfl⟩;rw [hL] at tC;rw [ic] at wL;rw [kU] at xh;subst tC wL xh;have HR := hid hr;have HS := hid hs;have HA := hid ha;have HL := hid hL;have qL := hid ic;have De := hid kU;have iL := hid bd
 have oy : A ≤ maxLen := by rw [← kU]; exact ha.row.max
 have Bp : S ≤ maxLen := by rw [← ic]; exact hs.row.max
 obtain ⟨FB, rT⟩ : ∃ z, Wi gp gf gl (jZ9 rs) (Um ss) A = z := ⟨_, rfl⟩;obtain ⟨RD, yr⟩ : ∃ z, XO gp gf gl (jZ9 rs) (Um ss) (Uv zs) = z := ⟨_, rfl⟩;rw [yr]
 have eT := (show Hid (RD = ZH FB (Xm gp (Um ss) (Uv zs) (U0 (jZ9 rs)) S) S) from by
  show RD = _
  rw [← yr, ← rT];unfold XO
  rw [Uz, kU, Ul, ic])
 have kF := fun (wx : World) (hx : Same w wx) => jdj gp gf gl _ rs _ ss aa A ac wx (hr.same hx) (hs.same hx) oy;rw [rT] at kF;have Cs := hid rT;have KF := hid kF;have i7 := Blk.newL w [V gp, V gf, V gl] 35;have dx : Same w (w.alloc (.cells #[V gp, V gf, V gl] 35)) := kZ0.alloc _;obtain ⟨GG, lV⟩ : ∃ X, w.heap.size = X := ⟨_, rfl⟩;have qq := Blk.newL (w.alloc (.cells #[V gp, V gf, V gl] 35)) [V 0, V 0, V0, V0] 33;have af : Same (w.alloc (.cells #[V gp, V gf, V gl] 35)) ((w.alloc (.cells #[V gp, V gf, V gl] 35)).alloc (.cells #[V 0, V 0, V0, V0] 33)) := kZ0.alloc _
 have bD : (w.alloc (.cells #[V gp, V gf, V gl] 35)).heap.size = GG + 1 := by rw [World.size_alloc, lV]
 have fo : ((w.alloc (.cells #[V gp, V gf, V gl] 35)).alloc (.cells #[V 0, V 0, V0, V0] 33)).heap.size = GG + 2 := by rw [World.size_alloc, bD]
 rw [lV] at i7;rw [bD] at qq;clear hr hs ha bd hL ic kU yr rT kF
 go_enter Tryz.func7, Tryz.ntmps7
 go_upto_region 1 with fail
 try rw [lV]
 try rw [bD]
 have su := i7.same af;have eR := dx.trans af;generalize (w.alloc (.cells #[V gp, V gf, V gl] 35)).alloc (.cells #[V 0, V 0, V0, V0] 33) = w1 at su qq eR fo ⊢;have HG := hid su;have HZ := hid qq;have ao := hid eR;obtain ⟨g0, g1, g2⟩ := su.all3;obtain ⟨lo, cN⟩ : ∃ lo, GG + 2 = lo := ⟨_, rfl⟩;rw [cN] at fo
 have Tv : GG + 1 < lo := by omega
 have EZ := (show Hid (w.heap.size ≤ lo) from by show w.heap.size ≤ lo; omega);have Bf := (show Hid (w.heap.size ≤ GG) from by show w.heap.size ≤ GG; omega);clear i7 qq su eR dx af bD lV cN;have kF := KF.out w1 ao.out
 go_wp2_with fail
 refine kF.mono ?_;rintro e w2 ⟨rfl, ae⟩;have ap := hid (ao.out.trans ae);have wV := hid (HG.out.same ae);have jq := hid (HZ.out.same ae)
 have kP : lo ≤ w2.heap.size := by have := ae.size; omega
 clear kF KF ae g0 g1 g2 HG HZ ao fo
 have l5 := (show Hid (∀ (wx : World) (cd pl : Int), Same w wx → Blk wx (GG + 1) 33 [V 0, V 0, V0, V0] → (cd, pl, ([] : List RcD), ([] : List (Int × List WrD))) = RD → AnsPl w ((((wx.setCell ⟨GG + 1, 0, none⟩ (V cd)).setCell ⟨GG + 1, 1, none⟩ (V pl)).setCell ⟨GG + 1, 2, none⟩ (V0)).setCell ⟨GG + 1, 3, none⟩ (V0)) (.returned (.agg #[V cd, V pl, V0, V0])) RD) from fun wx cd pl hk hb e => by
  refine ⟨cd, pl, none, 0, 0, [], none, 0, 0, [], rfl, e, OwnPl.nil _ _, ?_⟩;have aM : Kept (fun b => b = GG + 1) wx ((((wx.setCell ⟨GG + 1, 0, none⟩ (V cd)).setCell ⟨GG + 1, 1, none⟩ (V pl)).setCell ⟨GG + 1, 2, none⟩ (V0)).setCell ⟨GG + 1, 3, none⟩ (V0)) := Kept.setCell (R := fun b => b = GG + 1) (Kept.setCell (R := fun b => b = GG + 1) (Kept.setCell (R := fun b => b = GG + 1) (Kept.setCell (R := fun b => b = GG + 1) kZ0 (p := ⟨GG + 1, 0, none⟩) (.inr rfl) _) (p := ⟨GG + 1, 1, none⟩) (.inr rfl) _) (p := ⟨GG + 1, 2, none⟩) (.inr rfl) _) (p := ⟨GG + 1, 3, none⟩) (.inr rfl) _
  exact hk.next aM (fun i hi e => by have := Bf.out; omega))
 cases FB
 case true =>
  have kK := hid (l5.out w2 2 0 ap.out jq.out (by rw [eT.out]; rfl));obtain ⟨z0, z1, z2, z3⟩ := jq.out.all4;have fz := jq.out.frozen;go_wp2;exact bodyPost_ret (v := .agg #[V 2, V 0, V0, V0]) (by simp [results, Tryz.results7, go_sem, z0, z1, z2, z3]) rfl kK.out
 have gB := (show Hid (RD = ZH false (Xm gp (Um ss) (Uv zs) (U0 (jZ9 rs)) S) S) from eT.out);have ct := jaO Cs.out;have gH := hid ct.1
 have Ed : S ≤ 400 := by have := ct.2.1; rw [Ul, qL.out] at this; exact this
 have I8 : S = A := by have := ct.2.2.1; rw [Ul, qL.out] at this; exact this.symm
 subst I8;have jO := hid ct.2.2.2.1;have iH := (show Hid (OkS gp 0 (U0 (jZ9 rs))) from OkS.start ct.2.2.2.2.1 ct.2.2.2.2.2 iL.out.recs);clear ct Cs eT
 go_wp2_with fail
 refine TT (fun wx : World => wx.cell? ⟨GG, 0, none⟩ = some (V gp) ∧ wx.cell? ⟨GG, 1, none⟩ = some (V gf) ∧ wx.cell? ⟨GG, 2, none⟩ = some (V gl)) 99 6 rfl (by kernel_rfl) ?_;have ar : Same w2 (World.drew w2) := kZ0.drew;generalize World.drew w2 = w3 at ar ⊢;have ax := hid (ap.out.trans ar);have gK := hid (wV.out.same ar);have rY := hid (jq.out.same ar)
 have mr : lo ≤ w3.heap.size := by have := ar.size; omega
 clear ar ap wV jq kP;have hS : (fun wx : World => wx.cell? ⟨GG, 0, none⟩ = some (V gp) ∧ wx.cell? ⟨GG, 1, none⟩ = some (V gf) ∧ wx.cell? ⟨GG, 2, none⟩ = some (V gl)) w3 := ⟨gK.out.cell 0, gK.out.cell 1, gK.out.cell 2⟩;refine tk 0 19 hS ?_;refine tk 1 20 hS ?_;refine o1Q 2 (fun Kc ak => ?_);go_simp;refine (YM _ rs w3 iL.out.len (fun p hp => by have := (iL.out.recs.of rfl p hp).2; omega) (HR.out.same ax.out)).mono ?_;rintro e w4 ⟨ca, cn, cc, qs, rfl, ML, hU⟩;have NG := hid ML;have HU := hid hU;have aR := hid (ax.out.trans hU.same);have mI := hid (gK.out.same hU.same);have mg := hid (rY.out.same hU.same)
 have sC : lo ≤ w4.heap.size := by have := hU.same.size; omega
 clear ML hU hS ax gK rY;have hS : (fun wx : World => wx.cell? ⟨GG, 0, none⟩ = some (V gp) ∧ wx.cell? ⟨GG, 1, none⟩ = some (V gf) ∧ wx.cell? ⟨GG, 2, none⟩ = some (V gl)) w4 := ⟨mI.out.cell 0, mI.out.cell 1, mI.out.cell 2⟩
 go_wp2_with fail
 refine ak.out _ _ (fun _ => hS) ?_;clear ak Kc
 try simp only [Act.put, sA, s0, sS]
 refine tkV 3 22 (.agg #[V gp, V gf, V gl, .bool false, .slice ca cn cc, V0, V0, V 0, .bool false, V0]) hS ?_;refine o1Q 4 (fun Kc ak => ?_);go_simp;have Fy := Blk.newL w4 [V gp, V gf, V gl, .bool false, .slice ca cn cc, V0, V0, V 0, .bool false, V0] 69;have aP : Same w4 (w4.alloc (.cells #[V gp, V gf, V gl, .bool false, .slice ca cn cc, V0, V0, V 0, .bool false, V0] 69)) := kZ0.alloc _;obtain ⟨M, IU⟩ : ∃ M, w4.heap.size = M := ⟨_, rfl⟩;rw [IU] at Fy
 try rw [IU]
 generalize w4.alloc (.cells #[V gp, V gf, V gl, .bool false, .slice ca cn cc, V0, V0, V 0, .bool false, V0] 69) = w5 at Fy aP ⊢
 have bL := (show Hid (SpS w5 lo M gp gf gl (U0 (jZ9 rs))) from by
  refine ⟨_, qs, _, [], none, 0, 0, [], false, _, [], Fy, ⟨HU.out.own.same aP, ⟨rfl, .inl ⟨rfl, rfl⟩⟩, fun t ht => by simp at ht, by simp, ⟨rfl, .inl ⟨rfl, rfl⟩⟩, OwW.nil _ _, fun t ht => by simp at ht, fun b hb => ?_, fun b hb => by simp [Value.ownBlock] at hb, fun t ht => by simp at ht⟩, by omega, NG.out, rfl, rfl, rfl, fun _ => rfl⟩;have := HU.out.foot b hb
  omega)
 have aH := hid (aR.out.trans aP);have iy := hid (mg.out.same aP);have dA := hid (mI.out.same aP)
 have jr : lo ≤ w5.heap.size := by have := aP.size; omega
 clear hS HU NG Fy aP mI aR mg IU sC mr;have hS : (fun wx : World => wx.cell? ⟨GG, 0, none⟩ = some (V gp) ∧ wx.cell? ⟨GG, 1, none⟩ = some (V gf) ∧ wx.cell? ⟨GG, 2, none⟩ = some (V gl)) w5 := ⟨dA.out.cell 0, dA.out.cell 1, dA.out.cell 2⟩;refine ak.out _ _ (fun _ => hS) ?_;clear ak Kc
 try simp only [Act.put, sA, s0, sS]
 refine tk 5 9 hS ?_;refine TS (by kernel_rfl) ?_
 try simp only [Act.put, sA, s0, sS]
 clear hS dA
 go_wp2_with fail
 go_loopw [10] (fun i wr => ∃ (j : Nat) (st : PlS), j ≤ S ∧ i = V j ∧ Hid (Xm gp (Um ss) (Uv zs) (U0 (jZ9 rs)) j = .inr st) ∧ Hid (SpS wr lo M gp gf gl st) ∧ Hid (OkS gp j st) ∧ Hid (Same w wr) ∧ Hid (Blk wr (GG + 1) 33 [V 0, V 0, V0, V0]) ∧ Hid (lo ≤ wr.heap.size)) (fun i _ => S - (intOf i).toNat)
 case atStart => exact ⟨0, _, Nat.zero_le _, rfl, rfl, bL, iH, aH, iy, jr⟩
 case round =>
  clear bL iH aH iy jr;obtain ⟨j, st, hj, rfl, qe, bL, HO, HK, HZ, gy⟩ := hrel
  by_cases aG : j < S
  case pos =>
   have h1 : j < ss.length := by rw [qL.out]; exact aG
   have h2 : j < zs.length := by rw [De.out]; exact aG
   rcases HS.out.row.row with ⟨h, _⟩ | ⟨b, off, c, he, hc⟩
   ·rw [h] at h1; simp at h1
   injection he with e1 e2 e3
   subst e1 e3
   rcases HA.out.row.row with ⟨h, _⟩ | ⟨b2, aL, c2, jF, cR⟩
   ·rw [h] at h2; simp at h2
   injection jF with f1 f2 f3
   subst f1 f3;have cD := fun i (hi : i < 6) => hc j i h1 hi;have eW := fun i (hi : i < 6) => cR j i h2 hi;have jU := HS.out.data ss[j] (List.getElem_mem h1);have iD := HA.out.row.data zs[j] (List.getElem_mem h2);have iz := HA.out.recs zs[j] (List.getElem_mem h2);have jj := iL.out.data ss[j] (List.getElem_mem h1);have fv := iL.out.ans zs[j] (List.getElem_mem h2);have rS := hid (jeK qe.out (s := ss[j].dat) (a := zs[j].dat) (by rw [List.getD_eq_getElem?_getD, List.getElem?_eq_getElem (by rw [Ul]; exact h1)]; simp [Um]) (by rw [List.getD_eq_getElem?_getD, List.getElem?_eq_getElem (by rw [Uz]; exact h2)]; simp [Uv]));have dN := Ym (jO.out ss[j].dat (List.mem_map_of_mem (List.getElem_mem h1)));generalize ss[j] = sj at cD jU jj rS dN;generalize zs[j] = aj at eW iD iz fv rS;obtain ⟨kd, stx, ah, cnt, ⟨de, da, dc, db⟩, ⟨ke, ka, kn, kc, kb⟩⟩ := sj;obtain ⟨bW, bC, cI, JN, lw, Il, ll, bY⟩ := aj;obtain ⟨jK, adc, nr⟩ := iD.form;have G4 : JN = .slice jK lw.length adc := nr;clear nr;subst G4;obtain ⟨jA, jD, o7⟩ := iz.form;have Kj : Il = .slice jA ll.length jD := o7;clear o7;subst Kj;obtain ⟨dn, dM⟩ : ∃ n, db.length = n := ⟨_, rfl⟩;obtain ⟨lI, je⟩ : ∃ n, lw.length = n := ⟨_, rfl⟩;obtain ⟨lA, jP⟩ : ∃ n, ll.length = n := ⟨_, rfl⟩
   have cH := (show Hid (∀ wx : World, Same w wx → wx.cell? ⟨b, off + j * 6, none⟩ = some (V kd) ∧ wx.cell? ⟨b, off + j * 6 + 1, none⟩ = some (V stx) ∧ wx.cell? ⟨b, off + j * 6 + 2, none⟩ = some (V ah) ∧ wx.cell? ⟨b, off + j * 6 + 3, none⟩ = some (V cnt) ∧ wx.cell? ⟨b, off + j * 6 + 4, none⟩ = some (.slice da dn dc) ∧ wx.cell? ⟨b, off + j * 6 + 5, none⟩ = some (.slice ka kn kc) ∧ wx.cell? ⟨b2, aL + j * 6, none⟩ = some (V bW) ∧ wx.cell? ⟨b2, aL + j * 6 + 1, none⟩ = some (V bC) ∧ wx.cell? ⟨b2, aL + j * 6 + 2, none⟩ = some (V cI) ∧ wx.cell? ⟨b2, aL + j * 6 + 3, none⟩ = some (.slice jK lI adc) ∧ wx.cell? ⟨b2, aL + j * 6 + 4, none⟩ = some (.slice jA lA jD) ∧ wx.cell? ⟨b2, aL + j * 6 + 5, none⟩ = some (V bY)) from fun wx hx => by
    have g : ∀ {q : Addr} {v : Value}, w.cell? q = some v → wx.cell? q = some v := fun h => hx.cellOf h (fun e => e);rw [← dM, ← je, ← jP]
    exact ⟨g (cD 0 (by decide)), g (cD 1 (by decide)), g (cD 2 (by decide)), g (cD 3 (by decide)), g (cD 4 (by decide)), g (cD 5 (by decide)), g (eW 0 (by decide)), g (eW 1 (by decide)), g (eW 2 (by decide)), g (eW 3 (by decide)), g (eW 4 (by decide)), g (eW 5 (by decide))⟩)
   have qW := (show Hid (∀ wx, Kept (fun b => lo ≤ b) wr wx → Same w wx) from fun wx hk => HK.out.next hk (fun i hi e => by have := EZ.out; omega))
   have kS := fun (wx : World) (hx : Same wr wx) => jd5 lo M gp gf gl st j kd stx ah cnt da dn dc ka kn kc db kb bW bC cI jK lI adc jA lA jD bY lw ll wx (bL.out.same hx) (by have := hx.size; have := gy.out; omega) ⟨by have := gH.out.1; omega, gH.out.2⟩ (by omega) HO.out dM
    (fun w' hk => by rw [← dM]; exact jU.1.same (qW.out w' ((SpK.same (lo := lo) hx).2.trans hk))) jj je (fun w' hk => by rw [← je]; exact iD.same (qW.out w' ((SpK.same (lo := lo) hx).2.trans hk))) fv.1 (fun w' hk => by rw [← jP]; exact iz.same (qW.out w' ((SpK.same (lo := lo) hx).2.trans hk))) fv.2.1 fv.2.2 dN
   have Cl := (show Hid (∀ cJ, VD gp st (kd, stx, ah, cnt, db, kb) (bW, bC, cI, lw, jZ9 ll, bY) = some cJ → OkS gp (j + 1) cJ) from fun cJ e => HO.out.step ⟨by have := gH.out.1; omega, gH.out.2⟩ (by omega) jj fv.2.1 e);obtain ⟨RP, bS⟩ : ∃ z, VD gp st (kd, stx, ah, cnt, db, kb) (bW, bC, cI, lw, jZ9 ll, bY) = z := ⟨_, rfl⟩;rw [bS] at kS Cl
   have ow := (show Hid (Xm gp (Um ss) (Uv zs) (U0 (jZ9 rs)) (j + 1) = nextR j RP) from by
    have h := rS.out;dsimp only [StStep.dat, EAn.dat] at h;rw [bS] at h
    exact h)
   have KS := hid kS;clear kS bS cD eW jU iD iz jj fv rS hc cR e2 f2 dN dM je jP bL HO
   go_wp2_with fail
   refine TT (fun wx : World => wx.cell? ⟨b, off + j * 6, none⟩ = some (V kd) ∧ wx.cell? ⟨b, off + j * 6 + 1, none⟩ = some (V stx) ∧ wx.cell? ⟨b, off + j * 6 + 2, none⟩ = some (V ah) ∧ wx.cell? ⟨b, off + j * 6 + 3, none⟩ = some (V cnt) ∧ wx.cell? ⟨b, off + j * 6 + 4, none⟩ = some (.slice da dn dc) ∧ wx.cell? ⟨b, off + j * 6 + 5, none⟩ = some (.slice ka kn kc) ∧ wx.cell? ⟨b2, aL + j * 6, none⟩ = some (V bW) ∧ wx.cell? ⟨b2, aL + j * 6 + 1, none⟩ = some (V bC) ∧ wx.cell? ⟨b2, aL + j * 6 + 2, none⟩ = some (V cI) ∧ wx.cell? ⟨b2, aL + j * 6 + 3, none⟩ = some (.slice jK lI adc) ∧ wx.cell? ⟨b2, aL + j * 6 + 4, none⟩ = some (.slice jA lA jD) ∧ wx.cell? ⟨b2, aL + j * 6 + 5, none⟩ = some (V bY)) 99 11 rfl (by kernel_rfl) ?_;have ar : Same wr (World.drew wr) := kZ0.drew;generalize World.drew wr = w3 at ar ⊢;have ax := hid ar;clear ar;have hS : (fun wx : World => wx.cell? ⟨b, off + j * 6, none⟩ = some (V kd) ∧ wx.cell? ⟨b, off + j * 6 + 1, none⟩ = some (V stx) ∧ wx.cell? ⟨b, off + j * 6 + 2, none⟩ = some (V ah) ∧ wx.cell? ⟨b, off + j * 6 + 3, none⟩ = some (V cnt) ∧ wx.cell? ⟨b, off + j * 6 + 4, none⟩ = some (.slice da dn dc) ∧ wx.cell? ⟨b, off + j * 6 + 5, none⟩ = some (.slice ka kn kc) ∧ wx.cell? ⟨b2, aL + j * 6, none⟩ = some (V bW) ∧ wx.cell? ⟨b2, aL + j * 6 + 1, none⟩ = some (V bC) ∧ wx.cell? ⟨b2, aL + j * 6 + 2, none⟩ = some (V cI) ∧ wx.cell? ⟨b2, aL + j * 6 + 3, none⟩ = some (.slice jK lI adc) ∧ wx.cell? ⟨b2, aL + j * 6 + 4, none⟩ = some (.slice jA lA jD) ∧ wx.cell? ⟨b2, aL + j * 6 + 5, none⟩ = some (V bY)) w3 := cH.out w3 (HK.out.trans ax.out);refine tk 0 30 hS ?_;refine tk 1 31 hS ?_;refine tk 2 32 hS ?_;refine tk 3 33 hS ?_;refine tk 4 34 hS ?_;refine tk 5 35 hS ?_;refine tk 6 36 hS ?_;refine tk 7 37 hS ?_;refine tk 8 38 hS ?_;refine o1Q 9 (fun Kc ak => ?_);go_simp;refine (KS.out w3 ax.out).mono ?_;rintro e w4 ⟨rfl, jN, aM⟩;have mF := hid jN;have aR := (show Hid (Kept (fun b => lo ≤ b) wr w4) from (SpK.same (lo := lo) ax.out).2.trans aM.2);have mJ := hid (qW.out w4 aR.out);have mg := hid (HZ.out.kept aR.out (by omega));have ru := (show Hid (lo ≤ w4.heap.size) from by have := aR.out.size; have := gy.out; show lo ≤ w4.heap.size; omega);clear jN aM hS KS ax HZ gy HK qW;have hS : (fun wx : World => wx.cell? ⟨b, off + j * 6, none⟩ = some (V kd) ∧ wx.cell? ⟨b, off + j * 6 + 1, none⟩ = some (V stx) ∧ wx.cell? ⟨b, off + j * 6 + 2, none⟩ = some (V ah) ∧ wx.cell? ⟨b, off + j * 6 + 3, none⟩ = some (V cnt) ∧ wx.cell? ⟨b, off + j * 6 + 4, none⟩ = some (.slice da dn dc) ∧ wx.cell? ⟨b, off + j * 6 + 5, none⟩ = some (.slice ka kn kc) ∧ wx.cell? ⟨b2, aL + j * 6, none⟩ = some (V bW) ∧ wx.cell? ⟨b2, aL + j * 6 + 1, none⟩ = some (V bC) ∧ wx.cell? ⟨b2, aL + j * 6 + 2, none⟩ = some (V cI) ∧ wx.cell? ⟨b2, aL + j * 6 + 3, none⟩ = some (.slice jK lI adc) ∧ wx.cell? ⟨b2, aL + j * 6 + 4, none⟩ = some (.slice jA lA jD) ∧ wx.cell? ⟨b2, aL + j * 6 + 5, none⟩ = some (V bY)) w4 := cH.out w4 mJ.out
   go_wp2_with fail
   refine ak.out _ _ (fun _ => hS) ?_;clear ak Kc
   try simp only [Act.put, sA, s0, sS]
   cases RP
   case none =>
    refine tkV 10 40 (.bool true) hS ?_;refine TS (by kernel_rfl) ?_
    try simp only [Act.put, sA, s0, sS]
    clear hS cH
    have kK := hid (l5.out w4 1 j mJ.out mg.out (by
     rw [gB.out];have h := ZI ow.out (S - (j + 1));rw [show j + 1 + (S - (j + 1)) = S by omega] at h;rw [h]
     rfl))
    obtain ⟨z0, z1, z2, z3⟩ := mg.out.all4;have fz := mg.out.frozen;go_wp2;exact bodyPost_ret (v := .agg #[V 1, V j, V0, V0]) (by simp [results, Tryz.results7, go_sem, z0, z1, z2, z3]) rfl kK.out
   case some st2 =>
    refine tkV 10 40 (.bool false) hS ?_;refine TS (by kernel_rfl) ?_
    try simp only [Act.put, sA, s0, sS]
    clear hS cH;go_wp2;go_roundw
    case rel => exact ⟨j + 1, st2, by omega, by go_num, ow, mF.out st2 rfl, Cl.out st2 rfl, mJ, mg, ru⟩
    case measure => simp [intOf]; omega
  obtain rfl : S = j := by omega
  obtain ⟨w4, dX⟩ : ∃ x, x = wr := ⟨_, rfl⟩;subst dX
  have HD := (show Hid ((0, (S : Int), st.recs, st.txns.map (fun t => (t.1, UG t.2 512))) = RD) from by
   show _ = RD
   rw [gB.out, qe.out]
   rfl)
  obtain ⟨rv, qs, tv, ts, la, ln, lc, ls, hc, cv, cs, hb, hn, cO, e1, e2, e3, e4, e5⟩ := bL.out;have HE := (show Hid (jZ9 qs = st.recs ∧ Uo ts = st.txns) from ⟨e1, e2⟩);obtain ⟨qa, qc, LI⟩ := hn.recs.rd.form;obtain ⟨qn, uq⟩ : ∃ n, qs.length = n := ⟨_, rfl⟩;rw [uq] at LI;subst LI;obtain ⟨ta, tc, Cb⟩ := (YN hn.trow).form;obtain ⟨tn, yt⟩ : ∃ n, ts.length = n := ⟨_, rfl⟩;rw [yt] at Cb;subst Cb;have rV := hid yt
  have Si : tn ≤ 8 := by have := HO.out.n8; rw [← e2] at this; simpa [Uo, yt] using this
  have HB := hid hb;have HN := hid hn;have m4 := Blk.cell hb 4;simp only [List.getElem?_cons_zero, List.getElem?_cons_succ] at m4;have S5 := (show Hid (M < w4.heap.size) from Blk.lt hb);have wj := Blk.newL w4 [V 0, V S, .slice qa qn qc, V0] 33;have aP : Same w4 (w4.alloc (.cells #[V 0, V S, .slice qa qn qc, V0] 33)) := kZ0.alloc _;obtain ⟨Z2, Ko⟩ : ∃ X, w4.heap.size = X := ⟨_, rfl⟩;rw [Ko] at wj;clear hb hn e1 e2 e3 e4 e5 bL uq yt gB qe
  go_upto_region 10 with fail
  try rw [Ko]
  generalize w4.alloc (.cells #[V 0, V S, .slice qa qn qc, V0] 33) = w5 at wj aP ⊢;have iy := hid wj;have js := hid (UwT.nil w4 w5 aP);have R5 := (show Hid (w4.heap.size ≤ Z2) from by show w4.heap.size ≤ Z2; omega);clear wj aP Ko m4
  go_wp2_with fail
  go_loopw [12] (fun i wr => ∃ (k : Nat) (ua : Option Addr) (un uc : Nat) (us : List ETx), k ≤ tn ∧ i = V k ∧ Hid (Blk wr Z2 33 [V 0, V S, .slice qa qn qc, .slice ua un uc]) ∧ Hid (UwT w4 wr (.slice ua un uc) us) ∧ Hid (Uo us = (st.txns.take k).map (fun t => (t.1, UG t.2 512)))) (fun i _ => tn - (intOf i).toNat)
  case atStart => exact ⟨0, none, 0, 0, [], Nat.zero_le _, rfl, iy, js, rfl⟩
  case round =>
   clear iy js;obtain ⟨k, ua, un, uc, us, hk, rfl, AE, HU, Hc⟩ := hrel;have eF := hid (Blk.same HB.out HU.out.same);have kg := hid (HN.out.same HU.out.same);have m5 := Blk.cell eF.out 5;simp only [List.getElem?_cons_zero, List.getElem?_cons_succ] at m5
   by_cases gu : k < tn
   case neg =>
    obtain rfl : tn = k := by omega
    have Hj := (show Hid (Uo us = st.txns.map (fun t => (t.1, UG t.2 512))) from by
     show Uo us = _
     rw [Hc.out, List.take_of_length_le (by rw [← HE.out.2]; simp [Uo]; exact Nat.le_of_eq rV.out)])
    have lT := hid (HZ.out.same HU.out.same);obtain ⟨z0, z1, z2, z3⟩ := lT.out.all4;have fz := lT.out.frozen;obtain ⟨y0, y1, y2, y3⟩ := AE.out.all4
    have kK := (show Hid (AnsPl w ((((wr.setCell ⟨GG + 1, 0, none⟩ (V 0)).setCell ⟨GG + 1, 1, none⟩ (V S)).setCell ⟨GG + 1, 2, none⟩ (.slice qa qn qc)).setCell ⟨GG + 1, 3, none⟩ (.slice ua un uc)) (.returned (.agg #[V 0, V S, .slice qa qn qc, .slice ua un uc])) RD) from by
     have aM : Kept (fun b => b = GG + 1) wr ((((wr.setCell ⟨GG + 1, 0, none⟩ (V 0)).setCell ⟨GG + 1, 1, none⟩ (V S)).setCell ⟨GG + 1, 2, none⟩ (.slice qa qn qc)).setCell ⟨GG + 1, 3, none⟩ (.slice ua un uc)) := Kept.setCell (R := fun b => b = GG + 1) (Kept.setCell (R := fun b => b = GG + 1) (Kept.setCell (R := fun b => b = GG + 1) (Kept.setCell (R := fun b => b = GG + 1) kZ0 (p := ⟨GG + 1, 0, none⟩) (.inr rfl) _) (p := ⟨GG + 1, 1, none⟩) (.inr rfl) _) (p := ⟨GG + 1, 2, none⟩) (.inr rfl) _) (p := ⟨GG + 1, 3, none⟩) (.inr rfl) _;refine ⟨0, S, qa, qn, qc, qs, ua, un, uc, us, rfl, by rw [HE.out.1, Hj.out]; exact HD.out, ?_, (HK.out.trans HU.out.same).next aM (fun i hi e => by have := Bf.out; omega)⟩;have hU := HU.out;refine ⟨kg.out.recs.kept aM (fun b hf e2 => ?_), aM.owns hU.row (Un lT.out hU.row (by decide)), fun t ht => (hU.wr t ht).kept aM (fun b hf e2 => ?_), hU.each, fun b hb t ht hf => ?_, fun b hb => ?_, fun b hb => ?_⟩
     ·rcases hf with hf | ⟨p, hp, hf⟩
      ·exact Un lT.out kg.out.recs.row (by decide) b hf e2
      ·exact Un lT.out (kg.out.recs.data p hp) (by decide) b hf e2
     ·rcases hf with hf | ⟨p, hp, hf⟩
      ·exact Un lT.out (hU.wr t ht).row (by decide) b hf e2
      ·exact Un lT.out ((hU.wr t ht).data p hp) (by decide) b hf e2
     ·have h3 := (HN.out.recs.lt b hb).2
      have h4 := hU.foot b (.inr ⟨t, ht, hf⟩);omega
     ·have := HN.out.loR b hb
      have := EZ.out;omega
     ·have := hU.foot b hb
      have := HK.out.size
      omega)
    go_wp2;exact bodyPost_ret (v := .agg #[V 0, V S, .slice qa qn qc, .slice ua un uc]) (by simp [results, Tryz.results7, go_sem, z0, z1, z2, z3]) rfl kK.out
   have ae : k < ts.length := by rw [rV.out]; exact gu
   obtain ⟨tb, rfl⟩ : ∃ tb, ta = some ⟨tb, 0, none⟩ := by
    rcases HN.out.trow.2 with ⟨e, h1⟩ | ⟨g, _, _, e, _⟩
    ·omega
    ·injection e with e e2 _
     exact ⟨g, e⟩
   obtain ⟨nf, zC⟩ : ∃ x, ts[k].id = x := ⟨_, rfl⟩;obtain ⟨Av, xU⟩ : ∃ x, ts[k].ps = x := ⟨_, rfl⟩
   obtain ⟨wa, wn, wc, cC⟩ : ∃ wa wn wc, ts[k].v = .slice wa wn wc := by
    obtain ⟨a, c, e⟩ := (HN.out.wr ts[k] (List.getElem_mem ae)).form;exact ⟨a, _, c, e⟩
   have tL := (show Hid (OwW Gs w4 (.slice wa wn wc) Av) from by rw [← cC, ← xU]; exact HN.out.wr ts[k] (List.getElem_mem ae))
   have Fh : k < st.txns.length := by rw [← HE.out.2]; simp [Uo]; exact ae
   have fZ := (show Hid (st.txns[k] = (nf, TU Av)) from by
    have h1 : st.txns = ts.map ETx.dat := HE.out.2.symm;simp only [h1, List.getElem_map];rw [← zC, ← xU]
    rfl)
   have uR := hid (HO.out.okw st.txns[k] (List.getElem_mem Fh))
   have az : Av.length ≤ 4000000 := by have := uR.out.len; rw [fZ.out] at this; simp [TU] at this; omega
   have bD : ∀ p ∈ Av, p.bs.length ≤ 1099511627776 := fun p hp => by
    have h := uR.out.ok;rw [fZ.out] at h;have := (h.of rfl p hp).2;omega
   have cH := (show Hid (∀ wy, Same w4 wy → wy.cell? ⟨M, 5, none⟩ = some (Q4 tb tn tc) ∧ wy.cell? ⟨tb, k * 2, none⟩ = some (V nf) ∧ wy.cell? ⟨tb, k * 2 + 1, none⟩ = some (.slice wa wn wc)) from fun wy hy => by
    have h := HN.out.same hy;refine ⟨Blk.cell (Blk.same HB.out hy) 5, ?_, ?_⟩
    ·rw [← zC]; exact VE (K := kTx) h.trow k 0 ae (by decide)
    ·rw [← cC]; exact VE (K := kTx) h.trow k 1 ae (by decide))
   have Q6 := (show Hid (∀ v J1, TU J1 = UG (TU Av) 512 → Uo (us ++ [⟨nf, v, J1⟩]) = (st.txns.take (k + 1)).map (fun t => (t.1, UG t.2 512))) from fun v J1 e => by
    rw [List.take_succ_eq_append_getElem Fh, List.map_append, ← Hc.out, fZ.out]
    simp [Uo, ETx.dat, e])
   have Sm := (show Hid (us.length = k) from by
    have h := congrArg List.length Hc.out;simp only [Uo, List.length_map, List.length_take] at h
    show us.length = k
    omega)
   have Qa : (k : Int) < (tn : Int) := by omega
   clear zC xU cC eF kg m5 uR;have m5 := (cH.out wr HU.out.same).1
   go_wp2_with fail
   refine TT (fun wx : World => wx.cell? ⟨Z2, 3, none⟩ = some (.slice ua un uc) ∧ wx.cell? ⟨M, 5, none⟩ = some (Q4 tb tn tc) ∧ wx.cell? ⟨tb, k * 2, none⟩ = some (V nf) ∧ wx.cell? ⟨tb, k * 2 + 1, none⟩ = some (.slice wa wn wc)) 23 24 rfl (by kernel_rfl) ?_;have bN : Same wr (World.drew wr) := kZ0.drew;generalize World.drew wr = w7 at bN ⊢;have Aj := hid (HU.out.on bN);have lT := hid (AE.out.same bN);clear bN HU AE m5;have hS : (fun wx : World => wx.cell? ⟨Z2, 3, none⟩ = some (.slice ua un uc) ∧ wx.cell? ⟨M, 5, none⟩ = some (Q4 tb tn tc) ∧ wx.cell? ⟨tb, k * 2, none⟩ = some (V nf) ∧ wx.cell? ⟨tb, k * 2 + 1, none⟩ = some (.slice wa wn wc)) w7 := ⟨lT.out.cell 3, cH.out w7 Aj.out.same⟩;refine tk 0 59 hS ?_;refine tk 1 60 hS ?_;refine tk 2 61 hS ?_;refine tk 3 62 hS ?_;refine tk 4 63 hS ?_;refine tk 5 64 hS ?_;refine tk 6 65 hS ?_;refine tk 7 66 hS ?_;refine tk 8 67 hS ?_;refine tk 9 68 hS ?_;refine tk 10 69 hS ?_;refine tk 11 70 hS ?_;refine tk 12 71 hS ?_;refine tk 13 72 hS ?_;refine tk 14 73 hS ?_;refine tk 15 74 hS ?_;refine tk 16 75 hS ?_;refine tk 17 76 hS ?_;refine o1Q 18 (fun Kc ak => ?_);go_simp;refine (jdI (.slice wa wn wc) Av w7 az bD (tL.out.same Aj.out.same).rd).mono ?_;rintro e w8 ⟨Ch, E7, EN, Ov, rfl, N2, BU⟩;have R8 := hid (Q6.out (.slice Ch E7 EN) Ov N2);have NK := hid BU.foot;have vY := hid BU.own;have sk := hid (Aj.out.on BU.same);have lC := hid (lT.out.same BU.same);have Pz : w4.heap.size ≤ w7.heap.size := Aj.out.same.size;have gU := (show Hid (∀ b, ∀ x ∈ us, Uc kWr x.v x.ps b → b < w7.heap.size) from fun b x hx hb => ((Aj.out.wr x hx).lt b hb).2);clear N2 BU hS Aj lT;have hS : (fun wx : World => wx.cell? ⟨Z2, 3, none⟩ = some (.slice ua un uc) ∧ wx.cell? ⟨M, 5, none⟩ = some (Q4 tb tn tc) ∧ wx.cell? ⟨tb, k * 2, none⟩ = some (V nf) ∧ wx.cell? ⟨tb, k * 2 + 1, none⟩ = some (.slice wa wn wc)) w8 := ⟨lC.out.cell 3, cH.out w8 sk.out.same⟩
   go_wp2_with fail
   refine ak.out _ _ (fun _ => hS) ?_;clear ak Kc
   try simp only [Act.put, sA, s0, sS]
   refine tk 19 78 hS ?_;refine o1Q 20 (fun Kc ak => ?_);go_simp;have sB := Blk.newL w8 [V nf, .slice Ch E7 EN] 78;have eZ : Same w8 (w8.alloc (.cells #[V nf, .slice Ch E7 EN] 78)) := kZ0.alloc _;obtain ⟨Y, hY⟩ : ∃ Y, w8.heap.size = Y := ⟨_, rfl⟩;rw [hY] at sB
   try rw [hY]
   generalize w8.alloc (.cells #[V nf, .slice Ch E7 EN] 78) = w9 at sB eZ ⊢;have iM := hid sB;have qp := hid (sk.out.on eZ);have zu := hid (lC.out.same eZ);have B6 := hid (vY.out.same eZ);clear sB eZ hY hS sk lC vY;have hS : (fun wx : World => wx.cell? ⟨Z2, 3, none⟩ = some (.slice ua un uc) ∧ wx.cell? ⟨M, 5, none⟩ = some (Q4 tb tn tc) ∧ wx.cell? ⟨tb, k * 2, none⟩ = some (V nf) ∧ wx.cell? ⟨tb, k * 2 + 1, none⟩ = some (.slice wa wn wc)) w9 := ⟨zu.out.cell 3, cH.out w9 qp.out.same⟩;refine ak.out _ _ (fun _ => hS) ?_;clear ak Kc
   try simp only [Act.put, sA, s0, sS]
   refine o1Q 21 (fun Kc ak => ?_);refine jbo rfl (.tmp 60) (.tmp 79) (by rfl) (t := ⟨nf, .slice Ch E7 EN, Ov⟩) (by rfl) (by rfl) iM.out rfl qp.out B6.out (fun b hb => ⟨by have := NK.out b hb; omega, fun x hx hf => by have := NK.out b hb; have := gU.out b x hx hf; omega⟩) (by rw [Sm.out]; omega) ?_;intro gF cF dQ Bt IR pA;have zR := hid Bt;have mC := hid (zu.out.kept pA (fun e => Un zu.out qp.out.row (by decide) Z2 e rfl));clear Bt IR pA hS qp zu B6 iM;have hS : (fun wx : World => wx.cell? ⟨Z2, 3, none⟩ = some (.slice ua un uc) ∧ wx.cell? ⟨M, 5, none⟩ = some (Q4 tb tn tc) ∧ wx.cell? ⟨tb, k * 2, none⟩ = some (V nf) ∧ wx.cell? ⟨tb, k * 2 + 1, none⟩ = some (.slice wa wn wc)) dQ := ⟨mC.out.cell 3, cH.out dQ zR.out.same⟩;refine ak.out _ _ (fun _ => hS) ?_;clear ak Kc
   try simp only [List.getElem_toArray, List.getElem_cons_succ, List.getElem_cons_zero]
   try simp only [Act.put, sA, s0, sS]
   have c3 := mC.out.cell 3;simp only [List.getElem?_cons_zero, List.getElem?_cons_succ] at c3;have f3 := mC.out.frozen 3;refine o1Q 22 (fun Kc ak => ?_);go_simp;refine ak.out _ _ (fun _ => hS) ?_;clear ak Kc
   try simp only [Act.put, sA, s0, sS]
   refine o1Q 23 (fun Kc ak => ?_);go_simp;refine ak.out _ _ (fun h => absurd rfl h) ?_;clear ak Kc hS;refine TS (by kernel_rfl) ?_
   try simp only [Act.put, sA, s0, sS]
   have dU : Kept (fun b => b = Z2) dQ (dQ.setCell ⟨Z2, 3, none⟩ (Q4 gF (un + 1) cF)) := Kept.setCell (R := fun b => b = Z2) kZ0 (p := ⟨Z2, 3, none⟩) (.inr rfl) _;have BK := (show Hid (Blk (dQ.setCell ⟨Z2, 3, none⟩ (Q4 gF (un + 1) cF)) Z2 33 [V 0, V S, .slice qa qn qc, Q4 gF (un + 1) cF]) from mC.out.stored 3 _);have Fi := hid (zR.out.box mC.out dU R5.out (by decide) (by decide) (by decide));clear c3 f3 dU mC zR;generalize dQ.setCell ⟨Z2, 3, none⟩ (Q4 gF (un + 1) cF) = ep at BK Fi ⊢;go_wp2;go_roundw
   case rel => exact ⟨k + 1, _, _, _, _, by omega, by go_num, BK, Fi, R8⟩
   case measure => simp [intOf]; omega
theorem UX (a : AnD) : UR a [] = none := rfl
theorem VL (a : AnD) (o : AnD × PlS) (os : List (AnD × PlS)) : UR a (o :: os) = if Va o.1 a = true then some o.2 else UR a os := rfl
theorem Yn (a : AnD) : ∀ (L M : List (AnD × PlS)), UR a (L ++ M) = match UR a L with | some st => some st | none => UR a M
 | [], M => rfl
 | o :: os, M => by
  rw [List.cons_append, VL, VL]
  split
  ·rfl
  ·exact Yn a os M
theorem jgt (c : Int) (st : PlS) (a : AnD) : Va (Us c st).1 a = Ue a c := by
 obtain ⟨a1, a2, a3, a4, a5, a6⟩ := a
 have e : ∀ (p q : Int), decide (p = q) = decide (q = p) := fun p q => by by_cases h : p = q <;> simp [h]; exact fun h2 => h h2.symm
 have el : ∀ (l : List Int), decide ([] = l) = decide (l.length = 0) := fun l => by cases l <;> simp
 have er : ∀ (l : List RcD), decide ([] = l) = decide (l.length = 0) := fun l => by cases l <;> simp
 show (decide (c = a1) && decide (0 = a2) && decide (0 = a3) && decide ([] = a4) && decide ([] = a5)) = (decide (a1 = c) && decide (a2 = 0) && decide (a3 = 0) && decide (a4.length = 0) && decide (a5.length = 0))
 rw [e c a1, e 0 a2, e 0 a3, el, er]
theorem jbD {a : AnD} {c : Int} (h : Ue a c = true) : a.1 = c := by
 unfold Ue at h;simp only [Bool.and_eq_true, decide_eq_true_eq] at h;exact h.1.1.1.1
theorem Yf {a : AnD} {c : Int} (h : a.1 ≠ c) : Ue a c = false := by
 cases hb : Ue a c with
 | false => rfl
 | true => exact absurd (jbD hb) h
theorem Vg (a : AnD) (c : Int) (st : PlS) (os : List (AnD × PlS)) : UR a (Us c st :: os) = if Ue a c = true then some st else UR a os := by
 rw [VL, jgt];rfl
theorem U7 (a : AnD) (c : Int) (st : PlS) : UR a [Us c st] = ifB (Ue a c) st := by
 rw [Vg, UX];rfl
theorem jc8 {s : StD} (h : WU s = 0) (hk : s.1 ≠ 2) (ar : s.1 ≠ 3) : s.2.2.2.2.1.length = 0 := by
 have h1 := Ym h;unfold WU TY at h
 split at h
 ·cases h
 split at h
 ·cases h
 next h2 =>
  have h3 := Classical.not_not.1 h2;unfold Ub at h3
  repeat' split at h3
  all_goals omega
theorem jgu {gp : Int} {n : Nat} {st : PlS} (h : OkS gp n st) (a : AnD) : UR a (Wh st a.2.1) = VX st a := by
 unfold Wh VX;have h8 := h.n8
 by_cases h1 : st.txns.length = 8
 ·rw [if_pos (by omega), if_pos h1, U7]
 rw [if_neg (by omega), if_neg h1]
 by_cases h2 : (decide (1 ≤ a.2.1) && decide (a.2.1 ≤ 2147483647)) = false ∨ a.2.1 ≤ st.told
 ·rw [if_pos h2, UX]
  have : (decide (st.told < a.2.1) && decide (1 ≤ a.2.1 ∧ a.2.1 ≤ 2147483647)) = false := by
   rcases h2 with h2 | h2
   ·simp only [Bool.and_eq_false_iff, decide_eq_false_iff_not] at h2 ⊢
    omega
   ·simp only [Bool.and_eq_false_iff, decide_eq_false_iff_not]
    omega
  unfold ifB;rw [if_neg (by rw [Bool.and_assoc, this, Bool.and_false]; decide)]
 ·rw [if_neg h2, VL, UX]
  have e2 : (decide (st.told < a.2.1) && decide (1 ≤ a.2.1 ∧ a.2.1 ≤ 2147483647)) = true := by
   have h3 : ¬ a.2.1 ≤ st.told := fun e => h2 (.inr e)
   have h4 : (decide (1 ≤ a.2.1) && decide (a.2.1 ≤ 2147483647)) = true := by
    cases hc : (decide (1 ≤ a.2.1) && decide (a.2.1 ≤ 2147483647)) with
    | true => rfl
    | false => exact absurd (.inl hc) h2
   simp only [Bool.and_eq_true, decide_eq_true_eq] at h4 ⊢;omega
  unfold ifB;rw [Bool.and_assoc, e2, Bool.and_true]
  have e3 : Va ((0, a.2.1, 0, [], [], 0) : AnD) a = (decide (a.1 = 0) && decide (a.2.2.1 = 0) && decide (a.2.2.2.1.length = 0) && decide (a.2.2.2.2.1.length = 0)) := by
   obtain ⟨a1, a2, a3, a4, a5, a6⟩ := a
   have e : ∀ (p q : Int), decide (p = q) = decide (q = p) := fun p q => by by_cases h : p = q <;> simp [h]; exact fun h2 => h h2.symm
   have el : ∀ (l : List Int), decide ([] = l) = decide (l.length = 0) := fun l => by cases l <;> simp
   have er : ∀ (l : List RcD), decide ([] = l) = decide (l.length = 0) := fun l => by cases l <;> simp
   show (decide ((0 : Int) = a1) && decide (a2 = a2) && decide ((0 : Int) = a3) && decide ([] = a4) && decide ([] = a5)) = _
   rw [e 0 a1, e 0 a3, el, er, decide_eq_true (rfl : a2 = a2), Bool.and_true]
  rw [e3]
theorem jeh {gp : Int} {n : Nat} {st : PlS} (h : OkS gp n st) (a : AnD) : UR a (VH st) = UH st a := by
 unfold VH UH
 by_cases hu : st.up = true
 ·rw [if_pos hu, if_pos hu, U7]
 rw [if_neg hu, if_neg hu];have hd := h.down (by simpa using hu);rw [Vg, Vg, VL, VL, UX]
 have Eo : ∀ D, Va (upA st D).1 a = (decide (a.1 = 0) && decide (a.2.1 = 0) && decide (a.2.2.1 = 0) && decide (a.2.2.2.1.length = 0) && decide (a.2.2.2.2.1 = D)) := fun D => by
  obtain ⟨a1, a2, a3, a4, a5, a6⟩ := a
  have e : ∀ (p q : Int), decide (p = q) = decide (q = p) := fun p q => by by_cases h : p = q <;> simp [h]; exact fun h2 => h h2.symm
  have el : ∀ (l : List Int), decide ([] = l) = decide (l.length = 0) := fun l => by cases l <;> simp
  have er : decide (D = a5) = decide (a5 = D) := by by_cases h : D = a5 <;> simp [h]; exact fun h2 => h h2.symm
  show (decide ((0 : Int) = a1) && decide ((0 : Int) = a2) && decide ((0 : Int) = a3) && decide ([] = a4) && decide (D = a5)) = _
  rw [e 0 a1, e 0 a2, e 0 a3, el, er]
 rw [Eo, Eo]
 by_cases h1 : a.1 = 1
 ·have hc : a.1 = 1 ∨ a.1 = 10 := .inl h1
  rw [if_pos hc, h1, Yf (c := 10) (by omega)];unfold ifB
  by_cases hb : Ue a 1 = true
  ·rw [if_pos hb, if_pos hb]
  ·rw [if_neg hb, if_neg hb]
   simp
 by_cases h10 : a.1 = 10
 ·have hc : a.1 = 1 ∨ a.1 = 10 := .inr h10
  rw [if_pos hc, h10, Yf (c := 1) (by omega)];unfold ifB
  by_cases hb : Ue a 10 = true
  ·rw [if_pos hb, if_pos hb]
   simp
  ·rw [if_neg hb, if_neg hb]
   simp
 have hc : ¬ (a.1 = 1 ∨ a.1 = 10) := by omega
 rw [if_neg hc, Yf h1, Yf h10, if_neg (by decide), if_neg (by decide)];unfold ifB;generalize (decide (a.1 = 0) && decide (a.2.1 = 0) && decide (a.2.2.1 = 0) && decide (a.2.2.2.1.length = 0)) = B
 cases B with
 | false => simp
 | true =>
  simp only [Bool.true_and, Bool.or_eq_true, decide_eq_true_eq]
  have cL : ∀ D, a.2.2.2.2.1 = D → upS st D = { st with recs := a.2.2.2.2.1, cut := [], up := true } := fun D e => by
   unfold upS;rw [e, hd.2.2]
  by_cases e1 : a.2.2.2.2.1 = st.recs
  ·rw [if_pos e1, if_pos (.inl e1)]
   exact congrArg some (cL _ e1)
  by_cases e2 : a.2.2.2.2.1 = Uq st.recs st.cut
  ·rw [if_neg e1, if_pos e2, if_pos (.inr e2)]
   exact congrArg some (cL _ e2)
  ·rw [if_neg e1, if_neg e2, if_neg (by rintro (e | e); exact e1 e; exact e2 e)]
theorem jg3 {gp : Int} {n : Nat} {st : PlS} (h : OkS gp n st) (hn : n < 4096) (hg : 0 ≤ gp ∧ gp ≤ 16) {txn id aw : Int} (ht : 1 ≤ txn ∧ txn ≤ 2147483647) (hi : 0 ≤ id ∧ id < gp * 32) (hm : 1 ≤ aw ∧ aw ≤ 2) : (VI st.locks txn id aw).1 = if WT (T9 txn id 0 st.locks) aw = false then 1 else 0 := by
 have hl := h.ln;rw [jdT h.lk, ← jc3 (ls := st.locks) (by omega) (by omega) ht hm]
 split
 ·next h0 => rw [h0]
 ·rfl
theorem ZJ (a : AnD) (x2 x3 : Int) (d : List Int) (st : PlS) : UR a [((0, x2, x3, d, [], 0), st)] = ifB (decide (a.1 = 0) && decide (a.2.1 = x2) && decide (a.2.2.1 = x3) && decide (a.2.2.2.1 = d) && decide (a.2.2.2.2.1.length = 0)) st := by
 rw [VL, UX];unfold ifB
 have e3 : Va ((0, x2, x3, d, [], 0) : AnD) a = (decide (a.1 = 0) && decide (a.2.1 = x2) && decide (a.2.2.1 = x3) && decide (a.2.2.2.1 = d) && decide (a.2.2.2.2.1.length = 0)) := by
  obtain ⟨a1, a2, a3, a4, a5, a6⟩ := a
  have e : ∀ (p q : Int), decide (p = q) = decide (q = p) := fun p q => by by_cases h : p = q <;> simp [h]; exact fun h2 => h h2.symm
  have el : decide (d = a4) = decide (a4 = d) := by by_cases h : d = a4 <;> simp [h]; exact fun h2 => h h2.symm
  have er : ∀ (l : List RcD), decide ([] = l) = decide (l.length = 0) := fun l => by cases l <;> simp
  show (decide ((0 : Int) = a1) && decide (x2 = a2) && decide (x3 = a3) && decide (d = a4) && decide ([] = a5)) = _
  rw [e 0 a1, e x2 a2, e x3 a3, el, er]
 rw [e3]
theorem jfv {gp : Int} {n : Nat} {st : PlS} (h : OkS gp n st) (hn : n < 4096) (hg : 0 ≤ gp ∧ gp ≤ 16) {s : StD} (hs : WU s = 0) (a : AnD) {ws : List WrD} (ht : 1 ≤ s.2.1 ∧ s.2.1 ≤ 2147483647) (hk : s.1 = 3 ∨ s.1 = 4 ∨ s.1 = 5) (hl : ¬ (1000 : Int) < (s.2.2.2.2.1.length : Int)) :
  UR a (if Vs gp st s (some ws) = 0 then VP st s ws ++ Vp gp st s a.2.2.1 ws else if Vs gp st s (some ws) = 6 then [Us 6 { st with locks := Vb st.locks s.2.1 s.2.2.1 (if s.1 = 5 then 1 else 2) }] else [Us (Vs gp st s (some ws)) st]) = Vw gp st ws s a := by
 unfold Vw;have hA : ¬ ((s.1 = 2 ∨ s.1 = 3) ∧ (1000 : Int) < (s.2.2.2.2.1.length : Int)) := fun e => hl e.2
 by_cases hb : s.2.2.1 < 0 ∨ gp * 32 ≤ s.2.2.1
 ·have aV : (decide (0 ≤ s.2.2.1) && decide (s.2.2.1 < gp * 32)) = false := by
   simp only [Bool.and_eq_false_iff, decide_eq_false_iff_not]; omega
  have hc : Vs gp st s (some ws) = 4 := by
   unfold Vs;dsimp only;rw [if_neg hA, if_pos hk, if_pos aV]
  rw [hc, if_pos hb, if_neg (by decide), if_neg (by decide), U7]
 have aV : ¬ (decide (0 ≤ s.2.2.1) && decide (s.2.2.1 < gp * 32)) = false := by
  simp only [Bool.and_eq_false_iff, decide_eq_false_iff_not]; omega
 rw [if_neg hb, jg3 h hn hg ht (by omega) (by split <;> omega)]
 by_cases hT : WT (T9 s.2.1 s.2.2.1 0 st.locks) (if s.1 = 5 then 1 else 2) = false
 ·have hc : Vs gp st s (some ws) = 5 := by
   unfold Vs;dsimp only;rw [if_neg hA, if_pos hk, if_neg aV, if_pos hT]
  rw [hc, if_pos hT, if_neg (by decide), if_neg (by decide), if_pos (by decide), U7]
 rw [if_neg hT];have e0 : ¬ ((0 : Int) ≠ 0) := fun e => e rfl;rw [if_neg e0]
 by_cases hS : (V7 st.recs ws s.2.2.1).1 = false
 ·have hc : Vs gp st s (some ws) = 6 := by
   unfold Vs;dsimp only;rw [if_neg hA, if_pos hk, if_neg aV, if_neg hT, if_pos hS]
  rw [hc, if_pos hS, if_neg (by decide), if_pos rfl, U7]
 have hc : Vs gp st s (some ws) = 0 := by
  unfold Vs;dsimp only;rw [if_neg hA, if_pos hk, if_neg aV, if_neg hT, if_neg hS]
 rw [hc, if_neg hS, if_pos rfl]
 rcases hk with h3 | h4 | h5
 ·have n5 : ¬ s.1 = 5 := by omega
  have n2 : ¬ s.1 = 2 := by omega
  rw [if_neg n5];unfold VP Vp;rw [if_neg n2, if_neg n2, if_pos h3, if_pos h3, decide_eq_true h3]
  by_cases hm : XQ st.recs ws s.2.2.1 < (s.2.2.2.2.1.length : Int)
  ·rw [if_pos hm]
   show UR a (Us 7 st :: Us 8 st :: [Us 0 _]) = _
   rw [Vg, Vg, U7]
   by_cases h7 : Ue a 7 = true
   ·rw [if_pos h7, if_pos (.inr ⟨h3, hm, h7⟩)]
   ·rw [if_neg h7]
    by_cases h8 : Ue a 8 = true
    ·rw [if_pos h8, if_pos (.inl h8)]
    ·rw [if_neg h8, if_neg (by rintro (e | ⟨_, _, e⟩); exact h8 e; exact h7 e)]
  ·rw [if_neg hm]
   show UR a (Us 8 st :: [Us 0 _]) = _
   rw [Vg, U7]
   by_cases h8 : Ue a 8 = true
   ·rw [if_pos h8, if_pos (.inl h8)]
   ·rw [if_neg h8, if_neg (by rintro (e | ⟨_, e, _⟩); exact h8 e; exact hm e)]
 ·have n5 : ¬ s.1 = 5 := by omega
  have n2 : ¬ s.1 = 2 := by omega
  have n3 : ¬ s.1 = 3 := by omega
  have hd := List.length_eq_zero_iff.1 (jc8 hs n2 n3);rw [if_neg n5];unfold VP Vp;rw [if_neg n2, if_neg n2, if_neg n3, if_neg n3, if_pos h4, if_pos h4, decide_eq_false n3, hd]
  show UR a (Us 8 st :: [Us 0 _]) = _
  rw [Vg, U7]
  by_cases h8 : Ue a 8 = true
  ·rw [if_pos h8, if_pos (.inl h8)]
  ·rw [if_neg h8, if_neg (by rintro (e | ⟨e, _, _⟩); exact h8 e; exact n3 e)]
 ·have n4 : ¬ s.1 = 4 := by omega
  have n2 : ¬ s.1 = 2 := by omega
  have n3 : ¬ s.1 = 3 := by omega
  rw [if_pos h5];unfold VP Vp;rw [if_neg n2, if_neg n2, if_neg n3, if_neg n3, if_neg n4, if_neg n4, if_pos h5, List.nil_append, ZJ]
  congr 1
  generalize decide (a.1 = 0) = b1;generalize decide (a.2.1 = 0) = b2;generalize decide (a.2.2.1 = 0) = b3;generalize decide (a.2.2.2.1 = (V7 st.recs ws s.2.2.1).2) = b4;generalize decide (a.2.2.2.2.1.length = 0) = b5
  cases b1 <;> cases b2 <;> cases b3 <;> cases b4 <;> cases b5 <;> rfl
theorem jg4 {gp : Int} {n : Nat} {st : PlS} (h : OkS gp n st) (hn : n < 4096) (hg : 0 ≤ gp ∧ gp ≤ 16) {s : StD} (hs : WU s = 0) (a : AnD) (hk : 1 ≤ s.1 ∧ s.1 ≤ 8) : UR a (Wn gp st s a.2.1 a.2.2.1) = X5 gp st s a := by
 unfold Wn X5
 by_cases h1 : s.1 = 1
 ·rw [if_pos h1, if_pos h1, jgu h]
 rw [if_neg h1, if_neg h1]
 by_cases h8 : s.1 = 8
 ·rw [if_pos h8, if_pos h8, Vg, U7]
  unfold ifB
  cases Ue a 8 <;> cases Ue a 0 <;> rfl
 rw [if_neg h8, if_neg h8]
 cases dH : Uw st.txns s.2.1 with
 | none =>
  have e : Vs gp st s none = 2 := rfl;dsimp only;rw [e, if_neg (by decide), if_neg (by decide), U7]
 | some ws =>
  dsimp only [Option.getD];obtain ⟨y, hy, iB, Ae⟩ := Xp dH;have Nn := h.told y hy;have P0 := h.mx;rw [iB] at Nn;have ht : 1 ≤ s.2.1 ∧ s.2.1 ≤ 2147483647 := ⟨Nn.1, by omega⟩
  by_cases hl : (1000 : Int) < (s.2.2.2.2.1.length : Int)
  ·have wo : 1000 < s.2.2.2.2.1.length := by omega
   have ae : s.1 = 2 ∨ s.1 = 3 := by
    by_cases e2 : s.1 = 2
    ·exact .inl e2
    by_cases e3 : s.1 = 3
    ·exact .inr e3
    ·have := jc8 hs e2 e3; omega
   have e : Vs gp st s (some ws) = 3 := by
    unfold Vs;dsimp only;rw [if_pos ⟨ae, hl⟩]
   rw [e, if_neg (by decide), if_neg (by decide), U7, if_pos wo]
  have wo : ¬ 1000 < s.2.2.2.2.1.length := by omega
  rw [if_neg wo]
  by_cases h2 : s.1 = 2
  ·have e : Vs gp st s (some ws) = 0 := by
    unfold Vs;dsimp only;rw [if_neg (fun e => hl e.2), if_neg (by omega)]
   rw [e, if_pos rfl, if_pos h2];unfold VP Vp;rw [if_pos h2, if_pos h2]
   show UR a (Us 7 st :: Us 8 st :: _) = _
   rw [Vg, Vg]
   by_cases b7 : Ue a 7 = true
   ·rw [if_pos b7, if_pos (.inl b7)]
   rw [if_neg b7]
   by_cases b8 : Ue a 8 = true
   ·rw [if_pos b8, if_pos (.inr b8)]
   have Rv : ¬ (Ue a 7 = true ∨ Ue a 8 = true) := by rintro (e | e); exact b7 e; exact b8 e
   rw [if_neg b8, if_neg Rv]
   cases hT : Vm gp st s.2.1 a.2.2.1 with
   | true =>
    rw [if_pos rfl];unfold ifB;simp [UX]
   | false =>
    rw [if_neg (by decide)]
    show UR a [((0, 0, a.2.2.1, [], [], 0), _)] = _
    rw [ZJ]
    have el : decide (a.2.2.2.1 = []) = decide (a.2.2.2.1.length = 0) := by cases a.2.2.2.1 <;> simp
    rw [el, decide_eq_true (rfl : a.2.2.1 = a.2.2.1)];simp
  rw [if_neg h2]
  by_cases h67 : s.1 ≠ 6 ∧ s.1 ≠ 7
  ·rw [if_pos h67]
   exact jfv h hn hg hs a ht (by omega) hl
  ·rw [if_neg h67]
   have e : Vs gp st s (some ws) = 0 := by
    unfold Vs;dsimp only;rw [if_neg (fun e => hl e.2), if_neg (by omega)]
   rw [e, if_pos rfl];have n2 : ¬ s.1 = 2 := h2
   have n3 : ¬ s.1 = 3 := by omega
   have n4 : ¬ s.1 = 4 := by omega
   have n5 : ¬ s.1 = 5 := by omega
   unfold VP Vp;rw [if_neg n2, if_neg n2, if_neg n3, if_neg n3, if_neg n4, if_neg n4, if_neg n5, List.nil_append, U7]
theorem jgv {gp : Int} {st : PlS} {s : StD} {a : AnD} (h : a.1 = 1) (tx id : Int) : UR a (Wn gp st s tx id) = none := by
 have hr : ∀ (c : Int) (st : PlS) (os : List (AnD × PlS)), c ≠ 1 → UR a (Us c st :: os) = UR a os := fun c st os hc => by
  rw [Vg, Yf (by omega), if_neg (by decide)]
 have hd : ∀ (x2 x3 : Int) (d : List Int) (st : PlS), UR a [((0, x2, x3, d, [], 0), st)] = none := fun x2 x3 d st => by
  rw [ZJ];unfold ifB;rw [decide_eq_false (by omega)];simp
 have hb : ∀ o, Vs gp st s o ≠ 1 := fun o => by
  unfold Vs
  split
  ·decide
  ·repeat' split
   all_goals decide
 unfold Wn
 split
 ·unfold Wh
  split
  ·rw [hr _ _ _ (by decide), UX]
  split
  ·rfl
  ·exact hd _ _ _ _
 split
 ·rw [hr _ _ _ (by decide), hr _ _ _ (by decide), UX]
 split
 ·rw [Yn]
  have e1 : UR a (VP st s ((Uw st.txns s.2.1).getD [])) = none := by
   unfold VP
   repeat' split
   all_goals first | rfl | (rw [hr _ _ _ (by decide), hr _ _ _ (by decide), UX]) | (rw [hr _ _ _ (by decide), UX])
  rw [e1];dsimp only;unfold Vp
  repeat' split
  all_goals first | rfl | exact hd _ _ _ _ | (rw [hr _ _ _ (by decide), UX])
 split
 ·rw [hr _ _ _ (by decide), UX]
 ·rw [hr _ _ _ (hb _), UX]
theorem step_eq {gp : Int} {n : Nat} {st : PlS} (h : OkS gp n st) (hn : n < 4096) (hg : 0 ≤ gp ∧ gp ≤ 16) {s : StD} (hs : WU s = 0) (a : AnD) : UR a (Zj gp st s a.2.1 a.2.2.1) = VD gp st s a := by
 have hk := Ym hs;unfold Zj VD
 split
 ·exact U7 _ _ _
 split
 ·exact U7 _ _ _
 split
 ·exact jeh h a
 split
 ·exact U7 _ _ _
 by_cases hb : Ue a 1 = true
 ·rw [if_pos hb, Yn, jgv (jbD hb)]
  dsimp only;rw [U7];unfold ifB;rw [if_pos hb]
 ·rw [if_neg hb, Yn, jg4 h hn hg hs a (by omega)]
  split
  ·next e => exact e.symm
  ·next e =>
   rw [U7, e];unfold ifB;rw [if_neg hb]
end Go.Proofs.YtljfcdkhicffcaaGreat
