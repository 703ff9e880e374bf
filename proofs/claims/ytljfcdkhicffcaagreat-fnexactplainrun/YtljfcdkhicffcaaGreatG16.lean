import Derived.Test.YtljfcdkhicffcaaGreatG14
namespace Go.Proofs.YtljfcdkhicffcaaGreat
set_option maxRecDepth 100000
set_option maxHeartbeats 8000000
set_option linter.unusedVariables false
set_option linter.unusedSimpArgs false
open Go Go.RowKit
def jhb (txns : List (Int × List WrD)) : Prop := ∀ i j, (hi : i < txns.length) → (hj : j < txns.length) → txns[i].1 = txns[j].1 → i = j
theorem Yb (txn : Int) : ∀ (ts : List ETx) (k : Nat), (Wm txn k ts = -1 ∧ Uw (Uo ts) txn = none) ∨ ∃ j, ∃ h : j < ts.length, Wm txn k ts = ((k + j : Nat) : Int) ∧ ts[j].id = txn ∧ Uw (Uo ts) txn = some (TU ts[j].ps)
 | [], k => .inl ⟨rfl, rfl⟩
 | t :: ts, k => by
  by_cases h : t.id = txn
  ·refine .inr ⟨0, by simp, ?_, h, ?_⟩
   ·show (if t.id = txn then (k : Int) else Wm txn (k + 1) ts) = _
    rw [if_pos h];rfl
   ·simp [Uw, Uo, ETx.dat, h]
  ·have e1 : Wm txn k (t :: ts) = Wm txn (k + 1) ts := by
    show (if t.id = txn then (k : Int) else Wm txn (k + 1) ts) = _
    rw [if_neg h]
   have e2 : Uw (Uo (t :: ts)) txn = Uw (Uo ts) txn := by simp [Uw, Uo, ETx.dat, h]
   rcases Yb txn ts (k + 1) with ⟨h1, h2⟩ | ⟨j, hj, h1, h2, h3⟩
   ·exact .inl ⟨by rw [e1, h1], by rw [e2, h2]⟩
   ·exact .inr ⟨j + 1, by simp; omega, by rw [e1, h1]; congr 1; omega, h2, by rw [e2]; exact h3⟩
theorem jgK {gp : Int} {rs : List EHeapRecord} {ts : List ETx} {st : PlS} (h1 : jZ9 rs = st.recs) (h2 : Uo ts = st.txns) (txn id : Int) : jeZ gp rs ts st.locks txn id = Vm gp st txn id := by
 unfold jeZ Vm;rw [← h1, ← h2];simp [jZ9, Uo, TU, ETx.dat, EHeapRecord.dat, EWr.dat, List.any_map, Function.comp_def];rfl
theorem jdL (lo M : Nat) (gp gf gl : Int) (st : PlS) (kd stx ah cnt : Int) (sa : Option Addr) (sn sc : Nat) (ka : Option Addr) (kn kc : Nat) (sd kb : List Int) (cd tx rid : Int) (da : Option Addr) (dn dc : Nat) (ra : Option Addr) (rn rc : Nat) (us : Int) (db : List Int) (rb : List RcD) (w : World) (h : SpS w lo M gp gf gl st) (cN : lo ≤ w.heap.size) (hg : 0 ≤ gp ∧ gp ≤ 1000) (h8 : st.txns.length ≤ 8)
  (eU : jhb st.txns) (gE : ∀ t ∈ st.txns, t.2.length ≤ 10000000) (pD : ∀ t ∈ st.txns, st.recs.length + t.2.length ≤ 4000000) (sT : OkR st.recs) (Am : ∀ t ∈ st.txns, OkW t.2) (dk : sd.length = sn) (gD : RdL lo w (.slice sa sn sc) sd) (r6 : OkB sd) (dS : db.length = dn) (ek : RdL lo w (.slice da dn dc) db) (pj : OkB db) (mZ : rb.length = rn) (dN : 1 ≤ kd ∧ kd ≤ 8) :
  Calls Tryz.prog 55 #[Q3 M 0, .agg #[V kd, V stx, V ah, V cnt, .slice sa sn sc, .slice ka kn kc], .agg #[V cd, V tx, V rid, .slice da dn dc, .slice ra rn rc, V us]] w fun e w' => OutS lo M gp gf gl w w' e (X5 gp st (kd, stx, ah, cnt, sd, kb) (cd, tx, rid, db, rb, us)) := by
 have HS := hid h;have MX := (show Hid (∀ w1, Same w w1 → _) from fun w1 hx => jdi lo M gp gf gl st cd tx rid da dn dc ra rn rc us db rb w1 (h.same hx) (by have := hx.size; omega) dS mZ h8);have jE := (show Hid (∀ (k : Nat) (w1 : World), Same w w1 → (hk : k < st.txns.length) → st.txns[k].1 = stx → (kd = 3 ∨ kd = 4 ∨ kd = 5) → _) from fun k w1 hx hk e1 e2 => jbV lo M gp gf gl st k kd stx ah cnt sa sn sc ka kn kc sd kb cd tx rid da dn dc ra rn rc us db rb w1 (h.same hx) (by have := hx.size; omega) hg hk e1 eU gE sT Am dk (gD.on (SpK.same hx)) r6 dS (ek.on (SpK.same hx)) pj mZ e2);have BI := (show Hid (∀ (k : Nat) (w1 : World), Same w w1 → (hk : k < st.txns.length) → _) from fun k w1 hx hk => jau lo M gp gf gl st k rid true (.slice sa sn sc) sd w1 (h.same hx) (by have := hx.size; omega) hk eU (by have := r6.2; omega) gE (gD.on (SpK.same hx)));obtain ⟨rv, rs, tv, ts, la, ln, lc, ls, hc, cv, cs, hb, hn, cO, e1, e2, e3, e4, e5⟩ := h;have HE := (show Hid (jZ9 rs = st.recs ∧ Uo ts = st.txns ∧ tri ls = st.locks ∧ TU cs = st.cut ∧ (hc = false → cs = [])) from ⟨e1, e2, e3, e4, e5⟩);have zi := (show Hid (ts.length = st.txns.length) from by show ts.length = st.txns.length; rw [← e2]; simp [Uo]);obtain ⟨RP, bS⟩ : ∃ z, X5 gp st (kd, stx, ah, cnt, sd, kb) (cd, tx, rid, db, rb, us) = z := ⟨_, rfl⟩;rw [bS];have bj := hid bS;have qX := hid dk;have gm := hid dS;have jM := hid mZ;have gh := Blk.newL w [V kd, V stx, V ah, V cnt, .slice sa sn sc, .slice ka kn kc] 71;have bT : Same w (w.alloc (.cells #[V kd, V stx, V ah, V cnt, .slice sa sn sc, .slice ka kn kc] 71)) := kZ0.alloc _;obtain ⟨X, aQ⟩ : ∃ X, w.heap.size = X := ⟨_, rfl⟩;have ie := Blk.newL (w.alloc (.cells #[V kd, V stx, V ah, V cnt, .slice sa sn sc, .slice ka kn kc] 71)) [V cd, V tx, V rid, .slice da dn dc, .slice ra rn rc, V us] 73;have gS : Same (w.alloc (.cells #[V kd, V stx, V ah, V cnt, .slice sa sn sc, .slice ka kn kc] 71)) ((w.alloc (.cells #[V kd, V stx, V ah, V cnt, .slice sa sn sc, .slice ka kn kc] 71)).alloc (.cells #[V cd, V tx, V rid, .slice da dn dc, .slice ra rn rc, V us] 73)) := kZ0.alloc _
 have bD : (w.alloc (.cells #[V kd, V stx, V ah, V cnt, .slice sa sn sc, .slice ka kn kc] 71)).heap.size = X + 1 := by rw [World.size_alloc, aQ]
 rw [aQ] at gh;rw [bD] at ie
 have Fq : M < X := by have := Blk.lt hb; omega
 have HB := hid hb;have HN := hid hn;have HG := hid hg;have jO := hid dN;have Qy := hid (sT.of e1);have QS := hid Am;have Kb := hid pD;clear hb hn e1 e2 e3 e4 e5 sT Am gE pD gD ek pj r6 dk dS mZ bS hg dN
 go_enter Tryz.func55, Tryz.ntmps55
 go_upto_region 1 with fail
 try rw [aQ]
 try rw [bD]
 have gk := gh.same gS;have eR := bT.trans gS;generalize (w.alloc (.cells #[V kd, V stx, V ah, V cnt, .slice sa sn sc, .slice ka kn kc] 71)).alloc (.cells #[V cd, V tx, V rid, .slice da dn dc, .slice ra rn rc, V us] 73) = w1 at gk ie eR ⊢;have HX := hid gk;have HY := hid ie;have ao := hid eR;have bF := hid (Blk.same HB.out eR);have eM := hid (HN.out.same eR)
 have fW : lo ≤ w1.heap.size := by have := eR.size; omega
 clear gh ie gk eR bT gS bD aQ HB HN;have HI := (show Hid (∀ wx, Same w1 wx → SpB wx M gp gf gl st.up rv tv (.slice la ln lc) st.told hc cv ∧ SpN wx lo rv rs tv ts la ln lc ls cv cs ∧ Blk wx X 71 [V kd, V stx, V ah, V cnt, .slice sa sn sc, .slice ka kn kc] ∧ Blk wx (X + 1) 73 [V cd, V tx, V rid, .slice da dn dc, .slice ra rn rc, V us] ∧ lo ≤ wx.heap.size ∧ SpS wx lo M gp gf gl st ∧ Same w wx) from fun wx hx => ⟨Blk.same bF.out hx, eM.out.same hx, HX.out.same hx, HY.out.same hx, by have := hx.size; omega, HS.out.same (ao.out.trans hx), ao.out.trans hx⟩);clear HX HY ao bF eM fW HS
 have gZ := (show Hid (∀ (c : Int) (wx : World), Calls Tryz.prog 52 #[.agg #[V cd, V tx, V rid, .slice da dn dc, .slice ra rn rc, V us], V c] wx fun e w' => e = .returned (.bool (Ue (cd, tx, rid, db, rb, us) c)) ∧ Same wx w') from fun c wx => by
  have e : (decide (cd = c) && decide (tx = 0) && decide (rid = 0) && decide (dn = 0) && decide (rn = 0)) = Ue (cd, tx, rid, db, rb, us) c := by unfold Ue; rw [← gm.out, ← jM.out]
  have h := Vq cd tx rid da dn dc ra rn rc us c wx;rw [e] at h
  exact h)
 have mR := (show Hid (∀ (b : Bool) (w' : World), Same w1 w' → RP = ifB b st → OutS lo M gp gf gl w w' (.returned (.bool b)) RP) from fun b w' hk e => by
  rw [e]
  exact ⟨by rw [Xj], fun cJ e => by rw [← (Ui e).2]; exact (HI.out w' hk).2.2.2.2.2.1, SpK.same (HI.out w' hk).2.2.2.2.2.2⟩)
 have ik := (show Hid (∀ {wx : World}, Blk wx (X + 1) 73 [V cd, V tx, V rid, .slice da dn dc, .slice ra rn rc, V us] → wx.cell? ⟨X + 1, 0, none⟩ = some (V cd) ∧ wx.cell? ⟨X + 1, 1, none⟩ = some (V tx) ∧ wx.cell? ⟨X + 1, 2, none⟩ = some (V rid) ∧ wx.cell? ⟨X + 1, 3, none⟩ = some (.slice da dn dc) ∧ wx.cell? ⟨X + 1, 4, none⟩ = some (.slice ra rn rc) ∧ wx.cell? ⟨X + 1, 5, none⟩ = some (V us)) from fun h => ⟨h.cell 0, h.cell 1, h.cell 2, h.cell 3, h.cell 4, h.cell 5⟩);have jH := (show Hid (∀ {wx : World}, Blk wx X 71 [V kd, V stx, V ah, V cnt, .slice sa sn sc, .slice ka kn kc] → wx.cell? ⟨X, 0, none⟩ = some (V kd) ∧ wx.cell? ⟨X, 1, none⟩ = some (V stx) ∧ wx.cell? ⟨X, 2, none⟩ = some (V ah) ∧ wx.cell? ⟨X, 3, none⟩ = some (V cnt) ∧ wx.cell? ⟨X, 4, none⟩ = some (.slice sa sn sc) ∧ wx.cell? ⟨X, 5, none⟩ = some (.slice ka kn kc)) from fun h => ⟨h.cell 0, h.cell 1, h.cell 2, h.cell 3, h.cell 4, h.cell 5⟩);obtain ⟨x0, x1, x2, x3, x4, x5⟩ := jH.out (HI.out w1 kZ0).2.2.1;obtain ⟨y0, y1, y2, y3, y4, y5⟩ := ik.out (HI.out w1 kZ0).2.2.2.1
 by_cases k1 : kd = 1
 case pos =>
  as_aux_lemma =>
  have kG := MX.out w1 (HI.out w1 kZ0).2.2.2.2.2.2
  have e : VX st (cd, tx, rid, db, rb, us) = RP := by rw [← bj.out]; unfold X5; rw [if_pos k1]
  rw [e] at kG;clear e;subst k1
  go_wp2_with fail
  refine kG.mono ?_;rintro e w2 ⟨rfl, dP, ae⟩;have HR := (show Hid (OutS lo M gp gf gl w w2 (.returned (.bool RP.isSome)) RP) from ⟨rfl, dP, (SpK.same (HI.out w1 kZ0).2.2.2.2.2.2).trans ae⟩);clear kG dP ae;generalize RP.isSome = bz at HR ⊢;go_wp2;go_ret;exact HR.out
 have q1 : (kd == 1) = false := by simp [k1]
 by_cases k8 : kd = 8
 case pos =>
  as_aux_lemma =>
  have HP := (show Hid (RP = ifB (Ue (cd, tx, rid, db, rb, us) 0 || Ue (cd, tx, rid, db, rb, us) 8) st) from by show RP = _; rw [← bj.out]; unfold X5; rw [if_neg k1, if_pos k8]);have kA := gZ.out 0 w1;have kB := (show Hid (∀ wx : World, _) from gZ.out 8);obtain ⟨b0, bR⟩ : ∃ z, Ue (cd, tx, rid, db, rb, us) 0 = z := ⟨_, rfl⟩;obtain ⟨b8, pU⟩ : ∃ z, Ue (cd, tx, rid, db, rb, us) 8 = z := ⟨_, rfl⟩;rw [bR, pU] at HP;rw [bR] at kA;rw [pU] at kB;clear bR pU;subst k8
  go_wp2_with fail
  refine kA.mono ?_;rintro e w2 ⟨rfl, ae⟩;have ap := hid ae;clear kA ae
  cases b0
  case true =>
   have HR := hid (mR.out true w2 ap.out (by rw [HP.out]; simp));go_wp2;go_ret;exact HR.out
  obtain ⟨y0, y1, y2, y3, y4, y5⟩ := ik.out (HI.out w2 ap.out).2.2.2.1
  go_wp2_with fail
  refine (kB.out w2).mono ?_;rintro e w3 ⟨rfl, ar⟩;have HR := hid (mR.out b8 w3 (ap.out.trans ar) (by rw [HP.out]; simp));clear kB ar;go_wp2;go_ret;exact HR.out
 have q8 : (kd == 8) = false := by simp [k8]
 have kF := jaq M tv ts stx w1 (Blk.cell (HI.out w1 kZ0).1 5) (YN (HI.out w1 kZ0).2.1.trow);have sq := hid (Yb stx ts 0);obtain ⟨fx, BV⟩ : ∃ z, Wm stx 0 ts = z := ⟨_, rfl⟩;rw [BV] at kF sq;clear BV
 have ju := (show Hid (RP = match Uw st.txns stx with | none => ifB (Ue (cd, tx, rid, db, rb, us) 2) st | some ws => if 1000 < sn then ifB (Ue (cd, tx, rid, db, rb, us) 3) st else if kd = 2 then (if Ue (cd, tx, rid, db, rb, us) 7 = true ∨ Ue (cd, tx, rid, db, rb, us) 8 = true then some st else ifB (decide (cd = 0) && decide (tx = 0) && decide (dn = 0) && decide (rn = 0) && !Vm gp st stx rid) (UL st stx rid (true, sd))) else if kd ≠ 6 ∧ kd ≠ 7 then Vw gp st ws (kd, stx, ah, cnt, sd, kb) (cd, tx, rid, db, rb, us) else ifB (Ue (cd, tx, rid, db, rb, us) 0) (Zr st (kd, stx, ah, cnt, sd, kb) ws)) from by
  show RP = _
  rw [← bj.out];unfold X5;rw [if_neg k1, if_neg k8];dsimp only;rw [qX.out, gm.out, jM.out]
  cases Uw st.txns stx <;> rfl)
 clear bj
 go_wp2_with fail
 refine kF.mono ?_;rintro e w2 ⟨rfl, ae⟩;have ap := hid ae;clear kF ae x0 x1 x2 x3 x4 x5 y0 y1 y2 y3 y4 y5;obtain ⟨x0, x1, x2, x3, x4, x5⟩ := jH.out (HI.out w2 ap.out).2.2.1;obtain ⟨y0, y1, y2, y3, y4, y5⟩ := ik.out (HI.out w2 ap.out).2.2.2.1
 rcases sq.out with ⟨l0, fp⟩ | ⟨k, hk, l0, fp, zX⟩
 ·have HP := (show Hid (RP = ifB (Ue (cd, tx, rid, db, rb, us) 2) st) from by
   show RP = _
   rw [HE.out.2.1] at fp
   rw [ju.out, fp])
  subst l0;have kB := gZ.out 2 w2;obtain ⟨b2, aV⟩ : ∃ z, Ue (cd, tx, rid, db, rb, us) 2 = z := ⟨_, rfl⟩;rw [aV] at HP kB;clear aV fp sq
  go_wp2_with fail
  refine kB.mono ?_;rintro e w3 ⟨rfl, ar⟩;have HR := hid (mR.out b2 w3 (ap.out.trans ar) HP.out);clear kB ar;go_wp2;go_ret;exact HR.out
 have gu : k < st.txns.length := by rw [← zi.out]; exact hk
 have fZ := (show Hid (st.txns[k].1 = stx ∧ st.txns[k].2 = TU ts[k].ps) from by
  have h1 : st.txns = ts.map ETx.dat := HE.out.2.1.symm;constructor
  ·simp only [h1, List.getElem_map]
   exact fp
  ·simp only [h1, List.getElem_map]
   rfl)
 have dL := (show Hid (Uw st.txns stx = some (TU ts[k].ps)) from by rw [← HE.out.2.1]; exact zX)
 have GZ : fx = (k : Int) := by rw [l0]; simp
 subst GZ;obtain ⟨WS, re⟩ : ∃ z, TU ts[k].ps = z := ⟨_, rfl⟩;rw [re] at dL fZ;rw [dL.out] at ju;dsimp only at ju;clear l0 fp zX sq
 by_cases x8 : 1000 < sn
 case pos =>
  as_aux_lemma =>
  have HP := (show Hid (RP = ifB (Ue (cd, tx, rid, db, rb, us) 3) st) from by show RP = _; rw [ju.out, if_pos x8]);have kB := gZ.out 3 w2;obtain ⟨b2, aV⟩ : ∃ z, Ue (cd, tx, rid, db, rb, us) 3 = z := ⟨_, rfl⟩;rw [aV] at HP kB;clear aV
  have qb : (1000 : Int) < (sn : Int) := by omega
  go_wp2_with fail
  refine kB.mono ?_;rintro e w3 ⟨rfl, ar⟩;have HR := hid (mR.out b2 w3 (ap.out.trans ar) HP.out);clear kB ar;go_wp2;go_ret;exact HR.out
 have qb : ¬ (1000 : Int) < (sn : Int) := by omega
 rw [if_neg x8] at ju
 by_cases k2 : kd = 2
 case pos =>
  as_aux_lemma =>
  rw [if_pos k2] at ju;obtain ⟨b7, eY⟩ : ∃ z, Ue (cd, tx, rid, db, rb, us) 7 = z := ⟨_, rfl⟩;obtain ⟨b8, pU⟩ : ∃ z, Ue (cd, tx, rid, db, rb, us) 8 = z := ⟨_, rfl⟩;rw [eY, pU] at ju;have kA := gZ.out 7 w2;have kB := (show Hid (∀ wx : World, _) from gZ.out 8);rw [eY] at kA;rw [pU] at kB;clear eY pU;subst k2
  go_wp2_with fail
  refine kA.mono ?_;rintro e w3 ⟨rfl, ar⟩;have ax := hid (ap.out.trans ar);clear kA ar
  have nU := (show Hid (∀ w', Same w1 w' → RP = some st → OutS lo M gp gf gl w w' (.returned (.bool true)) RP) from fun w' hk e => by
   rw [e]
   exact ⟨rfl, fun cJ e => by cases e; exact (HI.out w' hk).2.2.2.2.2.1, SpK.same (HI.out w' hk).2.2.2.2.2.2⟩)
  cases b7
  case true =>
   have HR := hid (nU.out w3 ax.out (by rw [ju.out]; simp));go_wp2;go_ret;exact HR.out
  clear y0 y1 y2 y3 y4 y5 x0 x1 x2 x3 x4 x5;obtain ⟨y0, y1, y2, y3, y4, y5⟩ := ik.out (HI.out w3 ax.out).2.2.2.1
  go_wp2_with fail
  refine (kB.out w3).mono ?_;rintro e w4 ⟨rfl, aM⟩;have aR := hid (ax.out.trans aM);clear kB aM
  cases b8
  case true =>
   have HR := hid (nU.out w4 aR.out (by rw [ju.out]; simp));go_wp2;go_ret;exact HR.out
  have JE := (show Hid (RP = ifB (decide (cd = 0) && decide (tx = 0) && decide (dn = 0) && decide (rn = 0) && !Vm gp st stx rid) (UL st stx rid (true, sd))) from by
   show RP = _
   rw [ju.out]
   simp)
  have ks := (show Hid (∀ w', Same w1 w' → (decide (cd = 0) && decide (tx = 0) && decide (dn = 0) && decide (rn = 0) && !Vm gp st stx rid) = false → OutS lo M gp gf gl w w' (.returned (.bool false)) RP) from fun w' hk e => by
   rw [JE.out, e]
   exact ⟨rfl, fun cJ e => absurd (Ui e).1 (by simp), SpK.same (HI.out w' hk).2.2.2.2.2.2⟩)
  clear ju nU y0 y1 y2 y3 y4 y5;obtain ⟨y0, y1, y2, y3, y4, y5⟩ := ik.out (HI.out w4 aR.out).2.2.2.1;obtain ⟨x0, x1, x2, x3, x4, x5⟩ := jH.out (HI.out w4 aR.out).2.2.1
  by_cases j0 : cd = 0
  case neg =>
   have r0 : (cd != 0) = true := by simp [j0]
   have HR := hid (ks.out w4 aR.out (by simp [j0]));clear j0;go_wp2;go_ret;exact HR.out
  have r0 : (cd != 0) = false := by simp [j0]
  by_cases j1 : tx = 0
  case neg =>
   have r1 : (tx != 0) = true := by simp [j1]
   have HR := hid (ks.out w4 aR.out (by simp [j1]));clear j0 j1;go_wp2;go_ret;exact HR.out
  have r1 : (tx != 0) = false := by simp [j1]
  by_cases j2 : dn = 0
  case neg =>
   have r2 : (0 : Int) < (dn : Int) := by omega
   have OV : 0 < dn := by omega
   have HR := hid (ks.out w4 aR.out (by simp [j2]));clear j0 j1 j2;go_wp2;go_ret;exact HR.out
  have r2 : ¬ (0 : Int) < (dn : Int) := by omega
  have OV : ¬ 0 < dn := by omega
  by_cases j3 : rn = 0
  case neg =>
   have r3 : (0 : Int) < (rn : Int) := by omega
   have Fv : 0 < rn := by omega
   have HR := hid (ks.out w4 aR.out (by simp [j3]));clear j0 j1 j2 j3;go_wp2;go_ret;exact HR.out
  have r3 : ¬ (0 : Int) < (rn : Int) := by omega
  have Fv : ¬ 0 < rn := by omega
  have kT := jcz M gp rv rs tv ts ⟨160, la, ln, lc, ls⟩ stx rid w4 HG.out (Blk.cell (HI.out w4 aR.out).1 0) (Blk.cell (HI.out w4 aR.out).1 4) (Blk.cell (HI.out w4 aR.out).1 5) (Blk.cell (HI.out w4 aR.out).1 6) (HI.out w4 aR.out).2.1.recs.rd (YN (HI.out w4 aR.out).2.1.trow) (fun t ht => ((HI.out w4 aR.out).2.1.wr t ht).rd) (HI.out w4 aR.out).2.1.rdF
  have e9 : jeZ gp rs ts (tri ls) stx rid = Vm gp st stx rid := by rw [HE.out.2.2.1]; exact jgK HE.out.1 HE.out.2.1 stx rid
  dsimp only at kT;rw [e9] at kT;obtain ⟨Pf, ME⟩ : ∃ z, Vm gp st stx rid = z := ⟨_, rfl⟩;rw [ME] at kT ks JE;have HJ := (show Hid (cd = 0 ∧ tx = 0 ∧ dn = 0 ∧ rn = 0) from ⟨j0, j1, j2, j3⟩);clear e9 ME j0 j1 j2 j3
  go_wp2_with fail
  refine kT.mono ?_;rintro e w5 ⟨rfl, aP⟩;have aH := hid (aR.out.trans aP);clear kT aP y0 y1 y2 y3 y4 y5 x0 x1 x2 x3 x4 x5
  cases Pf
  case true =>
   have HR := hid (ks.out w5 aH.out (by simp));go_wp2;go_ret;exact HR.out
  obtain ⟨y0, y1, y2, y3, y4, y5⟩ := ik.out (HI.out w5 aH.out).2.2.2.1;obtain ⟨x0, x1, x2, x3, x4, x5⟩ := jH.out (HI.out w5 aH.out).2.2.1;have kN := BI.out k w5 (HI.out w5 aH.out).2.2.2.2.2.2 gu;rw [fZ.out.1] at kN
  go_wp2_with fail
  refine kN.mono ?_;rintro e w6 ⟨rfl, OE, aN⟩
  have HR := (show Hid (OutS lo M gp gf gl w w6 (.returned (.bool true)) RP) from by
   rw [JE.out, decide_eq_true HJ.out.1, decide_eq_true HJ.out.2.1, decide_eq_true HJ.out.2.2.1, decide_eq_true HJ.out.2.2.2]
   exact ⟨rfl, fun cJ e => by rw [← (Ui e).2]; exact OE, (SpK.same (HI.out w5 aH.out).2.2.2.2.2.2).trans aN⟩)
  clear kN OE aN;go_wp2;go_ret;exact HR.out
 rw [if_neg k2] at ju
 have q2 : (kd == 2) = false := by simp [k2]
 by_cases k67 : kd ≠ 6 ∧ kd ≠ 7
 case pos =>
  as_aux_lemma =>
  have q6 : (kd != 6) = true := by simp [k67.1]
  have q7 : (kd != 7) = true := by simp [k67.2]
  have kR := jE.out k w2 (HI.out w2 ap.out).2.2.2.2.2.2 gu fZ.out.1 (by have := jO.out; omega);rw [fZ.out.2] at kR
  have e : Vw gp st WS (kd, stx, ah, cnt, sd, kb) (cd, tx, rid, db, rb, us) = RP := by rw [ju.out, if_pos k67]
  rw [e] at kR;clear e
  go_wp2_with fail
  refine kR.mono ?_;rintro e w3 ⟨rfl, lF, ar⟩;have HR := (show Hid (OutS lo M gp gf gl w w3 (.returned (.bool RP.isSome)) RP) from ⟨rfl, lF, (SpK.same (HI.out w2 ap.out).2.2.2.2.2.2).trans ar⟩);clear kR lF ar;generalize RP.isSome = bz at HR ⊢;go_wp2;go_ret;exact HR.out
 rw [if_neg k67] at ju
 go_upto_region 17 with fail
 go_cut [89] (fun z wx => z = .bool false ∧ w2 = wx)
 case first =>
  as_aux_lemma =>
  by_cases k6 : kd = 6
  ·subst k6
   go_wp2_with fail
   go_meet
   case rel => exact ⟨rfl, rfl⟩
  ·have k7 : kd = 7 := Decidable.byContradiction fun h => k67 ⟨k6, h⟩
   subst k7
   go_wp2_with fail
   go_meet
   case rel => exact ⟨rfl, rfl⟩
 case rest =>
 obtain ⟨rfl, rfl⟩ := hcut;have kB := gZ.out 0 w2;obtain ⟨b0, bR⟩ : ∃ z, Ue (cd, tx, rid, db, rb, us) 0 = z := ⟨_, rfl⟩;rw [bR] at ju kB;clear bR
 go_wp2_with fail
 refine kB.mono ?_;rintro e w3 ⟨rfl, ar⟩;have ax := hid (ap.out.trans ar);clear kB ar x0 x1 x2 x3 x4 x5 y0 y1 y2 y3 y4 y5
 cases b0
 case false =>
  have HR := (show Hid (OutS lo M gp gf gl w w3 (.returned (.bool false)) RP) from by
   rw [ju.out]
   exact ⟨rfl, fun cJ e => absurd (Ui e).1 (by simp), SpK.same (HI.out w3 ax.out).2.2.2.2.2.2⟩)
  go_wp2;go_ret;exact HR.out
 obtain ⟨tb, n, c, Ar, mE⟩ : ∃ tb n c, tv = Q4 tb n c ∧ n = ts.length := by
  rcases (HI.out w3 ax.out).2.1.trow.2 with ⟨_, h0⟩ | ⟨tb, c, cur, Ar, _⟩
  ·rw [h0] at hk; exact absurd hk (Nat.not_lt_zero _)
  ·exact ⟨tb, _, c, Ar, rfl⟩
 subst Ar;obtain ⟨wa, a8, cC⟩ := ((HI.out w3 ax.out).2.1.wr ts[k] (List.getElem_mem hk)).form;obtain ⟨wn, wF⟩ : ∃ n, ts[k].ps.length = n := ⟨_, rfl⟩;rw [wF] at cC
 have IV : (k : Int) < (n : Int) := by omega
 have Ex := (show Hid (∀ wx rv rs la ln lc ls, SpN wx lo rv rs (Q4 tb n c) ts la ln lc ls cv cs → wx.cell? ⟨tb, k * 2 + 1, none⟩ = some (.slice wa wn a8)) from fun wx rv rs la ln lc ls h => by rw [← cC]; exact VE (K := kTx) h.trow k 1 hk (by decide));have oB := hid cC;have M7 := hid wF;have Ap := hid mE;have yS := hid re;clear cC wF mE re
 obtain ⟨va, vn, vc, Ss⟩ : ∃ a n c, rv = .slice a n c := by
  rcases (HI.out w3 ax.out).2.1.recs.row.2 with ⟨e, _⟩ | ⟨_, _, _, e, _⟩ <;> exact ⟨_, _, _, e⟩
 subst Ss;have x0 := (jH.out (HI.out w3 ax.out).2.2.1).1
 go_upto_if 100 with fail
 go_cut [7] (fun z wx => z = V (k : Int) ∧ ∃ (ra : Option Addr) (rn rc : Nat) (qs : List EHeapRecord), Hid (SpB wx M gp gf gl st.up (.slice ra rn rc) (Q4 tb n c) (.slice la ln lc) st.told hc cv ∧ SpN wx lo (.slice ra rn rc) qs (Q4 tb n c) ts la ln lc ls cv cs ∧ jZ9 qs = (if kd = 6 then Uq st.recs WS else st.recs) ∧ SpK lo w wx ∧ Blk wx X 71 [V kd, V stx, V ah, V cnt, .slice sa sn sc, .slice ka kn kc] ∧ lo ≤ wx.heap.size))
 case first =>
  as_aux_lemma =>
  by_cases k6 : kd = 6
  case neg =>
   have k7 : kd = 7 := Decidable.byContradiction fun h => k67 ⟨k6, h⟩;have HR := (show Hid _ from And.intro (HI.out w3 ax.out).1 (And.intro (HI.out w3 ax.out).2.1 (And.intro (show jZ9 rs = (if kd = 6 then Uq st.recs WS else st.recs) from by rw [if_neg k6]; exact HE.out.1) (And.intro (SpK.same (lo := lo) (HI.out w3 ax.out).2.2.2.2.2.2) (And.intro (HI.out w3 ax.out).2.2.1 (HI.out w3 ax.out).2.2.2.2.1)))));clear k6 k67;subst k7
   go_wp2_with fail
   go_meet
   case rel => exact ⟨rfl, va, vn, vc, rs, HR⟩
  have bI := hid k6;clear k67;subst k6
  go_upto_region 22 with fail
  refine TT (fun wx : World => wx.cell? ⟨M, 4, none⟩ = some (.slice va vn vc) ∧ wx.cell? ⟨M, 5, none⟩ = some (Q4 tb n c) ∧ wx.cell? ⟨tb, k * 2 + 1, none⟩ = some (.slice wa wn a8)) 16 17 rfl (by kernel_rfl) ?_;have aR := hid (ax.out.trans kZ0.drew);generalize World.drew w3 = w4 at aR ⊢;have hS : (fun wx : World => wx.cell? ⟨M, 4, none⟩ = some (.slice va vn vc) ∧ wx.cell? ⟨M, 5, none⟩ = some (Q4 tb n c) ∧ wx.cell? ⟨tb, k * 2 + 1, none⟩ = some (.slice wa wn a8)) w4 := ⟨Blk.cell (HI.out w4 aR.out).1 4, Blk.cell (HI.out w4 aR.out).1 5, Ex.out _ _ _ _ _ _ _ (HI.out w4 aR.out).2.1⟩;have cU : st.txns[k] ∈ st.txns := List.getElem_mem gu
  have kW := jar (.slice va vn vc) rs (.slice wa wn a8) ts[k].ps w4 (by
   have h1 := Kb.out _ cU;rw [fZ.out.2, ← yS.out, ← HE.out.1, TQ] at h1
   have h2 : (TU ts[k].ps).length = ts[k].ps.length := by simp [TU]
   omega) (fun p hp => by have := (Qy.out p hp).2; omega) (fun p hp => by have := ((QS.out _ cU).of (ws := ts[k].ps) (by rw [fZ.out.2]; exact yS.out) p hp).2; omega) (HI.out w4 aR.out).2.1.recs.rd (by rw [← oB.out]; exact ((HI.out w4 aR.out).2.1.wr ts[k] (List.getElem_mem hk)).rd)
  rw [HE.out.1, yS.out] at kW;clear cU x0;refine tk 0 101 hS ?_;refine tk 1 102 hS ?_;refine tk 2 103 hS ?_;refine tk 3 104 hS ?_;refine tk 4 105 hS ?_;refine tk 5 106 hS ?_;refine tk 6 107 hS ?_;refine tk 7 108 hS ?_;refine tk 8 109 hS ?_;refine tk 9 110 hS ?_;refine tk 10 111 hS ?_;refine tk 11 112 hS ?_;refine tk 12 113 hS ?_;refine o1Q 13 (fun Kc ak => ?_);go_simp;refine kW.mono ?_;rintro e w5 ⟨oa, on, oc, O, rfl, sK, iO⟩;have aH := hid (aR.out.trans iO.same);have r8 := hid iO;have rD := hid sK;have ru := hid (HI.out w4 aR.out).2.2.2.2.1;clear kW iO sK hS aR;have hS : (fun wx : World => wx.cell? ⟨M, 4, none⟩ = some (.slice va vn vc) ∧ wx.cell? ⟨M, 5, none⟩ = some (Q4 tb n c) ∧ wx.cell? ⟨tb, k * 2 + 1, none⟩ = some (.slice wa wn a8)) w5 := ⟨Blk.cell (HI.out w5 aH.out).1 4, Blk.cell (HI.out w5 aH.out).1 5, Ex.out _ _ _ _ _ _ _ (HI.out w5 aH.out).2.1⟩
  go_wp2_with fail
  refine ak.out _ _ (fun _ => hS) ?_;clear ak Kc
  try simp only [Act.put, sA, s0, sS]
  refine o1Q 14 (fun Kc ak => ?_);go_simp;refine ak.out _ _ (fun _ => hS) ?_;clear ak Kc
  try simp only [Act.put, sA, s0, sS]
  refine o1Q 15 (fun Kc ak => ?_);go_simp;refine ak.out _ _ (fun _ => hS) ?_;clear ak Kc
  try simp only [Act.put, sA, s0, sS]
  have m4 := Blk.cell (HI.out w5 aH.out).1 4;simp only [List.getElem?_cons_zero, List.getElem?_cons_succ] at m4;have f4 := Blk.frozen (HI.out w5 aH.out).1 4;refine o1Q 16 (fun Kc ak => ?_);go_simp;refine ak.out _ _ (fun h => absurd rfl h) ?_;clear ak Kc;refine TS (by kernel_rfl) ?_
  try simp only [Act.put, sA, s0, sS]
  have aN : Kept (fun b => b = M) w5 (w5.setCell ⟨M, 4, none⟩ (.slice oa on oc)) := Kept.setCell (R := fun b => b = M) kZ0 (p := ⟨M, 4, none⟩) (.inr rfl) _
  have HR := (show Hid (SpB (w5.setCell ⟨M, 4, none⟩ (.slice oa on oc)) M gp gf gl st.up (.slice oa on oc) (Q4 tb n c) (.slice la ln lc) st.told hc cv ∧ SpN (w5.setCell ⟨M, 4, none⟩ (.slice oa on oc)) lo (.slice oa on oc) O (Q4 tb n c) ts la ln lc ls cv cs ∧ jZ9 O = (if (6 : Int) = 6 then Uq st.recs WS else st.recs) ∧ SpK lo w (w5.setCell ⟨M, 4, none⟩ (.slice oa on oc)) ∧ Blk (w5.setCell ⟨M, 4, none⟩ (.slice oa on oc)) X 71 [V 6, V stx, V ah, V cnt, .slice sa sn sc, .slice ka kn kc] ∧ lo ≤ (w5.setCell ⟨M, 4, none⟩ (.slice oa on oc)).heap.size) from by
   have hi := HI.out w5 aH.out
   have Nc : SpN w5 lo (.slice oa on oc) O (Q4 tb n c) ts la ln lc ls cv cs := by
    have h := hi.2.1;exact ⟨r8.out.own, h.trow, h.wr, h.each, h.lk, h.cut, h.ca, fun b hb => by have := r8.out.foot b hb; have := ru.out; omega, h.loT, h.loW⟩
   have cA := Nc.box hi.1 aN;refine ⟨Blk.stored hi.1 4 (.slice oa on oc), cA.1, by rw [if_pos rfl]; exact rD.out, (SpK.same hi.2.2.2.2.2.2).trans ⟨cA.2, aN.mono (fun b _ e => by rw [e]; exact cO)⟩, hi.2.2.1.kept aN (by omega), ?_⟩;have := aN.size;have := hi.2.2.2.2.1
   omega)
  clear aN hS m4 f4 aH r8 rD ru;generalize w5.setCell ⟨M, 4, none⟩ (.slice oa on oc) = w6 at HR ⊢
  go_wp2_with fail
  go_meet
  case rel => exact ⟨rfl, oa, on, oc, O, HR⟩
 case rest =>
 obtain ⟨rfl, qa, qn, qc, qs, HQ⟩ := hcut;generalize wc = w4 at HQ ⊢;clear ax x0 mR gZ MX jE BI ik ap
 go_wp2_with fail
 refine TT (fun wx : World => wx.cell? ⟨M, 6, none⟩ = some (.slice la ln lc) ∧ wx.cell? ⟨X, 1, none⟩ = some (V stx)) 11 12 rfl (by kernel_rfl) ?_;have aP : Same w4 (World.drew w4) := kZ0.drew;generalize World.drew w4 = w5 at aP ⊢;have cP := hid (Blk.same HQ.out.1 aP);have fk := hid (HQ.out.2.1.same aP);have jx := hid HQ.out.2.2.1;have aH := (show Hid (SpK lo w w5) from HQ.out.2.2.2.1.trans (SpK.same aP));have gw := hid (HQ.out.2.2.2.2.1.same aP)
 have jr : lo ≤ w5.heap.size := by have := aP.size; have := HQ.out.2.2.2.2.2; omega
 clear aP HQ;have hS : (fun wx : World => wx.cell? ⟨M, 6, none⟩ = some (.slice la ln lc) ∧ wx.cell? ⟨X, 1, none⟩ = some (V stx)) w5 := ⟨Blk.cell cP.out 6, gw.out.cell 1⟩;refine tk 0 117 hS ?_;refine tk 1 118 hS ?_;refine tk 2 119 hS ?_;refine tk 3 120 hS ?_;refine tk 4 121 hS ?_;refine tk 5 122 hS ?_;refine tk 6 123 hS ?_;refine o1Q 7 (fun Kc ak => ?_);go_simp;refine (Y9 ⟨160, la, ln, lc, ls⟩ stx w5 fk.out.rdF).mono ?_;rintro e w6 ⟨y, rfl, gX, ms, _, iq, aN⟩;obtain ⟨yc, ⟨ye, ya, yn, bf, yb⟩⟩ := y;have kY : ye = 160 := ms;subst kY;dsimp only [StLockResult.val, FR.v];have dL := (show Hid (w6.ownsRow 0 160 3 (.slice ya yn bf) yn (vals .i64 yb)) from iq.own _ List.mem_cons_self)
 have EX := (show Hid (tri yb = tri (Xl st.locks stx).2) from by
  have h1 : (Xl (tri ls) stx).2 = yb := (congrArg Prod.snd gX).symm
  show tri yb = tri (Xl st.locks stx).2
  rw [← HE.out.2.2.1, h1])
 have eF := hid (Blk.same cP.out aN);have kg := hid (fk.out.same aN);have bI := hid (aH.out.trans (SpK.same aN));have yG := hid (gw.out.same aN)
 have yC : lo ≤ w6.heap.size := by have := aN.size; omega
 clear gX ms iq aN hS cP fk aH gw jr;have hS : (fun wx : World => wx.cell? ⟨M, 6, none⟩ = some (.slice la ln lc) ∧ wx.cell? ⟨X, 1, none⟩ = some (V stx)) w6 := ⟨Blk.cell eF.out 6, yG.out.cell 1⟩
 go_wp2_with fail
 refine ak.out _ _ (fun _ => hS) ?_;clear ak Kc
 try simp only [Act.put, sA, s0, sS]
 refine o1Q 8 (fun Kc ak => ?_);go_simp;refine ak.out _ _ (fun _ => hS) ?_;clear ak Kc
 try simp only [Act.put, sA, s0, sS]
 refine o1Q 9 (fun Kc ak => ?_);go_simp;refine ak.out _ _ (fun _ => hS) ?_;clear ak Kc
 try simp only [Act.put, sA, s0, sS]
 refine o1Q 10 (fun Kc ak => ?_);go_simp;refine ak.out _ _ (fun _ => hS) ?_;clear ak Kc
 try simp only [Act.put, sA, s0, sS]
 have c6 := Blk.cell eF.out 6;simp only [List.getElem?_cons_zero, List.getElem?_cons_succ] at c6;have f6 := Blk.frozen eF.out 6;refine o1Q 11 (fun Kc ak => ?_);go_simp;refine ak.out _ _ (fun h => absurd rfl h) ?_;clear ak Kc;refine TS (by kernel_rfl) ?_
 try simp only [Act.put, sA, s0, sS]
 have bN : Kept (fun b => b = M) w6 (w6.setCell ⟨M, 6, none⟩ (.slice ya yn bf)) := Kept.setCell (R := fun b => b = M) kZ0 (p := ⟨M, 6, none⟩) (.inr rfl) _;have fR := (show Hid (SpB (w6.setCell ⟨M, 6, none⟩ (.slice ya yn bf)) M gp gf gl st.up (.slice qa qn qc) (Q4 tb n c) (.slice ya yn bf) st.told hc cv) from Blk.stored eF.out 6 (.slice ya yn bf));have cA := kg.out.box eF.out bN;have fE := (show Hid (SpN (w6.setCell ⟨M, 6, none⟩ (.slice ya yn bf)) lo (.slice qa qn qc) qs (Q4 tb n c) ts ya yn bf yb cv cs) from cA.1.lock (bN.owns dL.out (Un eF.out dL.out (by decide))));have aZ := hid (bI.out.trans ⟨cA.2, bN.mono (fun b _ e => by rw [e]; exact cO)⟩)
 have kq : lo ≤ (w6.setCell ⟨M, 6, none⟩ (.slice ya yn bf)).heap.size := by have := bN.size; omega
 clear hS c6 f6 cA bN eF kg yG bI yC dL;generalize w6.setCell ⟨M, 6, none⟩ (.slice ya yn bf) = w7 at fR fE aZ kq ⊢
 go_wp2_with fail
 have TB : n ≤ c := by
  rcases fE.out.trow.2 with ⟨e, _⟩ | ⟨_, _, _, e, _, _, hc, _⟩
  ·cases e
  ·injection e with _ e1 e2
   omega
 obtain ⟨a7, MN⟩ : ∃ a7 : Option Addr, (if c = k + 1 then some (⟨tb, 0, none⟩ : Addr) else some ⟨tb, (k + 1) * 2, none⟩) = a7 := ⟨_, rfl⟩
 have Fz := (show Hid (∃ AR : Addr, a7 = some AR ∧ (0 < n - (k + 1) → AR = ⟨tb, (k + 1) * 2, none⟩)) from by
  show ∃ AR : Addr, a7 = some AR ∧ (0 < n - (k + 1) → AR = ⟨tb, (k + 1) * 2, none⟩)
  rw [← MN]
  by_cases h : c = k + 1
  ·exact ⟨_, if_pos h, fun h2 => by omega⟩
  ·exact ⟨_, if_neg h, fun _ => rfl⟩)
 have R1 : (k : Int) + 1 ≤ (n : Int) := by omega
 have ak : (k : Int) ≤ (c : Int) := by omega
 have Jr : (k : Int) + 1 ≤ (c : Int) := by omega
 have Sb : 0 ≤ (k : Int) + 1 := by omega
 have Rc : ((k : Int) + 1).toNat = k + 1 := by omega
 have Ha : (n : Int) ≤ (c : Int) := by omega
 have yN : IntKind.i64.wrap ((k : Int) + 1) = (k : Int) + 1 := by
  rw [IntKind.wrap_i64];have := h8;have := zi.out;omega
 refine TT (fun wx : World => wx.cell? ⟨M, 5, none⟩ = some (Q4 tb n c)) 19 20 rfl (by kernel_rfl) ?_;have C4 := (show Hid (Same w7 (World.drew w7)) from kZ0.drew);generalize World.drew w7 = w8 at C4 ⊢;have hS : (fun wx : World => wx.cell? ⟨M, 5, none⟩ = some (Q4 tb n c)) w8 := Blk.cell (Blk.same fR.out C4.out) 5;refine tk 0 128 hS ?_;refine tk 2 130 hS ?_;refine tk 3 131 hS ?_;refine tk 4 132 hS ?_;refine tk 5 133 hS ?_;refine tk 6 134 hS ?_;refine tkV 7 135 (Q4 tb k c) hS ?_;refine tk 9 137 hS ?_;refine tk 10 138 hS ?_;refine tk 11 139 hS ?_;refine tk 12 140 hS ?_;refine tk 13 141 hS ?_;refine tk 14 142 hS ?_;refine tkV 15 143 (.slice a7 (n - (k + 1)) (c - (k + 1))) hS ?_;clear R1 ak Jr Sb Rc Ha yN MN;obtain ⟨AR, rfl, DI⟩ := Fz.out;have Ra := hid DI;clear DI Fz;have TI := (show Hid (k < n) from by show k < n; omega);refine o1Q 1 (fun Kc ak => ?_);go_simp;have sB := Blk.newL w8 [] 75;have eZ : Same w8 (w8.alloc (.cells #[] 75)) := kZ0.alloc _;obtain ⟨Y, hY⟩ : ∃ Y, w8.heap.size = Y := ⟨_, rfl⟩;rw [hY] at sB
 try rw [hY]
 have ie := (show Hid (w7.heap.size ≤ Y) from by have := C4.out.size; show w7.heap.size ≤ Y; omega);generalize w8.alloc (.cells #[] 75) = w9 at sB eZ ⊢;have iM := hid sB;have CZ := hid (C4.out.trans eZ);clear sB eZ hY hS C4;have hS : (fun wx : World => wx.cell? ⟨M, 5, none⟩ = some (Q4 tb n c)) w9 := Blk.cell (Blk.same fR.out CZ.out) 5;refine ak.out _ _ (fun _ => hS) ?_;clear ak Kc
 try simp only [Act.put, sA, s0, sS]
 have tO := (show Hid (∀ t ∈ ts, ∃ a n c, t.v = .slice a n c) from fun t ht => by
  obtain ⟨a, c, e⟩ := (fE.out.wr t ht).form
  exact ⟨a, _, c, e⟩)
 have Ms := (show Hid (ts.length ≤ 8) from by show ts.length ≤ 8; rw [zi.out]; exact h8);refine o1Q 8 (fun Kc ak => ?_)
 refine jaw rfl (.tmp 129) (.tmp 135) (by rfl) (us := ts.take k) (by rfl) (by rfl) (by rw [List.length_take]; omega) (fun j u hu => by
  have h1 := jbn (fE.out.same CZ.out).trow (jcC ts k hu)
  simpa [Addr.add_lit] using h1) (jdK (fun t ht => tO.out t (List.mem_of_mem_take ht))) (je4 iM.out) (by have := Ms.out; rw [List.length_take]; simp; omega) ?_
 intro Kf Ij IQ dQ CX uO pA
 have oM : ∀ b, (Value.slice Kf Ij IQ).ownBlock = some b → w7.heap.size ≤ b := fun b hb => by
  rcases uO b hb with h1 | h1
  ·have e : Y = b := (by simpa [Value.ownBlock] using h1)
   have := ie.out;omega
  ·have := CZ.out.size
   omega
 have qy := (show Hid (Same w7 dQ) from CZ.out.next pA (fun i hi e => by
  have e : Y = i := (by simpa [Value.ownBlock] using e);have := ie.out
  omega))
 have Ck := hid CX;have zB := hid oM;clear CX uO pA oM hS iM CZ ie;have hS : (fun wx : World => wx.cell? ⟨M, 5, none⟩ = some (Q4 tb n c)) dQ := Blk.cell (Blk.same fR.out qy.out) 5;refine ak.out _ _ (fun _ => hS) ?_;clear ak Kc
 try simp only [List.getElem_toArray, List.getElem_cons_succ, List.getElem_cons_zero]
 try simp only [Act.put, sA, s0, sS]
 refine o1Q 16 (fun Kc ak => ?_)
 refine jaw rfl (.tmp 136) (.tmp 143) (by rfl) (us := ts.drop (k + 1)) (by rfl) (by rfl) (by rw [List.length_drop, Ap.out]) (fun j u hu => by
  have hj := (List.getElem?_eq_some_iff.1 hu).1;have hl : (kTx.all (ts.drop (k + 1))).length = (ts.drop (k + 1)).length * 2 := kTx.all_length _;rw [List.length_drop] at hl;have ly := Ap.out;rw [Ra.out (by omega)];have h1 := jbn (fE.out.same qy.out).trow (jcD ts (k + 1) hk hu)
  simpa [Addr.add_lit] using h1) (jdK (fun t ht => tO.out t (List.mem_of_mem_drop ht))) Ck.out (by have := Ms.out; simp only [List.nil_append, List.length_take, List.length_drop]; omega) ?_
 intro mD mh lZ ep B7 wC ET
 have CY := (show Hid (∀ b, (Value.slice mD mh lZ).ownBlock = some b → lo ≤ b) from fun b hb => by
  rcases wC b hb with h1 | h1
  ·have := zB.out b h1
   omega
  ·have := qy.out.size
   omega)
 have qG := (show Hid (Same w7 ep) from qy.out.next ET (fun i hi e => by
  have := zB.out i e
  omega))
 have Fc := (show Hid (ep.ownsRow 0 75 2 (.slice mD mh lZ) (ts.eraseIdx k).length (kTx.all (ts.eraseIdx k))) from by
  have h1 := B7;rw [List.nil_append, ja5] at h1
  exact h1)
 clear B7 wC ET hS Ck zB qy;have hS : (fun wx : World => wx.cell? ⟨M, 5, none⟩ = some (Q4 tb n c)) ep := Blk.cell (Blk.same fR.out qG.out) 5;refine ak.out _ _ (fun _ => hS) ?_;clear ak Kc
 try simp only [List.getElem_toArray, List.getElem_cons_succ, List.getElem_cons_zero]
 try simp only [Act.put, sA, s0, sS]
 have nQ := hid (Blk.same fR.out qG.out);have Bl := hid (fE.out.less qG.out Fc.out CY.out);have m5 := Blk.cell nQ.out 5;simp only [List.getElem?_cons_zero, List.getElem?_cons_succ] at m5;have f5 := Blk.frozen nQ.out 5;refine o1Q 17 (fun Kc ak => ?_);go_simp;refine ak.out _ _ (fun _ => hS) ?_;clear ak Kc
 try simp only [Act.put, sA, s0, sS]
 refine o1Q 18 (fun Kc ak => ?_);go_simp;refine ak.out _ _ (fun _ => hS) ?_;clear ak Kc
 try simp only [Act.put, sA, s0, sS]
 refine o1Q 19 (fun Kc ak => ?_);go_simp;refine ak.out _ _ (fun h => absurd rfl h) ?_;clear ak Kc;refine TS (by kernel_rfl) ?_
 try simp only [Act.put, sA, s0, sS]
 have HR := (show Hid (OutS lo M gp gf gl w (ep.setCell ⟨M, 5, none⟩ (.slice mD mh lZ)) (.returned (.bool true)) RP) from by
  have CI : Kept (fun b => b = M) ep (ep.setCell ⟨M, 5, none⟩ (.slice mD mh lZ)) := Kept.setCell (R := fun b => b = M) kZ0 (p := ⟨M, 5, none⟩) (.inr rfl) _;have cA := Bl.out.box nQ.out CI;rw [ju.out];refine ⟨rfl, fun cJ e => ?_, (aZ.out.trans (SpK.same qG.out)).trans ⟨cA.2, CI.mono (fun b _ e => by rw [e]; exact cO)⟩⟩;rw [← (Ui e).2];refine ⟨_, qs, _, ts.eraseIdx k, ya, yn, bf, yb, hc, cv, cs, Blk.stored nQ.out 5 (.slice mD mh lZ), cA.1, cO, jx.out, ?_, EX.out, HE.out.2.2.2.1, HE.out.2.2.2.2⟩;have h1 := jdJ st.txns k gu eU;rw [fZ.out.1] at h1;rw [jcE, HE.out.2.1]
  exact h1.symm)
 clear hS m5 f5 nQ Bl Fc CY qG fR fE;generalize ep.setCell ⟨M, 5, none⟩ (.slice mD mh lZ) = gJ at HR ⊢;go_wp2;go_ret;exact HR.out
end Go.Proofs.YtljfcdkhicffcaaGreat
