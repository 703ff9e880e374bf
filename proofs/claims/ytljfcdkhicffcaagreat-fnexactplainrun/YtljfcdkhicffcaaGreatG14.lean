import Derived.Test.YtljfcdkhicffcaaGreatG13
import Derived.Deep.AppendSrc
namespace Go.Proofs.YtljfcdkhicffcaaGreat
set_option maxRecDepth 100000
set_option maxHeartbeats 8000000
set_option linter.unusedVariables false
set_option linter.unusedSimpArgs false
open Go Go.RowKit
def LkB (w wx : World) (z : Value) (R : Int × List Int) : Prop := ∃ (Z : Nat) (yc : Int) (ya : Option Addr) (yn bf : Nat) (yb : List Int), z = Q3 Z 0 ∧ Blk wx Z 142 [V yc, .slice ya yn bf] ∧ (yc, yb) = R ∧ wx.ownsRow 0 160 3 (.slice ya yn bf) yn (vals .i64 yb) ∧ w.heap.size ≤ Z ∧ Same w wx
theorem LkB.put {w wx : World} {Z : Nat} {yc : Int} {ya : Option Addr} {yn bf : Nat} {yb : List Int} {R : Int × List Int} {x0 x1 : Value} (hb : Blk wx Z 142 [x0, x1]) (hl : wx.ownsRow 0 160 3 (.slice ya yn bf) yn (vals .i64 yb)) (hd : (yc, yb) = R) (hk : Same w wx) (hZ : w.heap.size ≤ Z) : LkB w ((wx.setCell ⟨Z, 0, none⟩ (V yc)).setCell ⟨Z, 1, none⟩ (.slice ya yn bf)) (Q3 Z 0) R := by
 have ae : Kept (fun b => b = Z) wx ((wx.setCell ⟨Z, 0, none⟩ (V yc)).setCell ⟨Z, 1, none⟩ (.slice ya yn bf)) := Kept.setCell (R := fun b => b = Z) (Kept.setCell (R := fun b => b = Z) kZ0 (p := ⟨Z, 0, none⟩) (.inr rfl) _) (p := ⟨Z, 1, none⟩) (.inr rfl) _;exact ⟨Z, yc, ya, yn, bf, yb, rfl, (hb.stored 0 (V yc)).stored 1 (.slice ya yn bf), hd, ae.owns hl (Un hb hl (by decide)), hZ, hk.next ae (fun i hi e => by omega)⟩
theorem jf2 {w w' : World} {D : Nat} {e : TypeId} {ys : List Value} {v : Value} {bs : List Int} (hb : Blk w D e ys) (hy : ∀ v ∈ ys, ∀ x, v ≠ .int .u8 x) (h : Rd .u8 w v bs) (hk : Kept (fun b => b = D) w w') : Rd .u8 w' v bs := by
 rcases h.2 with ⟨rfl, a, c, rfl, rz⟩ | ⟨b, off, c, rfl, hc, bE⟩
 ·exact ⟨h.1, .inl ⟨rfl, a, c, rfl, rz⟩⟩
 by_cases he : bs = []
 ·subst he
  exact ⟨h.1, .inr ⟨b, off, c, rfl, hc, fun i hi => by simp at hi⟩⟩
 have Jl : 0 < bs.length := List.length_pos_iff.2 he
 have RF : ¬ b = D := fun e2 => by
  subst e2;have h2 := bE 0 Jl;have h3 := hb.cell off;rw [Nat.add_zero, h3] at h2;exact hy _ (List.mem_of_getElem? h2) _ rfl
 exact h.kept hk (fun b' bw e3 => by
  have e4 : b = b' := (by simpa [Value.ownBlock] using bw)
  exact RF (e4.trans e3))
theorem jf3 {rs : List RcD} {ws : List WrD} (hr : OkR rs) (hw : OkW ws) (id : Int) : OkB (V7 rs ws id).2 := by
 have h1 : ∀ (l : List RcD) (o : Bool × List Int), OkR l → OkB o.2 → OkB (l.foldl (V9 id) o).2 := by
  intro l
  induction l with
  | nil => intro o _ h; exact h
  | cons x xs ih =>
   intro o hl h;refine ih _ (fun y hy => hl y (List.mem_cons_of_mem _ hy)) ?_;unfold V9
   split
   ·exact hl x List.mem_cons_self
   ·exact h
 have h2 : ∀ (l : List WrD) (o : Bool × List Int), OkW l → OkB o.2 → OkB (l.foldl (X4 id) o).2 := by
  intro l
  induction l with
  | nil => intro o _ h; exact h
  | cons x xs ih =>
   intro o hl h;refine ih _ (fun y hy => hl y (List.mem_cons_of_mem _ hy)) ?_;unfold X4
   split
   ·exact hl x List.mem_cons_self
   ·exact h
 exact h2 ws _ hw (h1 rs _ hr ⟨fun x hx => by simp at hx, by simp⟩)
theorem jho {gp gf gl told : Int} {up hc : Bool} {rv tv cv : Value} {la : Option Addr} {ln lc : Nat} (h1 : ∀ x, rv ≠ .int .u8 x) (h2 : ∀ x, tv ≠ .int .u8 x) (h3 : ∀ x, cv ≠ .int .u8 x) : ∀ v ∈ [V gp, V gf, V gl, .bool up, rv, tv, .slice la ln lc, V told, .bool hc, cv], ∀ x, v ≠ .int .u8 x := by
 intro v hv x;simp only [List.mem_cons, List.not_mem_nil, or_false] at hv
 rcases hv with rfl | rfl | rfl | rfl | rfl | rfl | rfl | rfl | rfl | rfl
 ·exact fun h => by cases h
 ·exact fun h => by cases h
 ·exact fun h => by cases h
 ·exact fun h => by cases h
 ·exact h1 x
 ·exact h2 x
 ·exact fun h => by cases h
 ·exact fun h => by cases h
 ·exact fun h => by cases h
 ·exact h3 x
theorem jbU {gp : Int} {st : PlS} {WS : List WrD} {kd stx ah cnt : Int} {sd kb : List Int} {cd tx rid : Int} {db : List Int} {rb : List RcD} {us : Int} {vb : List Int} {mw : Int} {sn rn : Nat} (h1 : ¬ (ah < 0 ∨ gp * 32 ≤ ah)) (h2 : (VI st.locks stx ah (if kd = 5 then 1 else 2)).1 = 0) (hv : (true, vb) = V7 st.recs WS ah) (hm : XQ st.recs WS ah = mw) (hs : sd.length = sn) (hr : rb.length = rn) :
  Vw gp st WS (kd, stx, ah, cnt, sd, kb) (cd, tx, rid, db, rb, us) = if kd = 5 then ifB (decide (cd = 0) && decide (tx = 0) && decide (rid = 0) && decide (rn = 0) && decide (db = vb)) { st with locks := Vb st.locks stx ah 1 } else if Ue (cd, tx, rid, db, rb, us) 8 = true ∨ (kd = 3 ∧ mw < (sn : Int) ∧ Ue (cd, tx, rid, db, rb, us) 7 = true) then some st else ifB (Ue (cd, tx, rid, db, rb, us) 0) (UL st stx ah (decide (kd = 3), sd)) := by
 have hu : (V7 st.recs WS ah).1 = true := by rw [← hv]
 have hw : (V7 st.recs WS ah).2 = vb := by rw [← hv]
 have e1 : ¬ (VI st.locks stx ah (if kd = 5 then 1 else 2)).1 ≠ 0 := fun h => h h2
 have e2 : ¬ (V7 st.recs WS ah).1 = false := by rw [hu]; exact fun h => by cases h
 unfold Vw;dsimp only;rw [if_neg h1, if_neg e1, if_neg e2, hw, hm, hs, hr]
theorem jbV (lo M : Nat) (gp gf gl : Int) (st : PlS) (k : Nat) (kd stx ah cnt : Int) (sa : Option Addr) (sn sc : Nat) (ka : Option Addr) (kn kc : Nat) (sd kb : List Int) (cd tx rid : Int) (da : Option Addr) (dn dc : Nat) (ra : Option Addr) (rn rc : Nat) (us : Int) (db : List Int) (rb : List RcD) (w : World) (h : SpS w lo M gp gf gl st) (cN : lo ≤ w.heap.size) (hg : 0 ≤ gp ∧ gp ≤ 1000) (hk : k < st.txns.length) (Ju : st.txns[k].1 = stx)
  (eU : ∀ i j, (hi : i < st.txns.length) → (hj : j < st.txns.length) → st.txns[i].1 = st.txns[j].1 → i = j) (gE : ∀ t ∈ st.txns, t.2.length ≤ 10000000) (sT : OkR st.recs) (Am : ∀ t ∈ st.txns, OkW t.2) (dk : sd.length = sn) (gD : RdL lo w (.slice sa sn sc) sd) (r6 : OkB sd) (dS : db.length = dn) (ek : RdL lo w (.slice da dn dc) db) (pj : OkB db) (mZ : rb.length = rn) (dN : kd = 3 ∨ kd = 4 ∨ kd = 5) :
  Calls Tryz.prog 88 #[Q3 M 0, V (k : Int), .agg #[V kd, V stx, V ah, V cnt, .slice sa sn sc, .slice ka kn kc], .agg #[V cd, V tx, V rid, .slice da dn dc, .slice ra rn rc, V us]] w fun e w' => OutS lo M gp gf gl w w' e (Vw gp st st.txns[k].2 (kd, stx, ah, cnt, sd, kb) (cd, tx, rid, db, rb, us)) := by
 have HS := hid h;obtain ⟨rv, rs, tv, ts, la, ln, lc, ls, hc, cv, cs, hb, hn, cO, e1, e2, e3, e4, e5⟩ := h;have HB := hid hb;have HN := hid hn;have Jq := (show Hid (∀ x, rv ≠ .int .u8 x) from fun x e => by obtain ⟨_, _, h⟩ := hn.recs.rd.form; rw [e] at h; cases h);have JA := (show Hid (∀ x, tv ≠ .int .u8 x) from fun x e => by obtain ⟨_, _, h⟩ := (YN hn.trow).form; rw [e] at h; cases h);have Kg := (show Hid (∀ x, cv ≠ .int .u8 x) from fun x e => by obtain ⟨_, _, h⟩ := hn.cut.form; rw [e] at h; cases h);have HE := (show Hid (jZ9 rs = st.recs ∧ Uo ts = st.txns ∧ tri ls = st.locks ∧ TU cs = st.cut ∧ (hc = false → cs = [])) from ⟨e1, e2, e3, e4, e5⟩)
 have HT := (show Hid (k < ts.length ∧ ∀ gP : k < ts.length, TU ts[k].ps = st.txns[k].2) from ⟨by have := congrArg List.length e2; simp [Uo] at this; omega, fun gP => by
  have h1 : st.txns = ts.map ETx.dat := e2.symm;simp only [h1, List.getElem_map]
  rfl⟩)
 obtain ⟨WS, re⟩ : ∃ z, st.txns[k].2 = z := ⟨_, rfl⟩;have MG := (show Hid (OkR st.recs ∧ OkW WS) from ⟨sT, by rw [← re]; exact Am _ (List.getElem_mem hk)⟩);have BI := (show Hid (∀ (w2 : World) (u : Bool), SpS w2 lo M gp gf gl st → lo ≤ w2.heap.size → RdL lo w2 (.slice sa sn sc) sd → _) from fun w2 u h2 wo dZ => jau lo M gp gf gl st k ah u (.slice sa sn sc) sd w2 h2 wo hk eU (by have := r6.2; omega) gE dZ);rw [Ju] at BI;rw [re] at HT ⊢;have AP := hid gD;have PI := hid ek;have Gj := hid pj;have qX := hid dk;have gm := hid dS;have jM := hid mZ;have gh := Blk.newL w [V kd, V stx, V ah, V cnt, .slice sa sn sc, .slice ka kn kc] 71;have bT : Same w (w.alloc (.cells #[V kd, V stx, V ah, V cnt, .slice sa sn sc, .slice ka kn kc] 71)) := kZ0.alloc _;obtain ⟨X, aQ⟩ : ∃ X, w.heap.size = X := ⟨_, rfl⟩;have ie := Blk.newL (w.alloc (.cells #[V kd, V stx, V ah, V cnt, .slice sa sn sc, .slice ka kn kc] 71)) [V cd, V tx, V rid, .slice da dn dc, .slice ra rn rc, V us] 73;have gS : Same (w.alloc (.cells #[V kd, V stx, V ah, V cnt, .slice sa sn sc, .slice ka kn kc] 71)) ((w.alloc (.cells #[V kd, V stx, V ah, V cnt, .slice sa sn sc, .slice ka kn kc] 71)).alloc (.cells #[V cd, V tx, V rid, .slice da dn dc, .slice ra rn rc, V us] 73)) := kZ0.alloc _
 have bD : (w.alloc (.cells #[V kd, V stx, V ah, V cnt, .slice sa sn sc, .slice ka kn kc] 71)).heap.size = X + 1 := by rw [World.size_alloc, aQ]
 rw [aQ] at gh;rw [bD] at ie
 have Fq : M < X := by have := Blk.lt hb; omega
 clear hb hn e1 e2 e3 e4 e5 re sT Am eU gE gD ek pj r6 dk dS mZ;obtain ⟨RP, bS⟩ : ∃ z, Vw gp st WS (kd, stx, ah, cnt, sd, kb) (cd, tx, rid, db, rb, us) = z := ⟨_, rfl⟩;rw [bS];have bj := hid bS;clear bS
 go_enter Tryz.func88, Tryz.ntmps88
 go_upto_region 1 with fail
 try rw [aQ]
 try rw [bD]
 have gk := gh.same gS;have eR := bT.trans gS;generalize (w.alloc (.cells #[V kd, V stx, V ah, V cnt, .slice sa sn sc, .slice ka kn kc] 71)).alloc (.cells #[V cd, V tx, V rid, .slice da dn dc, .slice ra rn rc, V us] 73) = w1 at gk ie eR ⊢;have HX := hid gk;have HY := hid ie;have ao := hid eR;have bF := hid (Blk.same HB.out eR);have eM := hid (HN.out.same eR)
 have fW : lo ≤ w1.heap.size := by have := eR.size; omega
 clear gh ie gk eR bT gS bD aQ HB HN;have HI := (show Hid (∀ wx, Same w1 wx → SpB wx M gp gf gl st.up rv tv (.slice la ln lc) st.told hc cv ∧ SpN wx lo rv rs tv ts la ln lc ls cv cs ∧ Blk wx X 71 [V kd, V stx, V ah, V cnt, .slice sa sn sc, .slice ka kn kc] ∧ Blk wx (X + 1) 73 [V cd, V tx, V rid, .slice da dn dc, .slice ra rn rc, V us] ∧ lo ≤ wx.heap.size ∧ SpS wx lo M gp gf gl st ∧ Same w wx) from fun wx hx => ⟨Blk.same bF.out hx, eM.out.same hx, HX.out.same hx, HY.out.same hx, by have := hx.size; omega, HS.out.same (ao.out.trans hx), ao.out.trans hx⟩);clear HX HY ao bF eM fW HS;have gZ := (show Hid (∀ (c : Int) (st2 : PlS), (decide (cd = c) && decide (tx = 0) && decide (rid = 0) && decide (dn = 0) && decide (rn = 0)) = Ue (cd, tx, rid, db, rb, us) c) from fun c _ => by unfold Ue; rw [← gm.out, ← jM.out])
 have mR := (show Hid (∀ (c : Int) (w' : World), Same w1 w' → RP = ifB (Ue (cd, tx, rid, db, rb, us) c) st → OutS lo M gp gf gl w w' (.returned (.bool (decide (cd = c) && decide (tx = 0) && decide (rid = 0) && decide (dn = 0) && decide (rn = 0)))) RP) from fun c w' hk e => by
  rw [e, gZ.out c st]
  exact ⟨by rw [Xj], fun cJ e => by rw [← (Ui e).2]; exact (HI.out w' hk).2.2.2.2.2.1, SpK.same (HI.out w' hk).2.2.2.2.2.2⟩)
 have ik := (show Hid (∀ {wx : World}, Blk wx (X + 1) 73 [V cd, V tx, V rid, .slice da dn dc, .slice ra rn rc, V us] → wx.cell? ⟨X + 1, 0, none⟩ = some (V cd) ∧ wx.cell? ⟨X + 1, 1, none⟩ = some (V tx) ∧ wx.cell? ⟨X + 1, 2, none⟩ = some (V rid) ∧ wx.cell? ⟨X + 1, 3, none⟩ = some (.slice da dn dc) ∧ wx.cell? ⟨X + 1, 4, none⟩ = some (.slice ra rn rc) ∧ wx.cell? ⟨X + 1, 5, none⟩ = some (V us)) from fun h => ⟨h.cell 0, h.cell 1, h.cell 2, h.cell 3, h.cell 4, h.cell 5⟩);have jH := (show Hid (∀ {wx : World}, Blk wx X 71 [V kd, V stx, V ah, V cnt, .slice sa sn sc, .slice ka kn kc] → wx.cell? ⟨X, 0, none⟩ = some (V kd) ∧ wx.cell? ⟨X, 1, none⟩ = some (V stx) ∧ wx.cell? ⟨X, 2, none⟩ = some (V ah) ∧ wx.cell? ⟨X, 4, none⟩ = some (.slice sa sn sc)) from fun h => ⟨h.cell 0, h.cell 1, h.cell 2, h.cell 4⟩);obtain ⟨mo, iZ⟩ : ∃ z : Int, (if kd = 5 then 1 else 2) = z := ⟨_, rfl⟩;have Al := hid iZ
 have Au : IntKind.i64.wrap (gp * 32) = gp * 32 := by rw [IntKind.wrap_i64]; omega
 have jO := hid dN;have HG := hid hg;clear iZ dN hg;obtain ⟨x0, _, _, _⟩ := jH.out (HI.out w1 kZ0).2.2.1
 rename_i _ _ _
 go_upto_if 15 with fail
 go_cut [9] (fun z wx => z = V mo ∧ w1 = wx)
 case first =>
  as_aux_lemma =>
  by_cases h5 : kd = 5
  ·have e : mo = 1 := by rw [← Al.out, if_pos h5]
   subst e;subst h5
   go_wp2_with fail
   go_meet
   case rel => exact ⟨rfl, rfl⟩
  ·have e : mo = 2 := by rw [← Al.out, if_neg h5]
   subst e
   have q5 : (kd == 5) = false := by simp [h5]
   go_wp2_with fail
   go_meet
   case rel => exact ⟨rfl, rfl⟩
 case rest =>
 obtain ⟨rfl, rfl⟩ := hcut;clear x0
 go_upto_region 4 with fail
 go_cut [29] (fun z wx => z = .bool (decide (ah < 0) || decide (gp * 32 ≤ ah)) ∧ Hid (Same w1 wx))
 case first =>
  as_aux_lemma =>
  let Y2 : World → Prop := fun wx : World => wx.cell? ⟨X, 2, none⟩ = some (V ah) ∧ wx.cell? ⟨M, 0, none⟩ = some (V gp)
  refine TT Y2 99 14 rfl (by kernel_rfl) ?_;have bB := (show Hid (Same w1 (World.drew w1)) from kZ0.drew);generalize World.drew w1 = wd at bB ⊢;have hS : Y2 wd := ⟨(jH.out (HI.out wd bB.out).2.2.1).2.2.1, Blk.cell (HI.out wd bB.out).1 0⟩
  by_cases k0 : ah < 0
  ·have q0 : decide (ah < 0) = true := decide_eq_true k0
   have K0 := hid k0;refine tk 0 16 hS ?_;refine tk 1 17 hS ?_;refine tk 2 18 hS ?_;refine tk 3 19 hS ?_;refine tkS 4 20 hS ?_;refine tkS 5 21 hS ?_;refine tkS 6 22 hS ?_;refine tkS 7 23 hS ?_;refine tkS 8 24 hS ?_;refine tkS 9 25 hS ?_;refine tkS 10 26 hS ?_;refine tkS 11 27 hS ?_;refine tkS 12 28 hS ?_;refine tk 13 29 hS ?_;refine TS (by kernel_rfl) ?_
   try simp only [Act.put, sA, s0, sS]
   clear hS
   go_wp2_with fail
   go_meet
   case rel => exact ⟨by rw [decide_eq_true K0.out]; rfl, bB⟩
  ·have K0 := hid k0
   refine tk 0 16 hS ?_;refine tk 1 17 hS ?_;refine tk 2 18 hS ?_;refine tk 3 19 hS ?_;refine tk 4 20 hS ?_;refine tk 5 21 hS ?_;refine tk 6 22 hS ?_;refine tk 7 23 hS ?_;refine tk 8 24 hS ?_;refine tk 9 25 hS ?_;refine tk 10 26 hS ?_;refine tk 11 27 hS ?_;refine tk 12 28 hS ?_;refine tk 13 29 hS ?_;refine TS (by kernel_rfl) ?_
   try simp only [Act.put, sA, s0, sS]
   clear hS
   go_wp2_with fail
   go_meet
   case rel => exact ⟨by have hh : decide (ah < 0) = false := decide_eq_false (Int.not_lt.2 K0.out); rw [hh]; simp, bB⟩
 case rest =>
 obtain ⟨rfl, cf⟩ := hcut;obtain ⟨bad, bQ⟩ : ∃ z, (decide (ah < 0) || decide (gp * 32 ≤ ah)) = z := ⟨_, rfl⟩;rw [bQ];have mz := hid bQ;clear bQ Au;generalize wc = w2 at cf ⊢
 cases bad
 case true =>
  as_aux_lemma =>
  have HP := (show Hid (RP = ifB (Ue (cd, tx, rid, db, rb, us) 4) st) from by
   show RP = _
   rw [← bj.out];unfold Vw
   exact if_pos (by have h := mz.out; simpa using h))
  obtain ⟨y0, y1, y2, y3, y4, y5⟩ := ik.out (HI.out w2 cf.out).2.2.2.1;have kB := Vq cd tx rid da dn dc ra rn rc us 4 w2
  go_wp2_with fail
  refine kB.mono ?_;rintro e w3 ⟨rfl, ar⟩;have HR := hid (mR.out 4 w3 (cf.out.trans ar) HP.out);clear kB ar;go_wp2;go_ret;exact HR.out
 go_upto_region 6 with fail
 go_cut [10] (fun z wx => Hid (LkB w2 wx z (VI (tri ls) stx ah mo)))
 case first =>
  as_aux_lemma =>
  have bK := hid (HI.out w2 cf.out).1;have iY := hid (HI.out w2 cf.out).2.1;have eP := hid (HI.out w2 cf.out).2.2.1
  let Y1 : World → Prop := fun wx : World => wx.cell? ⟨M, 6, none⟩ = some (.slice la ln lc) ∧ wx.cell? ⟨X, 1, none⟩ = some (V stx) ∧ wx.cell? ⟨X, 2, none⟩ = some (V ah)
  refine TT Y1 11 12 rfl (by kernel_rfl) ?_;have fA := (show Hid (Same w2 (World.drew w2)) from kZ0.drew);generalize World.drew w2 = u0 at fA ⊢;have hS : Y1 u0 := ⟨fA.out.cellOf (Blk.cell bK.out 6) (fun e => e), fA.out.cellOf (eP.out.cell 1) (fun e => e), fA.out.cellOf (eP.out.cell 2) (fun e => e)⟩;refine tk 0 32 hS ?_;refine tk 1 33 hS ?_;refine tk 2 34 hS ?_;refine tk 3 35 hS ?_;refine tk 4 36 hS ?_;refine tk 5 37 hS ?_;refine tk 6 38 hS ?_;refine tk 7 39 hS ?_;refine tk 8 40 hS ?_;refine YH (i := 9) (j := 10) (by kernel_rfl) rfl rfl (fun Kc ak => ?_) (fun Kc ak => ?_)
  ·go_simp
   refine (V4 ⟨160, la, ln, lc, ls⟩ stx ah mo u0 (iY.out.rdF.same fA.out)).mono ?_;rintro e u1 ⟨y, rfl, gX, ms, _, iq, dq⟩;obtain ⟨yc, ⟨ye, ya, yn, bf, yb⟩⟩ := y;have kY : ye = 160 := ms;subst kY;dsimp only [StLockResult.val, FR.v];have nX := (show Hid (u1.ownsRow 0 160 3 (.slice ya yn bf) yn (vals .i64 yb)) from iq.own _ List.mem_cons_self);have ol := (show Hid ((yc, yb) = VI (tri ls) stx ah mo) from gX);have fQ : Y1 u1 := ⟨dq.cellOf hS.1 (fun e => e), dq.cellOf hS.2.1 (fun e => e), dq.cellOf hS.2.2 (fun e => e)⟩;clear hS gX ms iq;have hS := fQ;clear fQ
   go_wp2_with fail
   refine ak.out _ _ (fun _ => hS) ?_;clear ak Kc
   try simp only [Act.put, sA, s0, sS]
   have ir := hid (fA.out.trans dq);refine o1Q 10 (fun Kc ak => ?_);go_simp;have HZ := hid (Blk.newL u1 [V 0, V0] 142);have ae : Same u1 (u1.alloc (.cells #[V 0, V0] 142)) := kZ0.alloc _;obtain ⟨Z, pR⟩ : ∃ Z, u1.heap.size = Z := ⟨_, rfl⟩;rw [pR] at HZ
   try rw [pR]
   have J2 := (show Hid (w2.heap.size ≤ Z) from by have := ir.out.size; show w2.heap.size ≤ Z; omega);generalize u1.alloc (.cells #[V 0, V0] 142) = u2 at HZ ae ⊢;have fB := hid (ir.out.trans ae);have dL := hid (ae.owns nX.out (fun _ _ => id));have fQ : Y1 u2 := ⟨ae.cellOf hS.1 (fun e => e), ae.cellOf hS.2.1 (fun e => e), ae.cellOf hS.2.2 (fun e => e)⟩;clear hS dq ae pR ir nX;have hS := fQ;clear fQ;refine ak.out _ _ (fun _ => hS) ?_;clear ak Kc
   try simp only [Act.put, sA, s0, sS]
   have z0 := HZ.out.cell 0;have z1 := HZ.out.cell 1;simp only [List.getElem?_cons_zero, List.getElem?_cons_succ] at z0 z1;have fz := HZ.out.frozen;refine o1Q 11 (fun Kc ak => ?_);go_simp;refine ak.out _ _ (fun h => absurd rfl h) ?_;clear ak Kc;refine TS (by kernel_rfl) ?_
   try simp only [Act.put, sA, s0, sS]
   have CV := (show Hid (LkB w2 ((u2.setCell ⟨Z, 0, none⟩ (V yc)).setCell ⟨Z, 1, none⟩ (.slice ya yn bf)) (Q3 Z 0) (VI (tri ls) stx ah mo)) from LkB.put HZ.out dL.out ol.out fB.out J2.out);clear hS z0 z1 fz
   go_wp2_with fail
   go_meet
   case rel => exact CV
  ·go_simp
   have lC := hid (Blk.newL u0 [V 0, V0] 142);have ae : Same u0 (u0.alloc (.cells #[V 0, V0] 142)) := kZ0.alloc _;obtain ⟨Z, pR⟩ : ∃ Z, u0.heap.size = Z := ⟨_, rfl⟩;rw [pR] at lC
   try rw [pR]
   have J2 := (show Hid (w2.heap.size ≤ Z) from by have := fA.out.size; show w2.heap.size ≤ Z; omega);generalize u0.alloc (.cells #[V 0, V0] 142) = u1 at lC ae ⊢;have ir := hid (fA.out.trans ae);have fQ : Y1 u1 := ⟨ae.cellOf hS.1 (fun e => e), ae.cellOf hS.2.1 (fun e => e), ae.cellOf hS.2.2 (fun e => e)⟩;clear hS ae pR;have hS := fQ;clear fQ;refine ak.out _ _ (fun _ => hS) ?_;clear ak Kc
   try simp only [Act.put, sA, s0, sS]
   refine o1Q 9 (fun Kc ak => ?_);go_simp;refine (V4 ⟨160, la, ln, lc, ls⟩ stx ah mo u1 (iY.out.rdF.same ir.out)).mono ?_;rintro e u2 ⟨y, rfl, gX, ms, _, iq, dq⟩;obtain ⟨yc, ⟨ye, ya, yn, bf, yb⟩⟩ := y;have kY : ye = 160 := ms;subst kY;dsimp only [StLockResult.val, FR.v];have nX := (show Hid (u2.ownsRow 0 160 3 (.slice ya yn bf) yn (vals .i64 yb)) from iq.own _ List.mem_cons_self);have ol := (show Hid ((yc, yb) = VI (tri ls) stx ah mo) from gX);have fQ : Y1 u2 := ⟨dq.cellOf hS.1 (fun e => e), dq.cellOf hS.2.1 (fun e => e), dq.cellOf hS.2.2 (fun e => e)⟩;clear hS gX ms iq;have hS := fQ;clear fQ
   go_wp2_with fail
   refine ak.out _ _ (fun _ => hS) ?_;clear ak Kc
   try simp only [Act.put, sA, s0, sS]
   have fB := hid (ir.out.trans dq);have HZ := hid (lC.out.same dq);have dL := nX;clear dq ir nX lC;have z0 := HZ.out.cell 0;have z1 := HZ.out.cell 1;simp only [List.getElem?_cons_zero, List.getElem?_cons_succ] at z0 z1;have fz := HZ.out.frozen;refine o1Q 11 (fun Kc ak => ?_);go_simp;refine ak.out _ _ (fun h => absurd rfl h) ?_;clear ak Kc;refine TS (by kernel_rfl) ?_
   try simp only [Act.put, sA, s0, sS]
   have CV := (show Hid (LkB w2 ((u2.setCell ⟨Z, 0, none⟩ (V yc)).setCell ⟨Z, 1, none⟩ (.slice ya yn bf)) (Q3 Z 0) (VI (tri ls) stx ah mo)) from LkB.put HZ.out dL.out ol.out fB.out J2.out);clear hS z0 z1 fz
   go_wp2_with fail
   go_meet
   case rel => exact CV
 case rest =>
 obtain ⟨Z, yc, ya, yn, bf, yb, rfl, I7, gX, dH, qq, ar⟩ := hcut.out;generalize wc = w3 at I7 dH ar ⊢;have HZ := hid I7;have dL := hid dH;have ol := (show Hid (VI st.locks stx ah mo = (yc, yb)) from by rw [← HE.out.2.2.1]; exact gX.symm);have ax := hid (cf.out.trans ar)
 have TK : X + 1 < Z := by have h1 := (HI.out w2 cf.out).2.2.2.1.lt; omega
 clear hcut I7 dH gX ar qq cf;have zh := (show Hid (¬ (ah < 0 ∨ gp * 32 ≤ ah)) from fun h => by have h2 := mz.out; rcases h with h | h <;> simp [h] at h2);clear mz;have z0 := HZ.out.cell 0;simp only [List.getElem?_cons_zero] at z0
 by_cases hyc : yc = 0
 case neg =>
  as_aux_lemma =>
  have HP := (show Hid (RP = ifB (Ue (cd, tx, rid, db, rb, us) 5) st) from by
   show RP = _
   rw [← bj.out];unfold Vw;rw [if_neg zh.out];dsimp only;rw [Al.out, ol.out]
   exact if_pos hyc)
  obtain ⟨y0, y1, y2, y3, y4, y5⟩ := ik.out (HI.out w3 ax.out).2.2.2.1
  have q7 : (yc != 0) = true := by simp [hyc]
  have kB := Vq cd tx rid da dn dc ra rn rc us 5 w3
  go_wp2_with fail
  refine kB.mono ?_;rintro e w4 ⟨rfl, aM⟩;have HR := hid (mR.out 5 w4 (ax.out.trans aM) HP.out);clear kB aM;go_wp2;go_ret;exact HR.out
 have q7 : (yc != 0) = false := by simp [hyc]
 have Hq := hid hyc;clear hyc;have gP := HT.out.1;have sr := HT.out.2 gP;have kV := jeY M rv rs tv ts k ah w3 (Blk.cell (HI.out w3 ax.out).1 4) (Blk.cell (HI.out w3 ax.out).1 5) (HI.out w3 ax.out).2.1.recs.rd (YN (HI.out w3 ax.out).2.1.trow) gP ((HI.out w3 ax.out).2.1.wr ts[k] (List.getElem_mem gP)).rd;rw [sr, HE.out.1] at kV;obtain ⟨mw, iV⟩ : ∃ z, XQ st.recs WS ah = z := ⟨_, rfl⟩;rw [iV] at kV;have JJ := hid iV;obtain ⟨x0, x1, x2, x4⟩ := jH.out (HI.out w3 ax.out).2.2.1;clear sr iV gP
 go_upto_if 44 with fail
 clear z0
 go_wp2_with fail
 refine kV.mono ?_;rintro e w4 ⟨vu, va, vn, vc, vb, rfl, OM, Cg, N6, aM⟩;have J4 := hid OM;have Tl := hid Cg;have Ol := hid N6;have mg := hid (HZ.out.same aM);have BM := hid (aM.owns dL.out (fun _ _ => id));have aR := hid (ax.out.trans aM);clear kV OM Cg N6 aM x0 x1 x2 x4 q7 HZ dL ax
 go_upto_region 10 with fail
 obtain ⟨U, MK⟩ : ∃ X, w4.heap.size = X := ⟨_, rfl⟩;have Gh := Blk.newL w4 [.bool vu, .slice va vn vc] 110;have A0 : Same w4 (w4.alloc (.cells #[.bool vu, .slice va vn vc] 110)) := kZ0.alloc _;rw [MK] at Gh ⊢;generalize w4.alloc (.cells #[.bool vu, .slice va vn vc] 110) = w5 at Gh A0 ⊢;have HU := hid Gh;have JD := hid (Ol.out.same A0);have iy := hid (mg.out.same A0);have Cx := hid (A0.owns BM.out (fun _ _ => id));have aH := hid (aR.out.trans A0)
 have S8 : Z < U := by have := mg.out.lt; omega
 clear Gh A0 MK Ol mg BM aR;have Hs := (show Hid (Vb st.locks stx ah mo = tri yb) from by show tri (VI st.locks stx ah mo).2 = tri yb; rw [ol.out]);have iJ := (show Hid ((VI st.locks stx ah (if kd = 5 then 1 else 2)).1 = 0) from by show (VI st.locks stx ah (if kd = 5 then 1 else 2)).1 = 0; rw [Al.out, ol.out]; exact Hq.out)
 -- the locks are taken
 have g9 := (show Hid (∀ w6, w6 = w5.setCell ⟨M, 6, none⟩ (.slice ya yn bf) → SpS w6 lo M gp gf gl { st with locks := Vb st.locks stx ah mo } ∧ SpK lo w w6 ∧ Blk w6 (X + 1) 73 [V cd, V tx, V rid, .slice da dn dc, .slice ra rn rc, V us] ∧ Blk w6 U 110 [.bool vu, .slice va vn vc] ∧ Rd .u8 w6 (.slice va vn vc) vb) from fun w6 e6 => by
  obtain ⟨hB, hN, SK, Q8, hl, Sy, Qe⟩ := HI.out w5 aH.out
  have aN : Kept (fun b => b = M) w5 w6 := by rw [e6]; exact Kept.setCell (R := fun b => b = M) kZ0 (p := ⟨M, 6, none⟩) (.inr rfl) _
  have cA := hN.box hB aN
  have G7 : SpB w6 M gp gf gl st.up rv tv (.slice ya yn bf) st.told hc cv := by rw [e6]; exact Blk.stored hB 6 (.slice ya yn bf)
  refine ⟨⟨rv, rs, tv, ts, ya, yn, bf, yb, hc, cv, cs, G7, cA.1.lock (aN.owns Cx.out (Un hB Cx.out (by decide))), cO, HE.out.1, HE.out.2.1, Hs.out.symm, HE.out.2.2.2.1, HE.out.2.2.2.2⟩, (SpK.same Qe).trans ⟨cA.2, aN.mono (fun b _ e => by rw [e]; exact cO)⟩, Q8.kept aN (by omega), HU.out.kept aN (by omega), ?_⟩
  exact jf2 hB (jho Jq.out JA.out Kg.out) JD.out aN)
 have u0 := HU.out.cell 0;have z1 := iy.out.cell 1;have m6 := Blk.cell (HI.out w5 aH.out).1 6;have f6 := Blk.frozen (HI.out w5 aH.out).1 6;simp only [List.getElem?_cons_zero, List.getElem?_cons_succ] at u0 z1 m6;have x0 := (jH.out (HI.out w5 aH.out).2.2.1).1
 cases vu
 case false =>
  as_aux_lemma =>
  have HP := (show Hid (RP = ifB (Ue (cd, tx, rid, db, rb, us) 6) { st with locks := Vb st.locks stx ah mo }) from by
   show RP = _
   rw [← bj.out];unfold Vw;rw [if_neg zh.out, if_neg (by rw [iJ.out]; simp)];dsimp only
   rw [if_pos (by rw [← J4.out]), Al.out])
  have mO := hid (g9.out _ rfl)
  go_upto_region 12 with fail
  generalize w5.setCell ⟨M, 6, none⟩ (.slice ya yn bf) = w6 at mO ⊢;clear u0 z1 m6 f6 x0;obtain ⟨y0, y1, y2, y3, y4, y5⟩ := ik.out mO.out.2.2.1;have kB := Vq cd tx rid da dn dc ra rn rc us 6 w6
  go_wp2_with fail
  refine kB.mono ?_;rintro e w7 ⟨rfl, bN⟩
  have HR := (show Hid (OutS lo M gp gf gl w w7 (.returned (.bool (decide (cd = 6) && decide (tx = 0) && decide (rid = 0) && decide (dn = 0) && decide (rn = 0)))) RP) from by
   rw [HP.out, gZ.out 6 st]
   exact ⟨by rw [Xj], fun cJ e => by rw [← (Ui e).2]; exact mO.out.1.same bN, mO.out.2.1.trans (SpK.same bN)⟩)
  clear kB bN;go_wp2;go_ret;exact HR.out
 have lW := (show Hid (RP = if kd = 5 then ifB (decide (cd = 0) && decide (tx = 0) && decide (rid = 0) && decide (rn = 0) && decide (db = vb)) { st with locks := Vb st.locks stx ah 1 } else if Ue (cd, tx, rid, db, rb, us) 8 = true ∨ (kd = 3 ∧ mw < (sn : Int) ∧ Ue (cd, tx, rid, db, rb, us) 7 = true) then some st else ifB (Ue (cd, tx, rid, db, rb, us) 0) (UL st stx ah (decide (kd = 3), sd))) from by
  show RP = _
  rw [← bj.out]
  exact jbU zh.out iJ.out J4.out JJ.out qX.out jM.out)
 by_cases h5 : kd = 5
 case pos =>
  as_aux_lemma =>
  subst h5;have Ii := (show Hid (mo = 1) from by show mo = 1; rw [← Al.out]; rfl);have mO := hid (g9.out _ rfl)
  go_upto_region 15 with fail
  generalize w5.setCell ⟨M, 6, none⟩ (.slice ya yn bf) = w6 at mO ⊢;clear u0 z1 m6 f6 x0
  have yV := (show Hid (∀ (w' : World) (b : Bool), Same w6 w' → b = (decide (cd = 0) && decide (tx = 0) && decide (rid = 0) && decide (rn = 0) && decide (db = vb)) → OutS lo M gp gf gl w w' (.returned (.bool b)) RP) from fun w' b hk e => by
   rw [lW.out, if_pos rfl, ← e, ← Ii.out]
   exact ⟨by rw [Xj], fun cJ e => by rw [← (Ui e).2]; exact mO.out.1.same hk, mO.out.2.1.trans (SpK.same hk)⟩)
  obtain ⟨y0, y1, y2, y3, y4, y5⟩ := ik.out mO.out.2.2.1;have u1 := mO.out.2.2.2.1.cell 1;simp only [List.getElem?_cons_zero, List.getElem?_cons_succ] at u1
  by_cases k0 : cd = 0
  case neg =>
   have q0 : (cd == 0) = false := by simp [k0]
   have HR := hid (yV.out w6 false kZ0 (by simp [k0]));clear k0;go_wp2;go_ret;exact HR.out
  by_cases k1 : tx = 0
  case neg =>
   have q0 : (cd == 0) = true := by simp [k0]
   have q1 : (tx == 0) = false := by simp [k1]
   have HR := hid (yV.out w6 false kZ0 (by simp [k1]));clear k0 k1;go_wp2;go_ret;exact HR.out
  by_cases k2 : rid = 0
  case neg =>
   have q0 : (cd == 0) = true := by simp [k0]
   have q1 : (tx == 0) = true := by simp [k1]
   have q2 : (rid == 0) = false := by simp [k2]
   have HR := hid (yV.out w6 false kZ0 (by simp [k2]));clear k0 k1 k2;go_wp2;go_ret;exact HR.out
  by_cases k3 : rn = 0
  case neg =>
   have q0 : (cd == 0) = true := by simp [k0]
   have q1 : (tx == 0) = true := by simp [k1]
   have q2 : (rid == 0) = true := by simp [k2]
   have q3 : ((rn : Int) == 0) = false := by simp [k3]
   have Nw : ¬ rn = 0 := k3;have HR := hid (yV.out w6 false kZ0 (by simp [k3]));clear k0 k1 k2 k3;go_wp2;go_ret;exact HR.out
  have Kx := (show Hid (IsB vb) from by
   have h1 : OkB (V7 st.recs WS ah).2 := jf3 MG.out.1 MG.out.2 ah;rw [← J4.out] at h1
   exact h1.1)
  have kS := jas (.slice da dn dc) (.slice va vn vc) db vb w6 Gj.out.1 Kx.out (PI.out w6 mO.out.2.1.2) mO.out.2.2.2.2;obtain ⟨sb, Jf⟩ : ∃ z, decide (db = vb) = z := ⟨_, rfl⟩;rw [Jf] at kS;have Ai := (show Hid (∀ w', Same w6 w' → OutS lo M gp gf gl w w' (.returned (.bool sb)) RP) from fun w' hk => yV.out w' sb hk (by simp [k0, k1, k2, k3, Jf]))
  have q0 : (cd == 0) = true := by simp [k0]
  have q1 : (tx == 0) = true := by simp [k1]
  have q2 : (rid == 0) = true := by simp [k2]
  have q3 : ((rn : Int) == 0) = true := by simp [k3]
  clear Jf k0 k1 k2;subst k3
  go_wp2_with fail
  refine kS.mono ?_;rintro e w7 ⟨rfl, bN⟩;have HR := hid (Ai.out w7 bN);clear kS bN;go_wp2;go_ret;exact HR.out
 have q5 : (kd == 5) = false := by simp [h5]
 have lh := (show Hid (RP = if Ue (cd, tx, rid, db, rb, us) 8 = true ∨ (kd = 3 ∧ mw < (sn : Int) ∧ Ue (cd, tx, rid, db, rb, us) 7 = true) then some st else ifB (Ue (cd, tx, rid, db, rb, us) 0) (UL st stx ah (decide (kd = 3), sd))) from by
  show RP = _
  rw [lW.out, if_neg h5])
 obtain ⟨b8, pU⟩ : ∃ z, Ue (cd, tx, rid, db, rb, us) 8 = z := ⟨_, rfl⟩;obtain ⟨b7, eY⟩ : ∃ z, Ue (cd, tx, rid, db, rb, us) 7 = z := ⟨_, rfl⟩;obtain ⟨b0, bR⟩ : ∃ z, Ue (cd, tx, rid, db, rb, us) 0 = z := ⟨_, rfl⟩;rw [pU, eY, bR] at lh;have K8 := (show Hid (∀ wx : World, Calls Tryz.prog 52 #[.agg #[V cd, V tx, V rid, .slice da dn dc, .slice ra rn rc, V us], V 8] wx fun e w' => e = .returned (.bool b8) ∧ Same wx w') from fun wx => by have h := Vq cd tx rid da dn dc ra rn rc us 8 wx; rw [gZ.out 8 st, pU] at h; exact h);have K7 := (show Hid (∀ wx : World, Calls Tryz.prog 52 #[.agg #[V cd, V tx, V rid, .slice da dn dc, .slice ra rn rc, V us], V 7] wx fun e w' => e = .returned (.bool b7) ∧ Same wx w') from fun wx => by have h := Vq cd tx rid da dn dc ra rn rc us 7 wx; rw [gZ.out 7 st, eY] at h; exact h);have K0 := (show Hid (∀ wx : World, Calls Tryz.prog 52 #[.agg #[V cd, V tx, V rid, .slice da dn dc, .slice ra rn rc, V us], V 0] wx fun e w' => e = .returned (.bool b0) ∧ Same wx w') from fun wx => by have h := Vq cd tx rid da dn dc ra rn rc us 0 wx; rw [gZ.out 0 st, bR] at h; exact h);clear pU eY bR h5 lW g9 bj mR
 go_upto_region 16 with fail
 clear u0 z1 m6 f6 x0 q5
 go_cut [116] (fun z wx => z = .bool (b8 || (decide (kd = 3) && decide (mw < (sn : Int)) && b7)) ∧ Hid (Same w5 wx))
 case first =>
  as_aux_lemma =>
  obtain ⟨y0, y1, y2, y3, y4, y5⟩ := ik.out (HI.out w5 aH.out).2.2.2.1
  go_wp2_with fail
  refine (K8.out w5).mono ?_;rintro e w6 ⟨rfl, aN⟩;have bI := hid (aH.out.trans aN);have uz := hid aN;clear aN y0 y1 y2 y3 y4 y5;obtain ⟨y0, y1, y2, y3, y4, y5⟩ := ik.out (HI.out w6 bI.out).2.2.2.1;obtain ⟨x0, _, _, x4⟩ := jH.out (HI.out w6 bI.out).2.2.1
  cases b8
  case true =>
   go_wp2_with fail
   go_meet
   case rel => exact ⟨by simp, uz⟩
  by_cases h3 : kd = 3
  case neg =>
   have q3 : (kd == 3) = false := by simp [h3]
   have H3 := hid h3;clear h3
   go_wp2_with fail
   go_meet
   case rel => exact ⟨by simp [H3.out], uz⟩
  have q3 : (kd == 3) = true := by simp [h3]
  have H3 := hid h3;clear h3
  by_cases hm : mw < (sn : Int)
  case neg =>
   have HM := (show Hid (decide (mw < (sn : Int)) = false) from decide_eq_false hm)
   go_wp2_with fail
   go_meet
   case rel => exact ⟨by rw [HM.out]; simp, uz⟩
  have HM := (show Hid (decide (mw < (sn : Int)) = true) from decide_eq_true hm)
  go_wp2_with fail
  refine (K7.out w6).mono ?_;rintro e w7 ⟨rfl, bN⟩;have OZ := hid (uz.out.trans bN);clear bN
  go_wp2_with fail
  go_meet
  case rel => exact ⟨by rw [HM.out, decide_eq_true H3.out]; simp, OZ⟩
 case rest =>
 obtain ⟨rfl, uz⟩ := hcut;obtain ⟨bg, I0⟩ : ∃ z, (b8 || (decide (kd = 3) && decide (mw < (sn : Int)) && b7)) = z := ⟨_, rfl⟩;rw [I0]
 have nG := (show Hid (RP = if bg = true then some st else ifB b0 (UL st stx ah (decide (kd = 3), sd))) from by
  show RP = _
  rw [lh.out, ← I0]
  congr 1
  simp [and_assoc])
 clear I0 lh;generalize wc = w6 at uz ⊢;have bI := hid (aH.out.trans uz.out);clear uz
 cases bg
 case true =>
  as_aux_lemma =>
  have HR := (show Hid (OutS lo M gp gf gl w w6 (.returned (.bool true)) RP) from by
   rw [nG.out]
   exact ⟨rfl, fun cJ e => by cases e; exact (HI.out w6 bI.out).2.2.2.2.2.1, SpK.same (HI.out w6 bI.out).2.2.2.2.2.2⟩)
  go_wp2;go_ret;exact HR.out
 obtain ⟨y0, y1, y2, y3, y4, y5⟩ := ik.out (HI.out w6 bI.out).2.2.2.1
 go_wp2_with fail
 refine (K0.out w6).mono ?_;rintro e w7 ⟨rfl, bN⟩;have aZ := hid (bI.out.trans bN);clear bN y0 y1 y2 y3 y4 y5
 cases b0
 case false =>
  as_aux_lemma =>
  have HR := (show Hid (OutS lo M gp gf gl w w7 (.returned (.bool false)) RP) from by
   rw [nG.out, if_neg (by simp)]
   exact ⟨by rw [Xj], fun cJ e => absurd (Ui e).1 (by simp), SpK.same (HI.out w7 aZ.out).2.2.2.2.2.2⟩)
  go_wp2;go_ret;exact HR.out
 obtain ⟨x0, _, x2, x4⟩ := jH.out (HI.out w7 aZ.out).2.2.1;obtain ⟨ub, Iu⟩ : ∃ z, decide (kd = 3) = z := ⟨_, rfl⟩
 have Rk : (kd == 3) = ub := by rw [← Iu]; rfl
 rw [Iu] at nG;have kN := BI.out w7 ub (HI.out w7 aZ.out).2.2.2.2.2.1 (HI.out w7 aZ.out).2.2.2.2.1 (AP.out.on (SpK.same (HI.out w7 aZ.out).2.2.2.2.2.2));clear Iu
 go_wp2_with fail
 refine kN.mono ?_;rintro e w8 ⟨rfl, Li, kI⟩
 have HR := (show Hid (OutS lo M gp gf gl w w8 (.returned (.bool true)) RP) from by
  rw [nG.out]
  exact ⟨rfl, fun cJ e => by cases e; exact Li, (SpK.same (HI.out w7 aZ.out).2.2.2.2.2.2).trans kI⟩)
 clear kN Li kI;go_wp2;go_ret;exact HR.out
theorem Xn {P : Program} {ops : Array Oper} {o : Oper} {a : Act} {w : World} {K : Act → World → Prop} {Q : Exit → Act → World → Prop} {E : Prop} (dY : o.guard = none) (s x : Operand) (t tn : TypeId)
  (ho : o.op = .call { callee := .builtin .append, args := #[s, x], argTypes := #[t, tn] }) (vs vx : Value) (hs : a.eval s = vs) (hx : a.eval x = vx)
  (v' : Value) (w' : World) (hr : (Builtin.append_ #[t, tn] o.type #[vs, vx]).run P w = .ok v' w') (h : K (a.put o.dst v') w') : if Region.wanted o (yielded ops a.tmps) = true then Oper.wp P o a w K Q else E := by
 have hw : Region.wanted o (yielded ops a.tmps) = true := by simp [Region.wanted, dY]
 rw [if_pos hw];unfold Oper.wp execOp;simp only [ho, resolve, invoke, builtin, Sem.run_bind, Sem.run_pure, Result.andThen_ok, List.map_toArray, List.map_cons, List.map_nil, hs, hx, hr];exact h
theorem ja4 (w : World) (ty : TypeId) (fa : Option Addr) (fn fc : Nat) (dW : fn ≤ fc) (ad : Addr) (cx : Nat) : (Builtin.append_ #[65, 65] ty #[.slice fa fn fc, .slice (some ad) 0 cx]).run Tryz.prog w = .ok (.slice fa fn fc) w := by
 obtain ⟨i0, hi, br, aT, bv⟩ := info_parts Tryz.infoTx;have hs : Src Tryz.prog i0.size 65 (.slice (some ad) 0 cx) 0 [] w := Src.ofSlice w (size := i0.size) Tryz.underlying65 ad 0 cx [] (by simp) (fun j u hu => by simp at hu) (fun u hu => by simp at hu)
 cases fa <;> simp [Builtin.append_, run_underlying Tryz.underlying65, Go.sizeOf, typeInfo, hi, hs.len, dW, hs.cells, storeCells]
theorem jaw {w : World} {ops : Array Oper} {o : Oper} {a : Act} {K : Act → World → Prop} {Q : Exit → Act → World → Prop} {E : Prop} (dY : o.guard = none) (s x : Operand)
  (ho : o.op = .call { callee := .builtin .append, args := #[s, x], argTypes := #[65, 65] }) {fa : Option Addr} {fn fc : Nat} {ts us : List ETx} {ad : Addr} {m cx : Nat} (hs : a.eval s = .slice fa fn fc) (hx : a.eval x = .slice (some ad) m cx)
  (hm : us.length = m) (bE : ∀ j u, (kTx.all us)[j]? = some u → w.cell? (ad.add j) = some u) (h1 : ∀ u ∈ kTx.all us, u.oneCell' = true) (hW : w.ownsRow 0 75 2 (.slice fa fn fc) ts.length (kTx.all ts)) (hq : ts.length + us.length ≤ 100000000)
  (h : ∀ fq fe fh w', w'.ownsRow 0 75 2 (.slice fq fe fh) (ts ++ us).length (kTx.all (ts ++ us)) → (∀ b, (Value.slice fq fe fh).ownBlock = some b → (Value.slice fa fn fc).ownBlock = some b ∨ w.heap.size ≤ b) → Kept (fun b => (Value.slice fa fn fc).ownBlock = some b) w w' → K (a.put o.dst (.slice fq fe fh)) w') :
  if Region.wanted o (yielded ops a.tmps) = true then Oper.wp Tryz.prog o a w K Q else E := by
 obtain ⟨i0, hi, br, aT, bv⟩ := info_parts Tryz.infoTx
 have eS : fn = ts.length ∧ fn ≤ fc := by
  rcases hW.2 with ⟨e, h1⟩ | ⟨_, _, _, e, _, _, hc, _⟩
  ·injection e with _ e e2
   rw [e, h1];exact ⟨rfl, Nat.zero_le _⟩
  ·injection e with _ e e2
   exact ⟨e, by omega⟩
 have pI : (kTx.all us).length = m * 2 := by rw [← hm]; exact kTx.all_length us
 by_cases h0 : m = 0
 ·subst h0
  have rh : us = [] := List.length_eq_zero_iff.1 hm;subst rh;refine Xn dY s x 65 65 ho _ _ hs hx _ _ (ja4 w _ fa fn fc eS.2 ad cx) ?_;exact h fa fn fc w (by rw [List.append_nil]; exact hW) (fun b hb => .inl hb) kZ0
 rw [← eS.1] at hW;refine step_append_lies (P := Tryz.prog) w dY s x 65 ho 0 75 i0 _ 2 32 Tryz.underlying65 hi br aT bv rfl (by omega) (.slice fa fn fc) fn (kTx.all ts) hs hW ad m cx (kTx.all us) hx pI bE h1 (by omega) (by unfold maxLen; omega) (by omega) (Nat.zero_le _) w.heap.size rfl ?_;intro gF cF w' bh hg bU aG;have hk : Kept (fun b => (Value.slice fa fn fc).ownBlock = some b) w w' := Kept.of_grown hg (fun k e => e);refine h _ _ cF w' (by rw [kTx.all_append, List.length_append, ← eS.1, hm]; exact bh) (fun b hb => ?_) hk;have e2 : gF = b := (by simpa [Value.ownBlock] using hb);subst e2
 rcases bU with e | e
 ·exact .inl e
 ·exact .inr (by omega)
theorem SpN.less {w w1 : World} {lo : Nat} {rv : Value} {rs : List EHeapRecord} {tv yB : Value} {ts : List ETx} {la : Option Addr} {ln lc : Nat} {ls : List Int} {cv : Value} {cs : List EWr} (h : SpN w lo rv rs tv ts la ln lc ls cv cs) (hk : Same w w1) {k : Nat} (hT : w1.ownsRow 0 75 2 yB (ts.eraseIdx k).length (kTx.all (ts.eraseIdx k))) (bU : ∀ b, yB.ownBlock = some b → lo ≤ b) : SpN w1 lo rv rs yB (ts.eraseIdx k) la ln lc ls cv cs := by
 have h1 := h.same hk;have hm : ∀ t ∈ ts.eraseIdx k, t ∈ ts := fun t ht => List.mem_of_mem_eraseIdx ht;exact ⟨h1.recs, hT, fun t ht => h1.wr t (hm t ht), List.Pairwise.sublist ((List.eraseIdx_sublist ts k).map _) h1.each, h1.lk, h1.cut, fun t ht => h1.ca t (hm t ht), h1.loR, bU, fun t ht => h1.loW t (hm t ht)⟩
theorem ja5 {E : Type} (l : List E) (k : Nat) : l.take k ++ l.drop (k + 1) = l.eraseIdx k := (List.eraseIdx_eq_take_drop_succ l k).symm
theorem jdJ (l : List (Int × List WrD)) (k : Nat) (hk : k < l.length) (h : ∀ i j, (hi : i < l.length) → (hj : j < l.length) → l[i].1 = l[j].1 → i = j) : jfP l l[k].1 = l.eraseIdx k := by
 unfold jfP;rw [List.eraseIdx_eq_take_drop_succ]
 have e : l = l.take k ++ l[k] :: l.drop (k + 1) := by rw [← List.drop_eq_getElem_cons hk, List.take_append_drop]
 obtain ⟨x, hx⟩ : ∃ x, l[k].1 = x := ⟨_, rfl⟩
 have e1 : (l.take k).filter (fun y => decide (y.1 ≠ x)) = l.take k := List.filter_eq_self.2 (fun y hy => by
  obtain ⟨i, hi, rfl⟩ := List.getElem_of_mem hy
  have iG : i < k := by rw [List.length_take] at hi; omega
  rw [List.getElem_take]
  exact decide_eq_true (fun e2 => by have := h i k (by omega) hk (e2.trans hx.symm); omega))
 have e3 : (l.drop (k + 1)).filter (fun y => decide (y.1 ≠ x)) = l.drop (k + 1) := List.filter_eq_self.2 (fun y hy => by
  obtain ⟨i, hi, rfl⟩ := List.getElem_of_mem hy
  have iG : k + 1 + i < l.length := by rw [List.length_drop] at hi; omega
  rw [List.getElem_drop]
  exact decide_eq_true (fun e2 => by have := h (k + 1 + i) k iG hk (e2.trans hx.symm); omega))
 rw [hx]
 conv => lhs; rw [e]
 rw [List.filter_append, List.filter_cons_of_neg (by simp [hx]), e1, e3]
theorem jbn {w : World} {tb n c : Nat} {ts : List ETx} (h : w.ownsRow 0 75 2 (Q4 tb n c) ts.length (kTx.all ts)) {j : Nat} {u : Value} (hu : (kTx.all ts)[j]? = some u) : w.cell? ⟨tb, j, none⟩ = some u := by
 rcases h.2 with ⟨e, _⟩ | ⟨g, cap, cur, hv, hb, lO, hc, hm, hs, ht⟩
 ·cases e
 ·injection hv with a1 a2 a3
  injection a1 with a1
  injection a1 with a1
  subst a1;rw [← ht, List.getElem?_take] at hu
  split at hu
  ·have h2 := World.news_of_block lO j u hu
   simpa [Addr.add_lit] using h2
  ·cases hu
theorem jcC (ts : List ETx) (k : Nat) {j : Nat} {u : Value} (h : (kTx.all (ts.take k))[j]? = some u) : (kTx.all ts)[j]? = some u := by
 have e : kTx.all ts = kTx.all (ts.take k) ++ kTx.all (ts.drop k) := by rw [← kTx.all_append, List.take_append_drop]
 rw [e, List.getElem?_append_left ((List.getElem?_eq_some_iff.1 h).1)];exact h
theorem jcD (ts : List ETx) (k : Nat) (hk : k ≤ ts.length) {j : Nat} {u : Value} (h : (kTx.all (ts.drop k))[j]? = some u) : (kTx.all ts)[k * 2 + j]? = some u := by
 have e : kTx.all ts = kTx.all (ts.take k) ++ kTx.all (ts.drop k) := by rw [← kTx.all_append, List.take_append_drop]
 have hl : (kTx.all (ts.take k)).length = (ts.take k).length * 2 := kTx.all_length _;rw [List.length_take, Nat.min_eq_left hk] at hl;rw [e, List.getElem?_append_right (by omega), hl, Nat.add_sub_cancel_left];exact h
theorem jdK : ∀ {us : List ETx}, (∀ t ∈ us, ∃ a n c, t.v = .slice a n c) → ∀ u ∈ kTx.all us, u.oneCell' = true
 | [], _, u, hu => by simp [RowK.all] at hu
 | t :: us, h, u, hu => by
  rcases List.mem_append.1 (show u ∈ kTx.cells t ++ kTx.all us from hu) with hu | hu
  ·obtain ⟨a, n, c, e⟩ := h t List.mem_cons_self
   simp [kTx, e] at hu
   rcases hu with rfl | rfl <;> rfl
  ·exact jdK (fun t ht => h t (List.mem_cons_of_mem _ ht)) u hu
theorem je4 {w : World} {Y : Nat} (h : Blk w Y 75 []) : w.ownsRow 0 75 2 (Q4 Y 0 0) ([] : List ETx).length (kTx.all []) :=
 ⟨by simp [RowK.all], .inr ⟨Y, 0, #[], rfl, Nat.zero_le _, h, Nat.le_refl _, Nat.zero_le _, by simp, by simp [RowK.all]⟩⟩
theorem jcE (ts : List ETx) (k : Nat) : Uo (ts.eraseIdx k) = (Uo ts).eraseIdx k := by
 simp [Uo, List.eraseIdx_eq_take_drop_succ, List.map_append, List.map_take, List.map_drop]
theorem Tryz.infoPT : (Tryz.prog.info? 78).map (fun i => (i.zero, i.size, i.bytes)) = some (some (.agg #[V 0, V0]), 2, 32) := by kernel_rfl
structure UwT (w0 w : World) (v : Value) (ts : List ETx) : Prop where
 row : w.ownsRow 0 78 2 v ts.length (kTx.all ts)
 wr : ∀ t ∈ ts, OwnR kWr 0 112 5 w t.v t.ps
 each : ts.Pairwise (fun a b => ∀ x, Uc kWr a.v a.ps x → ¬ Uc kWr b.v b.ps x)
 foot : ∀ b, (v.ownBlock = some b ∨ ∃ t ∈ ts, Uc kWr t.v t.ps b) → w0.heap.size ≤ b
 same : Same w0 w
theorem own_ne {w : World} {e f : TypeId} {m n m' n' : Nat} {v v' : Value} {xs ys : List Value} (h : w.ownsRow 0 e m v n xs) (h' : w.ownsRow 0 f m' v' n' ys) (bl : e ≠ f) : ∀ b, v.ownBlock = some b → ¬ v'.ownBlock = some b := fun b hb bw => by
 obtain ⟨c1, h1⟩ := UM h hb;obtain ⟨c2, h2⟩ := UM h' bw;rw [h1] at h2
 injection h2 with h2
 injection h2 with _ h2 _
 exact bl h2
theorem jax {w : World} {e : TypeId} {m n : Nat} {v : Value} {xs : List Value} (h : w.ownsRow 0 e m v n xs) {v' : Value} {ps : List EWr} (h' : OwnR kWr 0 112 5 w v' ps) (h1 : e ≠ 112) (h2 : e ≠ 5) : ∀ b, v.ownBlock = some b → ¬ Uc kWr v' ps b := fun b hb hf => by
 rcases hf with hf | ⟨p, hp, hf⟩
 ·exact own_ne h h'.row h1 b hb hf
 ·exact own_ne h (h'.data p hp) h2 b hb hf
theorem UwT.on {w0 w w' : World} {v : Value} {ts : List ETx} (h : UwT w0 w v ts) (hk : Same w w') : UwT w0 w' v ts := ⟨hk.owns h.row (fun _ _ => id), fun t ht => (h.wr t ht).same hk, h.each, h.foot, h.same.trans hk⟩
theorem UwT.nil (w0 w : World) (hk : Same w0 w) : UwT w0 w (V0) [] := ⟨⟨rfl, .inl ⟨rfl, rfl⟩⟩, fun t ht => by simp at ht, List.Pairwise.nil, fun b hb => by
 rcases hb with hb | ⟨t, ht, _⟩
 ·simp [Value.ownBlock] at hb
 ·simp at ht, hk⟩
theorem UwT.box {w0 w w' : World} {v : Value} {ts : List ETx} {Z : Nat} {e : TypeId} {ys : List Value} (h : UwT w0 w v ts) (hb : Blk w Z e ys) (hk : Kept (fun b => b = Z) w w') (hZ : w0.heap.size ≤ Z) (h1 : e ≠ 78) (h2 : e ≠ 112) (h3 : e ≠ 5) : UwT w0 w' v ts :=
 ⟨hk.owns h.row (Un hb h.row h1.symm), fun t ht => (h.wr t ht).kept hk (fun b hf e2 => by
  rcases hf with hf | ⟨p, hp, hf⟩
  ·exact Un hb (h.wr t ht).row h2.symm b hf e2
  ·exact Un hb ((h.wr t ht).data p hp) h3.symm b hf e2), h.each, h.foot, h.same.next hk (fun i hi e2 => by omega)⟩
theorem UwT.add {w0 w w' : World} {fa : Option Addr} {fn fc gF cF : Nat} {ts : List ETx} {t : ETx} (h : UwT w0 w (.slice fa fn fc) ts) (ht : OwnR kWr 0 112 5 w t.v t.ps) (hf : ∀ b, Uc kWr t.v t.ps b → w0.heap.size ≤ b ∧ ∀ x ∈ ts, ¬ Uc kWr x.v x.ps b)
  (aX : w'.ownsRow 0 78 2 (Q4 gF (fn + 1) cF) (ts ++ [t]).length (kTx.all (ts ++ [t]))) (hk : Kept (fun b => (Value.slice fa fn fc).ownBlock = some b) w w') (bU : ∀ b, (Value.slice (some ⟨gF, 0, none⟩) (fn + 1) cF).ownBlock = some b → (Value.slice fa fn fc).ownBlock = some b ∨ w.heap.size ≤ b) : UwT w0 w' (Q4 gF (fn + 1) cF) (ts ++ [t]) := by
 have hW : ∀ {x : ETx}, OwnR kWr 0 112 5 w x.v x.ps → OwnR kWr 0 112 5 w' x.v x.ps := fun hx => hx.kept hk (fun b hb e => jax h.row hx (by decide) (by decide) b e hb)
 refine ⟨aX, fun x hx => ?_, List.pairwise_append.2 ⟨h.each, List.pairwise_singleton _ _, fun a ha b hb x hx eK => ?_⟩, fun b hb => ?_, h.same.next hk (fun i hi e => by have := h.foot i (.inl e); omega)⟩
 ·rcases List.mem_append.1 hx with hx | hx
  ·exact hW (h.wr x hx)
  ·rw [List.mem_singleton.1 hx]
   exact hW ht
 ·rw [List.mem_singleton.1 hb] at eK
  exact (hf x eK).2 a ha hx
 ·rcases hb with hb | ⟨x, hx, hb⟩
  ·rcases bU b hb with e | e
   ·exact h.foot b (.inl e)
   ·have := h.same.size
    omega
  ·rcases List.mem_append.1 hx with hx | hx
   ·exact h.foot b (.inr ⟨x, hx, hb⟩)
   ·rw [List.mem_singleton.1 hx] at hb
    exact (hf b hb).1
theorem jbo {w0 w : World} {ops : Array Oper} {o : Oper} {a : Act} {K : Act → World → Prop} {Q : Exit → Act → World → Prop} {E : Prop} (dY : o.guard = none) (s x : Operand)
  (ho : o.op = .call { callee := .builtin .append, args := #[s, x], argTypes := #[31, 31] }) {fa : Option Addr} {fn fc B : Nat} {ts : List ETx} {t : ETx} (hs : a.eval s = .slice fa fn fc) (hx : a.eval x = Q4 B 1 1)
  (hB : Blk w B 78 [V t.id, t.v]) (dj : t.v.oneCell' = true) (hU : UwT w0 w (.slice fa fn fc) ts) (ht : OwnR kWr 0 112 5 w t.v t.ps) (hf : ∀ b, Uc kWr t.v t.ps b → w0.heap.size ≤ b ∧ ∀ x ∈ ts, ¬ Uc kWr x.v x.ps b) (hq : ts.length ≤ 100000000)
  (h : ∀ gF cF w', UwT w0 w' (Q4 gF (fn + 1) cF) (ts ++ [t]) → (∀ b, (Value.slice (some ⟨gF, 0, none⟩) (fn + 1) cF).ownBlock = some b → (Value.slice fa fn fc).ownBlock = some b ∨ w.heap.size ≤ b) → Kept (fun b => (Value.slice fa fn fc).ownBlock = some b) w w' → K (a.put o.dst (Q4 gF (fn + 1) cF)) w') :
  if Region.wanted o (yielded ops a.tmps) = true then Oper.wp Tryz.prog o a w K Q else E := by
 obtain ⟨i0, hi, br, aT, bv⟩ := info_parts Tryz.infoPT;have hW := hU.row
 have eS : fn = ts.length := by
  rcases hW.2 with ⟨e, h1⟩ | ⟨_, _, _, e, _⟩
  ·injection e with _ e _
   rw [e, h1]
  ·injection e
 rw [← eS] at hW;refine step_append_lies (P := Tryz.prog) w dY s x 31 ho 0 78 i0 _ 2 32 Tryz.underlying31 hi br aT bv rfl (by omega) (.slice fa fn fc) fn (kTx.all ts) hs hW ⟨B, 0, none⟩ 1 1 [V t.id, t.v] hx rfl (fun j u hu => ?_) (fun u hu => ?_) (by omega) (by unfold maxLen; omega) (by omega) (Nat.zero_le _) w.heap.size rfl ?_
 ·have h1 := hB.cell j
  rw [hu] at h1
  simpa [Addr.add_lit] using h1
 ·simp only [List.mem_cons, List.not_mem_nil, or_false] at hu
  rcases hu with rfl | rfl
  ·rfl
  ·exact dj
 ·intro gF cF w' bh hg bU aG
  have hk : Kept (fun b => (Value.slice fa fn fc).ownBlock = some b) w w' := Kept.of_grown hg (fun k e => e)
  have e1 : kTx.all (ts ++ [t]) = kTx.all ts ++ [V t.id, t.v] := by rw [kTx.all_append]; simp [RowK.all, kTx]
  have D5 : ∀ b, (Value.slice (some ⟨gF, 0, none⟩) (fn + 1) cF).ownBlock = some b → (Value.slice fa fn fc).ownBlock = some b ∨ w.heap.size ≤ b := fun b hb => by
   have e2 : gF = b := (by simpa [Value.ownBlock] using hb);subst e2
   rcases bU with e | e
   ·exact .inl e
   ·exact .inr (by omega)
  exact h gF cF w' (hU.add ht hf (by rw [e1, List.length_append, ← eS]; exact bh) hk D5) D5 hk
structure OwnPl (w0 w : World) (rv : Value) (ps : List EHeapRecord) (tv : Value) (ts : List ETx) : Prop where
 recs : OwnR kHeapRecord 0 79 5 w rv ps
 row : w.ownsRow 0 78 2 tv ts.length (kTx.all ts)
 wr : ∀ t ∈ ts, OwnR kWr 0 112 5 w t.v t.ps
 each : ts.Pairwise (fun a b => ∀ x, Uc kWr a.v a.ps x → ¬ Uc kWr b.v b.ps x)
 ra : ∀ b, Uc kHeapRecord rv ps b → ∀ t ∈ ts, ¬ Uc kWr t.v t.ps b
 ftR : ∀ b, Uc kHeapRecord rv ps b → w0.heap.size ≤ b
 ftT : ∀ b, (tv.ownBlock = some b ∨ ∃ t ∈ ts, Uc kWr t.v t.ps b) → w0.heap.size ≤ b
theorem OwnPl.kept {R : Nat → Prop} {w0 w w' : World} {rv : Value} {ps : List EHeapRecord} {tv : Value} {ts : List ETx} (h : OwnPl w0 w rv ps tv ts) (hk : Kept R w w') (h1 : ∀ b, Uc kHeapRecord rv ps b → ¬ R b) (h2 : ∀ b, (tv.ownBlock = some b ∨ ∃ t ∈ ts, Uc kWr t.v t.ps b) → ¬ R b) : OwnPl w0 w' rv ps tv ts :=
 ⟨h.recs.kept hk h1, hk.owns h.row (fun b hb => h2 b (.inl hb)), fun t ht => (h.wr t ht).kept hk (fun b hb => h2 b (.inr ⟨t, ht, hb⟩)), h.each, h.ra, h.ftR, h.ftT⟩
theorem OwnPl.same {w0 w w' : World} {rv : Value} {ps : List EHeapRecord} {tv : Value} {ts : List ETx} (h : OwnPl w0 w rv ps tv ts) (hk : Same w w') : OwnPl w0 w' rv ps tv ts := h.kept hk (fun _ _ => id) (fun _ _ => id)
theorem OwnPl.nil (w0 w : World) : OwnPl w0 w (V0) [] (V0) [] :=
 ⟨OwnR.nil _ _ _ _ _, ⟨rfl, .inl ⟨rfl, rfl⟩⟩, fun t ht => by simp at ht, List.Pairwise.nil, fun b hb t ht => by simp at ht, fun b hb => absurd hb (jeX b), fun b hb => by
  rcases hb with hb | ⟨t, ht, _⟩
  ·simp [Value.ownBlock] at hb
  ·simp at ht⟩
abbrev jf4 := Int × Int × List RcD × List (Int × List WrD)
def AnsPl (w w' : World) (e : Ending) (D : jf4) : Prop := ∃ (cd pl : Int) (ra : Option Addr) (rn rc : Nat) (ps : List EHeapRecord) (ta : Option Addr) (tn tc : Nat) (ts : List ETx), e = .returned (.agg #[V cd, V pl, .slice ra rn rc, .slice ta tn tc]) ∧ (cd, pl, jZ9 ps, Uo ts) = D ∧ OwnPl w w' (.slice ra rn rc) ps (.slice ta tn tc) ts ∧ Same w w'
end Go.Proofs.YtljfcdkhicffcaaGreat
