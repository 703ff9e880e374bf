import Derived.Test.YtljfcdkhicffcaaGreatPlP
namespace Go.Proofs.YtljfcdkhicffcaaGreat
set_option maxRecDepth 100000
set_option maxHeartbeats 8000000
set_option linter.unusedVariables false
set_option linter.unusedSimpArgs false
open Go Go.RowKit
theorem jav (va vb : Value) (rs qs : List EHeapRecord) (w : World) (Hy : ∀ p ∈ rs, IsB p.bs) (zg : ∀ p ∈ qs, IsB p.bs) (ha : RdR kHeapRecord w va rs) (hb : RdR kHeapRecord w vb qs) :
  Calls Tryz.prog 83 #[va, vb] w fun e w' => e = .returned (.bool (decide (jZ9 rs = jZ9 qs))) ∧ Same w w' := by
 have bG := ha.max;have d7 := hb.max;unfold maxLen at bG d7
 by_cases hl : rs.length = qs.length
 case neg =>
  obtain ⟨a1, c1, rfl⟩ := ha.form;obtain ⟨a2, c2, rfl⟩ := hb.form;have hD : decide (jZ9 rs = jZ9 qs) = false := decide_eq_false (fun e => hl (by have := congrArg List.length e; rw [TQ, TQ] at this; exact this));rw [hD]
  have h1 : ((rs.length : Int) != (qs.length : Int)) = true := by simp; omega
  have h2 : ¬ (rs.length : Int) = (qs.length : Int) := by omega
  clear ha hb hD;generalize rs.length = n1 at *;generalize qs.length = n2 at *
  go_enter Tryz.func83, Tryz.ntmps83
  go_wp2;go_ret;exact ⟨rfl, kZ0⟩
 obtain ⟨R, hR⟩ : ∃ R, decide (jZ9 rs = jZ9 qs) = R := ⟨_, rfl⟩;have HR := hid hR;rw [hR];clear hR;obtain ⟨L, hL⟩ : ∃ n, rs.length = n := ⟨_, rfl⟩
 have iu : qs.length = L := by rw [← hl, hL]
 have HL := hid hL;have qY := hid iu;have HA := hid ha;have HB := hid hb;clear ha hb hl
 by_cases hz : L = 0
 ·subst hz
  have e1 : rs = [] := List.length_eq_zero_iff.1 HL.out;have e2 : qs = [] := List.length_eq_zero_iff.1 qY.out;subst e1 e2;obtain ⟨a1, c1, rfl⟩ := HA.out.form;obtain ⟨a2, c2, rfl⟩ := HB.out.form
  have e : R = true := by rw [← HR.out]; rfl
  subst e;clear HA HB HR HL qY hL iu bG d7 Hy zg;simp only [List.length_nil]
  go_enter Tryz.func83, Tryz.ntmps83
  go_wp2_with fail
  go_loopw [5] (fun i wr => i = V 0 ∧ w = wr) (fun _ _ => 0)
  case atStart => exact ⟨rfl, rfl⟩
  case round =>
   obtain ⟨rfl, rfl⟩ := hrel;go_wp2;go_ret;exact ⟨rfl, kZ0⟩
 rcases HA.out.row with ⟨h, _⟩ | ⟨b, off, c, rfl, hc⟩
 ·rw [h] at hL; exact absurd hL.symm hz
 rcases HB.out.row with ⟨h, _⟩ | ⟨b2, aL, c2, rfl, cR⟩
 ·rw [h] at iu; exact absurd iu.symm hz
 rw [hL, iu];have HC := (show Hid (∀ j i, (h : j < rs.length) → i < 2 → w.cell? ⟨b, off + (j * 2 + i), none⟩ = (kHeapRecord.cells rs[j])[i]?) from hc);have eu := (show Hid (∀ j i, (h : j < qs.length) → i < 2 → w.cell? ⟨b2, aL + (j * 2 + i), none⟩ = (kHeapRecord.cells qs[j])[i]?) from cR);have bF := hid Hy;have bK := hid zg;rw [hL] at bG;clear hc cR hL iu Hy zg d7
 go_enter Tryz.func83, Tryz.ntmps83
 go_wp2_with fail
 go_loopw [5] (fun i wr => ∃ k : Nat, k ≤ L ∧ i = V k ∧ Hid ((jZ9 rs).take k = (jZ9 qs).take k) ∧ Hid (Same w wr)) (fun i _ => L - (intOf i).toNat)
 case atStart => exact ⟨0, Nat.zero_le _, rfl, rfl, hid kZ0⟩
 case round =>
  obtain ⟨k, hk, rfl, HT, HK⟩ := hrel
  by_cases aG : k < L
  case neg =>
   obtain rfl : L = k := by omega
   have e : R = true := by
    rw [← HR.out];refine decide_eq_true ?_;have h := HT.out;rw [List.take_of_length_le (by rw [TQ, HL.out]; exact Nat.le_refl _), List.take_of_length_le (by rw [TQ, qY.out]; exact Nat.le_refl _)] at h;exact h
   subst e;go_wp2;go_ret;exact ⟨rfl, HK.out⟩
  have h1 : k < rs.length := by rw [HL.out]; exact aG
  have h2 : k < qs.length := by rw [qY.out]; exact aG
  obtain ⟨i1, eD⟩ : ∃ x, rs[k].id = x := ⟨_, rfl⟩;obtain ⟨i2, iG⟩ : ∃ x, qs[k].id = x := ⟨_, rfl⟩;obtain ⟨v1, dj⟩ : ∃ x, rs[k].v = x := ⟨_, rfl⟩;obtain ⟨v2, l2⟩ : ∃ x, qs[k].v = x := ⟨_, rfl⟩
  have d0 : w.cell? ⟨b, off + k * 2, none⟩ = some (V i1) := by rw [← eD]; exact HC.out k 0 h1 (by decide)
  have d1 : w.cell? ⟨b, off + k * 2 + 1, none⟩ = some v1 := by rw [← dj]; exact HC.out k 1 h1 (by decide)
  have d2 : w.cell? ⟨b2, aL + k * 2, none⟩ = some (V i2) := by rw [← iG]; exact eu.out k 0 h2 (by decide)
  have d3 : w.cell? ⟨b2, aL + k * 2 + 1, none⟩ = some v2 := by rw [← l2]; exact eu.out k 1 h2 (by decide)
  have tV := hid d0;have g8 := hid d1;have Jz := hid d2;have KH := hid d3;have Ci := (show Hid (Rd .u8 w v1 rs[k].bs) from by rw [← dj]; exact HA.out.data rs[k] (List.getElem_mem h1));have gB := (show Hid (Rd .u8 w v2 qs[k].bs) from by rw [← l2]; exact HB.out.data qs[k] (List.getElem_mem h2));have Ou := hid eD;have AQ := hid iG;obtain ⟨a1, c1, rfl⟩ := Ci.out.form;obtain ⟨a2, c3, rfl⟩ := gB.out.form;clear d0 d1 d2 d3 eD iG dj l2
  have CB := (show Hid (∀ x : jZ9 rs = jZ9 qs, i1 = i2 ∧ rs[k].bs = qs[k].bs) from fun e => by
   have h := VQ e k h1 h2;have e1 : rs[k].id = qs[k].id := congrArg Prod.fst h;have e2 : rs[k].bs = qs[k].bs := congrArg Prod.snd h
   exact ⟨by rw [← Ou.out, ← AQ.out, e1], e2⟩)
  have rV := (show Hid (i1 = i2 → rs[k].bs = qs[k].bs → (jZ9 rs).take (k + 1) = (jZ9 qs).take (k + 1)) from fun e1 e2 => by
   rw [List.take_succ_eq_append_getElem (by rw [TQ]; exact h1), List.take_succ_eq_append_getElem (by rw [TQ]; exact h2), HT.out]
   congr 2
   simp only [jZ9, List.getElem_map, EHeapRecord.dat]
   rw [Ou.out, AQ.out, e1, e2])
  have kS := (show Hid (∀ wx, Same w wx → _) from fun wx hx => jas _ _ rs[k].bs qs[k].bs wx (bF.out _ (List.getElem_mem h1)) (bK.out _ (List.getElem_mem h2)) (Ci.out.same hx) (gB.out.same hx));generalize rs[k].bs = x1 at *;generalize qs[k].bs = x2 at *;generalize eX : x1.length = n1 at *;generalize ly : x2.length = n2 at *;clear eX ly
  by_cases bl : i1 = i2
  case neg =>
   have e : R = false := by rw [← HR.out]; exact decide_eq_false (fun e => bl (CB.out e).1)
   subst e
   have q1 : (i1 != i2) = true := by simp [bl]
   clear CB rV kS
   go_wp2_with fail
   let Y1 : World → Prop := fun wx : World => wx.cell? ⟨b, off + k * 2, none⟩ = some (V i1) ∧ wx.cell? ⟨b, off + k * 2 + 1, none⟩ = some (.slice a1 n1 c1) ∧ wx.cell? ⟨b2, aL + k * 2, none⟩ = some (V i2) ∧ wx.cell? ⟨b2, aL + k * 2 + 1, none⟩ = some (.slice a2 n2 c3)
   refine TT Y1 99 25 rfl (by kernel_rfl) ?_;have bB := (show Hid (Same w (World.drew wr)) from HK.out.drew);generalize World.drew wr = wd at bB ⊢;have hS : Y1 wd := ⟨bB.out.cellOf tV.out id, bB.out.cellOf g8.out id, bB.out.cellOf Jz.out id, bB.out.cellOf KH.out id⟩;refine tk 0 17 hS ?_;refine tk 1 18 hS ?_;refine tk 2 19 hS ?_;refine tk 3 20 hS ?_;refine tk 4 21 hS ?_;refine tk 5 22 hS ?_;refine tk 6 23 hS ?_;refine tk 7 24 hS ?_;refine tk 8 25 hS ?_;refine tk 9 26 hS ?_;refine tk 10 27 hS ?_;refine tk 11 28 hS ?_;refine tkS 12 29 hS ?_;refine tkS 13 30 hS ?_;refine tkS 14 31 hS ?_;refine tkS 15 32 hS ?_;refine tkS 16 33 hS ?_;refine tkS 17 34 hS ?_;refine tkS 18 35 hS ?_;refine tkS 19 36 hS ?_;refine tkS 20 37 hS ?_;refine tkS 21 38 hS ?_;refine tkS 22 39 hS ?_;refine tkS 23 40 hS ?_;refine tk 24 41 hS ?_;refine TS (by kernel_rfl) ?_
   try simp only [Act.put, sA, s0, sS]
   go_wp2;go_ret;exact ⟨rfl, bB.out⟩
  subst bl
  have q1 : (i1 != i1) = false := by simp
  obtain ⟨bb, dC⟩ : ∃ z, decide (x1 = x2) = z := ⟨_, rfl⟩;rw [dC] at kS;have D3 := hid dC;clear dC
  go_wp2_with fail
  let Y2 : World → Prop := fun wx : World => wx.cell? ⟨b, off + k * 2, none⟩ = some (V i1) ∧ wx.cell? ⟨b, off + k * 2 + 1, none⟩ = some (.slice a1 n1 c1) ∧ wx.cell? ⟨b2, aL + k * 2, none⟩ = some (V i1) ∧ wx.cell? ⟨b2, aL + k * 2 + 1, none⟩ = some (.slice a2 n2 c3)
  refine TT Y2 99 25 rfl (by kernel_rfl) ?_;have bB := (show Hid (Same w (World.drew wr)) from HK.out.drew);generalize World.drew wr = wd at bB ⊢;have hS : Y2 wd := ⟨bB.out.cellOf tV.out id, bB.out.cellOf g8.out id, bB.out.cellOf Jz.out id, bB.out.cellOf KH.out id⟩;refine tk 0 17 hS ?_;refine tk 1 18 hS ?_;refine tk 2 19 hS ?_;refine tk 3 20 hS ?_;refine tk 4 21 hS ?_;refine tk 5 22 hS ?_;refine tk 6 23 hS ?_;refine tk 7 24 hS ?_;refine tk 8 25 hS ?_;refine tk 9 26 hS ?_;refine tk 10 27 hS ?_;refine tk 11 28 hS ?_;refine tk 12 29 hS ?_;refine tk 13 30 hS ?_;refine tk 14 31 hS ?_;refine tk 15 32 hS ?_;refine tk 16 33 hS ?_;refine tk 17 34 hS ?_;refine tk 18 35 hS ?_;refine tk 19 36 hS ?_;refine tk 20 37 hS ?_;refine tk 21 38 hS ?_;refine o1Q 22 (fun Kc ak => ?_);go_simp;refine (kS.out wd bB.out).mono ?_;rintro e w2 ⟨rfl, ae⟩;have ap := hid (bB.out.trans ae);clear ae kS hS;have hS : Y2 w2 := ⟨ap.out.cellOf tV.out id, ap.out.cellOf g8.out id, ap.out.cellOf Jz.out id, ap.out.cellOf KH.out id⟩
  go_wp2_with fail
  refine ak.out _ _ (fun _ => hS) ?_;clear ak Kc
  try simp only [Act.put, sA, s0, sS]
  refine tk 23 40 hS ?_;refine tk 24 41 hS ?_;refine TS (by kernel_rfl) ?_
  try simp only [Act.put, sA, s0, sS]
  clear hS
  cases bb
  ·have e : R = false := by rw [← HR.out]; exact decide_eq_false (fun e => absurd ((CB.out e).2) (of_decide_eq_false D3.out))
   subst e;go_wp2;go_ret;exact ⟨rfl, ap.out⟩
  ·go_wp2
   go_roundw
   case rel => exact ⟨k + 1, by omega, by go_num, rV.out trivial (of_decide_eq_true D3.out), ap⟩
   case measure => simp [intOf]; omega
def OkB (bs : List Int) : Prop := IsB bs ∧ bs.length ≤ 1048576
def OkR (rs : List RcD) : Prop := ∀ r ∈ rs, OkB r.2
def OkW (ws : List WrD) : Prop := ∀ r ∈ ws, OkB r.2.2
theorem OkR.of {rs : List EHeapRecord} {D : List RcD} (h : OkR D) (e : jZ9 rs = D) : ∀ p ∈ rs, OkB p.bs := fun p hp => h p.dat (by rw [← e]; exact List.mem_map_of_mem hp)
theorem OkW.of {ws : List EWr} {D : List WrD} (h : OkW D) (e : TU ws = D) : ∀ p ∈ ws, OkB p.bs := fun p hp => h p.dat (by rw [← e]; exact List.mem_map_of_mem hp)
theorem jeE {id : Int} {d : List Int} (hd : OkB d) : ∀ (rs : List RcD) (done : Bool), OkR rs → OkR (Vj id d done rs)
 | [], done, _ => fun r hr => by
  cases done
  ·have e : r = (id, d) := by simpa [Vj] using hr
   rw [e]; exact hd
  ·simp [Vj] at hr
 | x :: xs, done, h => fun r hr => by
  rw [VZ] at hr
  rcases List.mem_append.1 hr with hr | hr
  ·rcases List.mem_append.1 hr with hr | hr
   ·split at hr
    ·rw [List.mem_singleton.1 hr]; exact hd
    ·simp at hr
   ·split at hr
    ·rw [List.mem_singleton.1 hr]; exact h x List.mem_cons_self
    ·simp at hr
  ·exact jeE hd xs _ (fun y hy => h y (List.mem_cons_of_mem _ hy)) r hr
theorem X9 : ∀ (ws : List WrD) (rs : List RcD), OkW ws → OkR rs → OkR (Uq rs ws)
 | [], rs, _, h => h
 | x :: xs, rs, hw, h => X9 xs _ (fun y hy => hw y (List.mem_cons_of_mem _ hy)) (jeE (hw x List.mem_cons_self) rs _ h)
theorem ja3 (lo M : Nat) (gp gf gl : Int) (st : PlS) (cd tx rid : Int) (da : Option Addr) (dn dc : Nat) (ra : Option Addr) (rn rc : Nat) (us : Int) (db : List Int) (qs : List EHeapRecord) (w : World) (h : SpS w lo M gp gf gl st) (cN : lo ≤ w.heap.size) (hd : db.length = dn) (hq : RdR kHeapRecord w (.slice ra rn rc) qs) (bd : OkR st.recs ∧ OkW st.cut) (sV : OkR (jZ9 qs)) (F9 : st.recs.length + st.cut.length ≤ 4000000) (uq : qs.length ≤ 4000000) :
  Calls Tryz.prog 53 #[Q3 M 0, .agg #[V cd, V tx, V rid, .slice da dn dc, .slice ra rn rc, V us]] w fun e w' => OutS lo M gp gf gl w w' e (UH st (cd, tx, rid, db, jZ9 qs, us)) := by
 have HS := hid h;obtain ⟨rv, rs, tv, ts, la, ln, lc, ls, hc, cv, cs, hb, hn, cO, e1, e2, e3, e4, e5⟩ := h
 have Om : rn = qs.length := by
  obtain ⟨_, _, e⟩ := hq.form
  injection e
 have qe := (show Hid ((jZ9 qs).length = rn) from by show (jZ9 qs).length = rn; rw [TQ]; exact Om.symm);obtain ⟨va, vc, gd⟩ := hn.recs.rd.form;obtain ⟨vn, nF⟩ : ∃ n, rs.length = n := ⟨_, rfl⟩;rw [nF] at gd;obtain ⟨ca, cc, K6⟩ := hn.cut.form;obtain ⟨cn, pD⟩ : ∃ n, cs.length = n := ⟨_, rfl⟩;rw [pD] at K6;subst gd K6;have HB := hid hb;have HN := hid hn;have HQ := hid hq;have E3 := hid (bd.1.of e1);have Iq := hid (bd.2.of e4);have sE := hid (sV.of rfl);have G9 := (show Hid (OkR (Uq st.recs st.cut)) from X9 _ _ bd.2 bd.1);have HE := (show Hid (jZ9 rs = st.recs ∧ Uo ts = st.txns ∧ tri ls = st.locks ∧ TU cs = st.cut ∧ (hc = false → cs = [])) from ⟨e1, e2, e3, e4, e5⟩)
 have Dk := (show Hid (rs.length + cs.length ≤ 4000000) from by
  have h1 : rs.length = st.recs.length := by rw [← e1, TQ]
  have h2 : cs.length = st.cut.length := by rw [← e4, Wq]
  show rs.length + cs.length ≤ 4000000
  omega)
 have hX := Blk.newL w [V cd, V tx, V rid, .slice da dn dc, .slice ra rn rc, V us] 73;have bT : Same w (w.alloc (.cells #[V cd, V tx, V rid, .slice da dn dc, .slice ra rn rc, V us] 73)) := kZ0.alloc _;obtain ⟨X, aQ⟩ : ∃ X, w.heap.size = X := ⟨_, rfl⟩;rw [aQ] at hX;have gm := hid hd;have PQ := hid uq;generalize gG : jZ9 qs = rb at qe sE;have tm := hid gG;clear hb hn hq e1 e2 e3 e4 e5 hd Om bd sV F9 uq nF pD gG
 go_enter Tryz.func53, Tryz.ntmps53
 go_upto_region 1 with fail
 try rw [aQ]
 generalize w.alloc (.cells #[V cd, V tx, V rid, .slice da dn dc, .slice ra rn rc, V us] 73) = w1 at hX bT ⊢;have HX := hid hX;have ao := hid bT;have bF := hid (Blk.same HB.out bT);have eM := hid (HN.out.same bT);have Fl := hid (HQ.out.same bT)
 have fW : lo ≤ w1.heap.size := by have := bT.size; omega
 have Fq : M < X := by have := Blk.lt HB.out; omega
 clear hX bT aQ HB HN HQ;obtain ⟨x0, x1, x2, x3, x4, x5⟩ := (show _ ∧ _ ∧ _ ∧ _ ∧ _ ∧ _ from ⟨HX.out.cell 0, HX.out.cell 1, HX.out.cell 2, HX.out.cell 3, HX.out.cell 4, HX.out.cell 5⟩);have m3 := Blk.cell bF.out 3;simp only [List.getElem?_cons_zero, List.getElem?_cons_succ] at x0 x1 x2 x3 x4 x5 m3;obtain ⟨up, cL⟩ : ∃ z, st.up = z := ⟨_, rfl⟩;rw [cL] at m3;have nu := hid cL;clear cL
 cases up
 case true =>
  have HO := (show Hid (∀ w', Same w w' → OutS lo M gp gf gl w w' (.returned (.bool (decide (cd = 11) && decide (tx = 0) && decide (rid = 0) && decide (dn = 0) && decide (rn = 0)))) (UH st (cd, tx, rid, db, rb, us))) from fun w' hk => by
   have e : UH st (cd, tx, rid, db, rb, us) = ifB (decide (cd = 11) && decide (tx = 0) && decide (rid = 0) && decide (dn = 0) && decide (rn = 0)) st := by
    unfold UH Ue;rw [if_pos nu.out, ← gm.out, ← qe.out]
   rw [e]
   exact OutS.bare HS.out hk)
  have kB := Vq cd tx rid da dn dc ra rn rc us 11 w1
  go_wp2_with fail
  refine kB.mono ?_;rintro e w2 ⟨rfl, ae⟩;have HR := hid (HO.out w2 (ao.out.trans ae));clear kB ae HO;go_wp2;go_ret;exact HR.out
 by_cases zP : cd = 1 ∨ cd = 10
 case pos =>
  obtain ⟨bz, fN⟩ : ∃ z, (decide (cd = cd) && decide (tx = 0) && decide (rid = 0) && decide (dn = 0) && decide (rn = 0)) = z := ⟨_, rfl⟩
  have HO := (show Hid (∀ w', Same w w' → OutS lo M gp gf gl w w' (.returned (.bool bz)) (UH st (cd, tx, rid, db, rb, us))) from fun w' hk => by
   have e : UH st (cd, tx, rid, db, rb, us) = ifB bz st := by
    rw [← fN];unfold UH Ue;rw [if_neg (by rw [nu.out]; simp), if_pos zP, ← gm.out, ← qe.out]
   rw [e]
   exact OutS.bare HS.out hk)
  have kB := Vq cd tx rid da dn dc ra rn rc us cd w1;rw [fN] at kB;clear fN
  rcases zP with rfl | rfl
  all_goals
   go_wp2_with fail
   refine kB.mono ?_;rintro e w2 ⟨rfl, ae⟩;have HR := hid (HO.out w2 (ao.out.trans ae));clear kB ae HO;go_wp2;go_ret;exact HR.out
 have bj := (show Hid (UH st (cd, tx, rid, db, rb, us) = ifB (decide (cd = 0) && decide (tx = 0) && decide (rid = 0) && decide (dn = 0) && (decide (rb = st.recs) || decide (rb = Uq st.recs st.cut))) { st with recs := rb, cut := [], up := true }) from by
  show UH st (cd, tx, rid, db, rb, us) = _
  unfold UH;rw [if_neg (by rw [nu.out]; simp), if_neg zP];dsimp only
  rw [gm.out])
 have q1 : (cd == 1) = false := by simp; omega
 have Ld : (cd == 10) = false := by simp; omega
 have Pq : ¬ cd = 1 := by omega
 have H9 : ¬ cd = 10 := by omega
 have ks := (show Hid (∀ w', Same w w' → (decide (cd = 0) && decide (tx = 0) && decide (rid = 0) && decide (dn = 0) && (decide (rb = st.recs) || decide (rb = Uq st.recs st.cut))) = false → OutS lo M gp gf gl w w' (.returned (.bool false)) (UH st (cd, tx, rid, db, rb, us))) from fun w' hk e => by
  rw [bj.out, e]
  exact ⟨rfl, fun cJ e => absurd (Ui e).1 (by simp), SpK.same hk⟩)
 by_cases k0 : cd = 0
 case neg =>
  have r0 : (cd != 0) = true := by simp [k0]
  have HR := hid (ks.out w1 ao.out (by rw [decide_eq_false k0]; simp));clear k0;go_wp2;go_ret;exact HR.out
 have r0 : (cd != 0) = false := by simp [k0]
 by_cases k1 : tx = 0
 case neg =>
  have r1 : (tx != 0) = true := by simp [k1]
  have HR := hid (ks.out w1 ao.out (by rw [decide_eq_false k1]; simp));clear k1;go_wp2;go_ret;exact HR.out
 have r1 : (tx != 0) = false := by simp [k1]
 by_cases k2 : rid = 0
 case neg =>
  have r2 : (rid != 0) = true := by simp [k2]
  have HR := hid (ks.out w1 ao.out (by rw [decide_eq_false k2]; simp));clear k2;go_wp2;go_ret;exact HR.out
 have r2 : (rid != 0) = false := by simp [k2]
 by_cases k3 : dn = 0
 case neg =>
  have r3 : (0 : Int) < (dn : Int) := by omega
  have Fv : 0 < dn := by omega
  have HR := hid (ks.out w1 ao.out (by rw [decide_eq_false k3]; simp));clear k3 k0 k1 k2;go_wp2;go_ret;exact HR.out
 have r3 : ¬ (0 : Int) < (dn : Int) := by omega
 have Fv : ¬ 0 < dn := by omega
 have HZ := (show Hid (cd = 0 ∧ tx = 0 ∧ rid = 0 ∧ dn = 0) from ⟨k0, k1, k2, k3⟩);clear k0 k1 k2 k3 zP
 go_upto_region 7 with fail
 clear q1 Ld Pq H9 r0 r1 r2 r3 Fv m3 x0 x1 x2 x3 x4 x5
 go_cut [70] (fun z wx => z = .bool (!(decide (rb = st.recs) || decide (rb = Uq st.recs st.cut))) ∧ Hid (Same w1 wx))
 case first =>
  as_aux_lemma =>
  let Y2 : World → Prop := fun wx : World => wx.cell? ⟨X, 4, none⟩ = some (.slice ra rn rc) ∧ wx.cell? ⟨M, 4, none⟩ = some (.slice va vn vc) ∧ wx.cell? ⟨M, 8, none⟩ = some (.bool hc) ∧ wx.cell? ⟨M, 9, none⟩ = some (.slice ca cn cc)
  refine TT Y2 99 29 rfl (by kernel_rfl) ?_;have bB := (show Hid (Same w1 (World.drew w1)) from kZ0.drew);generalize World.drew w1 = wd at bB ⊢;have hS : Y2 wd := ⟨bB.out.cellOf (HX.out.cell 4) (fun e => e), bB.out.cellOf (Blk.cell bF.out 4) (fun e => e), bB.out.cellOf (Blk.cell bF.out 8) (fun e => e), bB.out.cellOf (Blk.cell bF.out 9) (fun e => e)⟩;have kS := (show Hid (∀ wx, Same w1 wx → _) from fun wx hx => jav (.slice ra rn rc) (.slice va vn vc) qs rs wx (fun p hp => (sE.out p hp).1) (fun p hp => (E3.out p hp).1) (Fl.out.same hx) (eM.out.recs.rd.same hx));rw [tm.out, HE.out.1] at kS;obtain ⟨s1, e7⟩ : ∃ z, decide (rb = st.recs) = z := ⟨_, rfl⟩;rw [e7] at kS;have od := hid e7;clear e7;refine tk 0 42 hS ?_;refine tk 1 43 hS ?_;refine tk 2 44 hS ?_;refine tk 3 45 hS ?_;refine tk 4 46 hS ?_;refine tk 5 47 hS ?_;refine o1Q 6 (fun Kc ak => ?_);go_simp;refine (kS.out wd bB.out).mono ?_;rintro e we ⟨rfl, dq⟩;have sI := hid (bB.out.trans dq);have fQ : Y2 we := ⟨dq.cellOf hS.1 (fun e => e), dq.cellOf hS.2.1 (fun e => e), dq.cellOf hS.2.2.1 (fun e => e), dq.cellOf hS.2.2.2 (fun e => e)⟩;clear hS bB;have hS := fQ;have bB := sI;clear fQ sI
  go_wp2_with fail
  refine ak.out _ _ (fun _ => hS) ?_;clear ak Kc
  try simp only [Act.put, sA, s0, sS]
  clear kS;refine tk 7 49 hS ?_;refine tk 8 50 hS ?_
  cases s1
  case true =>
   refine tkS 9 51 hS ?_;refine tkS 10 52 hS ?_;refine tkS 11 53 hS ?_;refine tkS 12 54 hS ?_;refine tkS 13 55 hS ?_;refine tkS 14 56 hS ?_;refine tkS 15 57 hS ?_;refine tkS 16 58 hS ?_;refine tkS 17 59 hS ?_;refine tkS 18 60 hS ?_;refine tkS 19 61 hS ?_;refine tkS 20 62 hS ?_;refine tkS 21 63 hS ?_;refine tkS 22 64 hS ?_;refine tkS 23 65 hS ?_;refine tkS 24 66 hS ?_;refine tkS 25 67 hS ?_;refine tkS 26 68 hS ?_;refine tkS 27 69 hS ?_;refine tk 28 70 hS ?_;refine TS (by kernel_rfl) ?_
   try simp only [Act.put, sA, s0, sS]
   clear hS
   go_wp2_with fail
   go_meet
   case rel => exact ⟨by rw [od.out]; simp, bB⟩
  refine tk 9 51 hS ?_;refine tk 10 52 hS ?_;refine tk 11 53 hS ?_;refine tk 12 54 hS ?_;refine tk 13 55 hS ?_
  cases hc
  case false =>
   have Pu := (show Hid (decide (rb = Uq st.recs st.cut) = false) from by
    have e3 : Uq st.recs st.cut = st.recs := by rw [← HE.out.2.2.2.1, HE.out.2.2.2.2 rfl]; rfl
    show decide (rb = Uq st.recs st.cut) = false
    rw [e3]
    exact od.out)
   refine tkS 14 56 hS ?_;refine tkS 15 57 hS ?_;refine tkS 16 58 hS ?_;refine tkS 17 59 hS ?_;refine tkS 18 60 hS ?_;refine tkS 19 61 hS ?_;refine tkS 20 62 hS ?_;refine tkS 21 63 hS ?_;refine tkS 22 64 hS ?_;refine tkS 23 65 hS ?_;refine tkS 24 66 hS ?_;refine tkS 25 67 hS ?_;refine tk 26 68 hS ?_;refine tk 27 69 hS ?_;refine tk 28 70 hS ?_;refine TS (by kernel_rfl) ?_
   try simp only [Act.put, sA, s0, sS]
   clear hS
   go_wp2_with fail
   go_meet
   case rel => exact ⟨by rw [od.out, Pu.out]; simp, bB⟩
  refine tk 14 56 hS ?_;refine tk 15 57 hS ?_;refine tk 16 58 hS ?_;refine tk 17 59 hS ?_;refine tk 18 60 hS ?_;refine tk 19 61 hS ?_;refine tk 20 62 hS ?_;refine tk 21 63 hS ?_;refine tk 22 64 hS ?_;refine tk 23 65 hS ?_;have kW := jar (.slice va vn vc) rs (.slice ca cn cc) cs we Dk.out (fun p hp => by have := (E3.out p hp).2; omega) (fun p hp => by have := (Iq.out p hp).2; omega) (eM.out.recs.rd.same bB.out) (eM.out.cut.rd.same bB.out);rw [HE.out.1, HE.out.2.2.2.1] at kW;refine o1Q 24 (fun Kc ak => ?_);go_simp;refine kW.mono ?_;rintro e wf ⟨oa, on, oc, O, rfl, sK, iO⟩;have dq := iO.same;have r8 := hid iO;have rD := hid sK;clear kW iO sK;have sI := hid (bB.out.trans dq)
  let Y1 : World → Prop := fun wx : World => wx.cell? ⟨X, 4, none⟩ = some (.slice ra rn rc) ∧ wx.cell? ⟨M, 4, none⟩ = some (.slice va vn vc) ∧ wx.cell? ⟨M, 8, none⟩ = some (.bool true) ∧ wx.cell? ⟨M, 9, none⟩ = some (.slice ca cn cc)
  have fQ : Y1 wf := ⟨dq.cellOf hS.1 (fun e => e), dq.cellOf hS.2.1 (fun e => e), dq.cellOf hS.2.2.1 (fun e => e), dq.cellOf hS.2.2.2 (fun e => e)⟩;clear hS bB;have hS := fQ;have bB := sI;clear fQ sI
  go_wp2_with fail
  refine ak.out _ _ (fun _ => hS) ?_;clear ak Kc
  try simp only [Act.put, sA, s0, sS]
  have kS := jav (.slice ra rn rc) (.slice oa on oc) qs O wf (fun p hp => (sE.out p hp).1) (fun p hp => ((G9.out.of rD.out) p hp).1) (Fl.out.same bB.out) r8.out.own.rd;rw [tm.out, rD.out] at kS;obtain ⟨s2, dP⟩ : ∃ z, decide (rb = Uq st.recs st.cut) = z := ⟨_, rfl⟩;rw [dP] at kS;have iI := hid dP;clear dP;refine o1Q 25 (fun Kc ak => ?_);go_simp;refine kS.mono ?_;rintro e wg ⟨rfl, dq⟩;have sI := hid (bB.out.trans dq);have fQ : Y1 wg := ⟨dq.cellOf hS.1 (fun e => e), dq.cellOf hS.2.1 (fun e => e), dq.cellOf hS.2.2.1 (fun e => e), dq.cellOf hS.2.2.2 (fun e => e)⟩;clear hS bB;have hS := fQ;have bB := sI;clear fQ sI
  go_wp2_with fail
  refine ak.out _ _ (fun _ => hS) ?_;clear ak Kc
  try simp only [Act.put, sA, s0, sS]
  clear kS;refine tk 26 68 hS ?_;refine tk 27 69 hS ?_;refine tk 28 70 hS ?_;refine TS (by kernel_rfl) ?_
  try simp only [Act.put, sA, s0, sS]
  clear hS
  go_wp2_with fail
  go_meet
  case rel => exact ⟨by rw [od.out, iI.out]; simp, bB⟩
 case rest =>
 obtain ⟨rfl, cf⟩ := hcut;obtain ⟨bad, bQ⟩ : ∃ z, (!(decide (rb = st.recs) || decide (rb = Uq st.recs st.cut))) = z := ⟨_, rfl⟩;rw [bQ]
 have mz := (show Hid ((decide (rb = st.recs) || decide (rb = Uq st.recs st.cut)) = !bad) from by
  show (decide (rb = st.recs) || decide (rb = Uq st.recs st.cut)) = !bad
  rw [← bQ]
  simp)
 clear bQ;generalize wc = w2 at cf ⊢;have eP := hid (HX.out.same cf.out);have bK := hid (Blk.same bF.out cf.out);have iY := hid (eM.out.same cf.out);have vK := hid (Fl.out.same cf.out);have ap := hid (ao.out.trans cf.out)
 have kP : lo ≤ w2.heap.size := by have := cf.out.size; omega
 clear HX bF eM ao Fl fW cf
 cases bad
 case true =>
  have HR := hid (ks.out w2 ap.out (by rw [mz.out]; simp));go_wp2;go_ret;exact HR.out
 have x4 := eP.out.cell 4;simp only [List.getElem?_cons_zero, List.getElem?_cons_succ] at x4;have kC := YM (.slice ra rn rc) qs w2 PQ.out (fun p hp => by have := (sE.out p hp).2; omega) vK.out;rw [tm.out] at kC
 go_wp2_with fail
 refine kC.mono ?_;rintro e w3 ⟨oa, on, oc, O, rfl, sK, iO⟩;have r8 := hid iO;have rD := hid sK;have bX := hid (Blk.same bK.out iO.same)
 have qT := (show Hid (SpN w3 lo (.slice oa on oc) O tv ts la ln lc ls (.slice ca cn cc) cs) from by
  have h := iY.out.same iO.same
  exact ⟨iO.own, h.trow, h.wr, h.each, h.lk, h.cut, h.ca, fun b hb => by have := iO.foot b hb; omega, h.loT, h.loW⟩)
 have ax := hid (ap.out.trans iO.same);clear kC iO sK x4 eP bK iY vK ap kP;have m4 := Blk.cell bX.out 4;have m8 := Blk.cell bX.out 8;have m9 := Blk.cell bX.out 9;have m3 := Blk.cell bX.out 3;simp only [List.getElem?_cons_zero, List.getElem?_cons_succ] at m3 m4 m8 m9;have fz := Blk.frozen bX.out;have ij := (show Hid (SpB ((((w3.setCell ⟨M, 4, none⟩ (.slice oa on oc)).setCell ⟨M, 8, none⟩ (.bool false)).setCell ⟨M, 9, none⟩ (V0)).setCell ⟨M, 3, none⟩ (.bool true)) M gp gf gl true (.slice oa on oc) tv (.slice la ln lc) st.told false (V0)) from (((Blk.stored bX.out 4 (.slice oa on oc)).stored 8 (.bool false)).stored 9 (V0)).stored 3 (.bool true));have hk : Kept (fun b => b = M) w3 ((((w3.setCell ⟨M, 4, none⟩ (.slice oa on oc)).setCell ⟨M, 8, none⟩ (.bool false)).setCell ⟨M, 9, none⟩ (V0)).setCell ⟨M, 3, none⟩ (.bool true)) := Kept.setCell (R := fun b => b = M) (Kept.setCell (R := fun b => b = M) (Kept.setCell (R := fun b => b = M) (Kept.setCell (R := fun b => b = M) kZ0 (p := ⟨M, 4, none⟩) (.inr rfl) _) (p := ⟨M, 8, none⟩) (.inr rfl) _) (p := ⟨M, 9, none⟩) (.inr rfl) _) (p := ⟨M, 3, none⟩) (.inr rfl) _;have cA := qT.out.box bX.out hk
 have HR := (show Hid (OutS lo M gp gf gl w ((((w3.setCell ⟨M, 4, none⟩ (.slice oa on oc)).setCell ⟨M, 8, none⟩ (.bool false)).setCell ⟨M, 9, none⟩ (V0)).setCell ⟨M, 3, none⟩ (.bool true)) (.returned (.bool true)) (UH st (cd, tx, rid, db, rb, us))) from by
  rw [bj.out, mz.out, decide_eq_true HZ.out.1, decide_eq_true HZ.out.2.1, decide_eq_true HZ.out.2.2.1, decide_eq_true HZ.out.2.2.2];refine ⟨rfl, fun cJ e => ?_, (SpK.same ax.out).trans ⟨cA.2, hk.mono (fun b _ e => by rw [e]; exact cO)⟩⟩;rw [← (Ui e).2];have h := cA.1
  exact ⟨_, O, tv, ts, la, ln, lc, ls, false, _, [], ij.out, ⟨h.recs, h.trow, h.wr, h.each, h.lk, OwW.nil _ _, fun t _ c h2 _ => by simp [Value.ownBlock] at h2, h.loR, h.loT, h.loW⟩, cO, rD.out, HE.out.2.1, HE.out.2.2.1, rfl, fun _ => rfl⟩)
 clear hk cA ij qT ax r8;go_wp2;generalize (((w3.setCell ⟨M, 4, none⟩ (.slice oa on oc)).setCell ⟨M, 8, none⟩ (.bool false)).setCell ⟨M, 9, none⟩ (V0)).setCell ⟨M, 3, none⟩ (.bool true) = w9 at HR ⊢;go_ret;exact HR.out
end Go.Proofs.YtljfcdkhicffcaaGreat
