import Derived.Test.YtljfcdkhicffcaaGreatG11
namespace Go.Proofs.YtljfcdkhicffcaaGreat
set_option maxRecDepth 100000
set_option maxHeartbeats 8000000
set_option linter.unusedVariables false
set_option linter.unusedSimpArgs false
open Go Go.RowKit
theorem Tryz.infoTx : (Tryz.prog.info? 75).map (fun i => (i.zero, i.size, i.bytes)) = some (some (.agg #[V 0, V0]), 2, 32) := by kernel_rfl
theorem jfE {w : World} {ops : Array Oper} {o : Oper} {a : Act} {K : Act → World → Prop} {Q : Exit → Act → World → Prop} {E : Prop} (dY : o.guard = none) (s x : Operand)
  (ho : o.op = .call { callee := .builtin .append, args := #[s, x], argTypes := #[65, 65] }) {fa : Option Addr} {fn fc B : Nat} {ts : List ETx} {id : Int} (hs : a.eval s = .slice fa fn fc) (hx : a.eval x = Q4 B 1 1)
  (hB : Blk w B 75 [V id, V0]) (hW : w.ownsRow 0 75 2 (.slice fa fn fc) ts.length (kTx.all ts)) (hq : ts.length ≤ 100000000)
  (h : ∀ gF cF w', w'.ownsRow 0 75 2 (Q4 gF (fn + 1) cF) (ts ++ [(⟨id, V0, []⟩ : ETx)]).length (kTx.all (ts ++ [(⟨id, V0, []⟩ : ETx)])) → (∀ b, (Value.slice (some ⟨gF, 0, none⟩) (fn + 1) cF).ownBlock = some b → (Value.slice fa fn fc).ownBlock = some b ∨ w.heap.size ≤ b) → Kept (fun b => (Value.slice fa fn fc).ownBlock = some b) w w' → K (a.put o.dst (Q4 gF (fn + 1) cF)) w') :
  if Region.wanted o (yielded ops a.tmps) = true then Oper.wp Tryz.prog o a w K Q else E := by
 obtain ⟨i0, hi, br, aT, bv⟩ := info_parts Tryz.infoTx
 have eS : fn = ts.length := by
  rcases hW.2 with ⟨e, h1⟩ | ⟨_, _, _, e, _⟩
  ·injection e with _ e _
   rw [e, h1]
  ·injection e
 rw [← eS] at hW;refine step_append_lies (P := Tryz.prog) w dY s x 65 ho 0 75 i0 _ 2 32 Tryz.underlying65 hi br aT bv rfl (by omega) (.slice fa fn fc) fn (kTx.all ts) hs hW ⟨B, 0, none⟩ 1 1 [V id, V0] hx rfl (fun j u hu => ?_) (fun u hu => ?_) (by omega) (by unfold maxLen; omega) (by omega) (Nat.zero_le _) w.heap.size rfl ?_
 ·have h1 := hB.cell j
  rw [hu] at h1
  simpa [Addr.add_lit] using h1
 ·simp only [List.mem_cons, List.not_mem_nil, or_false] at hu
  rcases hu with rfl | rfl <;> rfl
 ·intro gF cF w' bh hg bU aG
  have hk : Kept (fun b => (Value.slice fa fn fc).ownBlock = some b) w w' := Kept.of_grown hg (fun k e => e)
  have e1 : kTx.all (ts ++ [(⟨id, V0, []⟩ : ETx)]) = kTx.all ts ++ [V id, V0] := by rw [kTx.all_append]; simp [RowK.all, kTx]
  refine h gF cF w' (by rw [e1, List.length_append, ← eS]; exact bh) (fun b hb => ?_) hk;have e2 : gF = b := (by simpa [Value.ownBlock] using hb);subst e2
  rcases bU with e | e
  ·exact .inl e
  ·exact .inr (by omega)
theorem SpN.more {w w1 : World} {lo : Nat} {rv : Value} {rs : List EHeapRecord} {tv yB : Value} {ts : List ETx} {la : Option Addr} {ln lc : Nat} {ls : List Int} {cv : Value} {cs : List EWr} (h : SpN w lo rv rs tv ts la ln lc ls cv cs) (cN : lo ≤ w.heap.size) {id : Int} (hT : w1.ownsRow 0 75 2 yB (ts ++ [(⟨id, V0, []⟩ : ETx)]).length (kTx.all (ts ++ [(⟨id, V0, []⟩ : ETx)]))) (hK : Kept (fun b => tv.ownBlock = some b) w w1) (bU : ∀ b, yB.ownBlock = some b → tv.ownBlock = some b ∨ w.heap.size ≤ b) :
  SpN w1 lo rv rs yB (ts ++ [(⟨id, V0, []⟩ : ETx)]) la ln lc ls cv cs ∧ SpK lo w w1 := by
 have nh : KO Gs w w1 := KO.of hK (fun b _ e => by
  obtain ⟨c1, hc⟩ := UM h.trow e
  exact ⟨_, hc, gsT c1⟩)
 have lY : ∀ {m x : Nat} {v : Value} {xs : List Value}, w.ownsRow 0 112 m v x xs → ∀ b, v.ownBlock = some b → ¬ tv.ownBlock = some b := fun ho b hb e => by
  obtain ⟨c1, h1⟩ := UM ho hb;obtain ⟨c2, h2⟩ := UM h.trow e;rw [h1] at h2
  injection h2 with h2
  injection h2 with _ h2 _
  exact absurd h2 (by decide)
 refine ⟨⟨h.recs.onG (X6 (by decide) (by decide) (by decide)) (X6 (by decide) (by decide) (by decide)) nh, hT, fun t ht => ?_, ?_, Zt h.lk (X6 (by decide) (by decide) (by decide)) nh, h.cut.kept hK (lY h.cut.row) nh, fun t ht => ?_, h.loR, fun b hb => ?_, fun t ht => ?_⟩, nh, hK.mono (fun b _ e => h.loT b e)⟩
 ·rcases List.mem_append.1 ht with ht | ht
  ·exact (h.wr t ht).kept hK (lY (h.wr t ht).row) nh
  ·rw [List.mem_singleton.1 ht]
   exact OwW.nil _ _
 ·rw [List.map_append, List.pairwise_append]
  refine ⟨h.each, by simp, fun a _ b hb => ?_⟩;simp only [List.map_cons, List.map_nil, List.mem_singleton] at hb;subst hb;intro c _ h2;simp [Value.ownBlock] at h2
 ·rcases List.mem_append.1 ht with ht | ht
  ·exact h.ca t ht
  ·rw [List.mem_singleton.1 ht]
   intro c _ h2;simp [Value.ownBlock] at h2
 ·rcases bU b hb with h1 | h1
  ·exact h.loT b h1
  ·omega
 ·rcases List.mem_append.1 ht with ht | ht
  ·exact h.loW t ht
  ·rw [List.mem_singleton.1 ht]
   intro c h2;simp [Value.ownBlock] at h2
def OutS (lo M : Nat) (gp gf gl : Int) (w w' : World) (e : Ending) (o : Option PlS) : Prop := e = .returned (.bool o.isSome) ∧ (∀ cJ, o = some cJ → SpS w' lo M gp gf gl cJ) ∧ SpK lo w w'
theorem Ui {b : Bool} {st cJ : PlS} (h : ifB b st = some cJ) : b = true ∧ st = cJ := by
 unfold ifB at h
 split at h
 ·cases h; exact ⟨by assumption, rfl⟩
 ·cases h
theorem Xj (b : Bool) (st : PlS) : (ifB b st).isSome = b := by unfold ifB; cases b <;> rfl
theorem OutS.bare {lo M : Nat} {gp gf gl : Int} {w w' : World} {b : Bool} {st : PlS} (h : SpS w lo M gp gf gl st) (hk : Same w w') : OutS lo M gp gf gl w w' (.returned (.bool b)) (ifB b st) := ⟨by rw [Xj], fun cJ e => by rw [← (Ui e).2]; exact h.same hk, SpK.same hk⟩
structure AnV (w : World) (lo : Nat) (a : AnD) (da : Option Addr) (dn dc : Nat) (ra : Option Addr) (rn rc : Nat) : Prop where
 dl : a.2.2.2.1.length = dn
 rl : a.2.2.2.2.1.length = rn
theorem jdi (lo M : Nat) (gp gf gl : Int) (st : PlS) (cd tx rid : Int) (da : Option Addr) (dn dc : Nat) (ra : Option Addr) (rn rc : Nat) (us : Int) (db : List Int) (rb : List RcD) (w : World) (h : SpS w lo M gp gf gl st) (cN : lo ≤ w.heap.size) (hd : db.length = dn) (hr : rb.length = rn) (gE : st.txns.length ≤ 8) :
  Calls Tryz.prog 85 #[Q3 M 0, .agg #[V cd, V tx, V rid, .slice da dn dc, .slice ra rn rc, V us]] w fun e w' => OutS lo M gp gf gl w w' e (VX st (cd, tx, rid, db, rb, us)) := by
 have HS := hid h;obtain ⟨rv, rs, tv, ts, la, ln, lc, ls, hc, cv, cs, hb, hn, cO, e1, e2, e3, e4, e5⟩ := h
 have nc : ts.length = st.txns.length := by rw [← e2]; simp [Uo]
 have HB := hid hb;have HN := hid hn
 obtain ⟨ta, tn, tc, rfl⟩ : ∃ a n c, tv = .slice a n c := by
  rcases hn.trow.2 with ⟨e, _⟩ | ⟨_, _, _, e, _⟩ <;> exact ⟨_, _, _, e⟩
 have yt : tn = st.txns.length := by
  rw [← nc]
  rcases hn.trow.2 with ⟨e, h1⟩ | ⟨_, _, _, e, _⟩
  ·injection e with _ e _
   rw [e, h1]
  ·injection e
 have rV := hid yt;have HE := (show Hid (jZ9 rs = st.recs ∧ Uo ts = st.txns ∧ tri ls = st.locks ∧ TU cs = st.cut ∧ (hc = false → cs = [])) from ⟨e1, e2, e3, e4, e5⟩);have hX := Blk.newL w [V cd, V tx, V rid, .slice da dn dc, .slice ra rn rc, V us] 73;have bT : Same w (w.alloc (.cells #[V cd, V tx, V rid, .slice da dn dc, .slice ra rn rc, V us] 73)) := kZ0.alloc _;obtain ⟨X, aQ⟩ : ∃ X, w.heap.size = X := ⟨_, rfl⟩;rw [aQ] at hX;have bH := hid nc;have gm := hid hd;have jM := hid hr
 have SH : tn ≤ 8 := by omega
 clear hb hn e1 e2 e3 e4 e5 nc hd hr yt
 go_enter Tryz.func85, Tryz.ntmps85
 go_upto_region 1 with fail
 try rw [aQ]
 generalize w.alloc (.cells #[V cd, V tx, V rid, .slice da dn dc, .slice ra rn rc, V us] 73) = w1 at hX bT ⊢;have HX := hid hX;have ao := hid bT;have bF := hid (Blk.same HB.out bT);have eM := hid (HN.out.same bT)
 have fW : lo ≤ w1.heap.size := by have := bT.size; omega
 have m5 := Blk.cell bF.out 5;simp only [List.getElem?_cons_zero, List.getElem?_cons_succ] at m5
 have Fq : M < X := by have := Blk.lt HB.out; omega
 clear hX bT aQ;obtain ⟨x0, x1, x2, x3, x4, x5⟩ := (show _ ∧ _ ∧ _ ∧ _ ∧ _ ∧ _ from ⟨HX.out.cell 0, HX.out.cell 1, HX.out.cell 2, HX.out.cell 3, HX.out.cell 4, HX.out.cell 5⟩);simp only [List.getElem?_cons_zero, List.getElem?_cons_succ] at x0 x1 x2 x3 x4 x5
 by_cases h8 : tn = 8
 case pos =>
  subst h8
  have HO := (show Hid (∀ w', Same w w' → OutS lo M gp gf gl w w' (.returned (.bool (decide (cd = 9) && decide (tx = 0) && decide (rid = 0) && decide (dn = 0) && decide (rn = 0)))) (VX st (cd, tx, rid, db, rb, us))) from fun w' hk => by
   have e : VX st (cd, tx, rid, db, rb, us) = ifB (decide (cd = 9) && decide (tx = 0) && decide (rid = 0) && decide (dn = 0) && decide (rn = 0)) st := by
    unfold VX Ue;rw [if_pos rV.out.symm, ← gm.out, ← jM.out]
   rw [e]
   exact OutS.bare HS.out hk)
  have kB := Vq cd tx rid da dn dc ra rn rc us 9 w1
  go_wp2_with fail
  refine kB.mono ?_;rintro e w2 ⟨rfl, ae⟩;have HR := hid (HO.out w2 (ao.out.trans ae));clear kB ae HO;go_wp2;go_ret;exact HR.out
 have q8 : ((tn : Int) == 8) = false := by simp; omega
 have q9 : ¬ (tn : Int) = 8 := by omega
 have Oc := (show Hid (∀ b : Bool, b = (decide (cd ≠ 0) || decide (rid ≠ 0) || decide (dn ≠ 0) || decide (rn ≠ 0) || decide (tx ≤ st.told) || !(decide (1 ≤ tx) && decide (tx ≤ 2147483647))) → VX st (cd, tx, rid, db, rb, us) = ifB (!b) { st with told := tx, txns := st.txns ++ [(tx, [])] }) from fun b hb => by
  unfold VX;rw [if_neg (by rw [← rV.out]; exact h8)]
  congr 1
  rw [hb];dsimp only;rw [gm.out, jM.out]
  by_cases k0 : cd = 0 <;> by_cases k1 : rid = 0 <;> by_cases k2 : dn = 0 <;> by_cases k3 : rn = 0 <;> simp [k0, k1, k2, k3]
  all_goals (try (by_cases k4 : tx ≤ st.told <;> by_cases k5 : 1 ≤ tx <;> by_cases k6 : tx ≤ 2147483647 <;> simp [k4, k5, k6] <;> omega)))
 go_upto_region 3 with fail
 clear q8 q9 m5
 go_cut [47] (fun z wx => z = .bool (decide (cd ≠ 0) || decide (rid ≠ 0) || decide (dn ≠ 0) || decide (rn ≠ 0) || decide (tx ≤ st.told) || !(decide (1 ≤ tx) && decide (tx ≤ 2147483647))) ∧ Hid (Same w1 wx))
 case first =>
  as_aux_lemma =>
  have m7 := Blk.cell bF.out 7;simp only [List.getElem?_cons_zero, List.getElem?_cons_succ] at m7;have H7 := hid m7;have gh := (show Hid (w1.cell? ⟨X, 0, none⟩ = some (V cd) ∧ w1.cell? ⟨X, 1, none⟩ = some (V tx) ∧ w1.cell? ⟨X, 2, none⟩ = some (V rid) ∧ w1.cell? ⟨X, 3, none⟩ = some (.slice da dn dc) ∧ w1.cell? ⟨X, 4, none⟩ = some (.slice ra rn rc)) from ⟨x0, x1, x2, x3, x4⟩);clear m7 x0 x1 x2 x3 x4 x5;refine TT (fun wx : World => (wx.cell? ⟨X, 0, none⟩ = some (V cd) ∧ wx.cell? ⟨X, 1, none⟩ = some (V tx) ∧ wx.cell? ⟨X, 2, none⟩ = some (V rid) ∧ wx.cell? ⟨X, 3, none⟩ = some (.slice da dn dc) ∧ wx.cell? ⟨X, 4, none⟩ = some (.slice ra rn rc)) ∧ wx.cell? ⟨M, 7, none⟩ = some (V st.told)) 99 35 rfl (by kernel_rfl) ?_;have bB := (show Hid (Same w1 (World.drew w1)) from kZ0.drew);generalize World.drew w1 = wd at bB ⊢;have hS : (fun wx : World => (wx.cell? ⟨X, 0, none⟩ = some (V cd) ∧ wx.cell? ⟨X, 1, none⟩ = some (V tx) ∧ wx.cell? ⟨X, 2, none⟩ = some (V rid) ∧ wx.cell? ⟨X, 3, none⟩ = some (.slice da dn dc) ∧ wx.cell? ⟨X, 4, none⟩ = some (.slice ra rn rc)) ∧ wx.cell? ⟨M, 7, none⟩ = some (V st.told)) wd := ⟨⟨bB.out.cellOf gh.out.1 (fun e => e), bB.out.cellOf gh.out.2.1 (fun e => e), bB.out.cellOf gh.out.2.2.1 (fun e => e), bB.out.cellOf gh.out.2.2.2.1 (fun e => e), bB.out.cellOf gh.out.2.2.2.2 (fun e => e)⟩, bB.out.cellOf H7.out (fun e => e)⟩
  by_cases k0 : cd = 0
  case neg =>
   have q0 : (cd != 0) = true := by simp [k0]
   have K0 := hid k0;clear k0;refine tk 0 13 hS ?_;refine tk 1 14 hS ?_;refine tk 2 15 hS ?_;refine tk 3 16 hS ?_;refine tkS 4 17 hS ?_;refine tkS 5 18 hS ?_;refine tkS 6 19 hS ?_;refine tk 7 20 hS ?_;refine tk 8 21 hS ?_;refine tkS 9 22 hS ?_;refine tkS 10 23 hS ?_;refine tkS 11 24 hS ?_;refine tkS 12 25 hS ?_;refine tk 13 26 hS ?_;refine tk 14 27 hS ?_;refine tkS 15 28 hS ?_;refine tkS 16 29 hS ?_;refine tkS 17 30 hS ?_;refine tkS 18 31 hS ?_;refine tk 19 32 hS ?_;refine tk 20 33 hS ?_;refine tkS 21 34 hS ?_;refine tkS 22 35 hS ?_;refine tkS 23 36 hS ?_;refine tkS 24 37 hS ?_;refine tkS 25 38 hS ?_;refine tkS 26 39 hS ?_;refine tkS 27 40 hS ?_;refine tk 28 41 hS ?_;refine tk 29 42 hS ?_;refine tkS 30 43 hS ?_;refine tkS 31 44 hS ?_;refine tkS 32 45 hS ?_;refine tkS 33 46 hS ?_;refine tk 34 47 hS ?_;refine TS (by kernel_rfl) ?_
   try simp only [Act.put, sA, s0, sS]
   clear hS
   go_wp2_with fail
   go_meet
   case rel => exact ⟨by simp [K0.out], bB⟩
  have q0 : (cd != 0) = false := by simp [k0]
  have K0 := hid k0;clear k0
  by_cases k1 : rid = 0
  case neg =>
   have q1 : (rid != 0) = true := by simp [k1]
   have K1 := hid k1;clear k1;refine tk 0 13 hS ?_;refine tk 1 14 hS ?_;refine tk 2 15 hS ?_;refine tk 3 16 hS ?_;refine tk 4 17 hS ?_;refine tk 5 18 hS ?_;refine tk 6 19 hS ?_;refine tk 7 20 hS ?_;refine tk 8 21 hS ?_;refine tkS 9 22 hS ?_;refine tkS 10 23 hS ?_;refine tkS 11 24 hS ?_;refine tkS 12 25 hS ?_;refine tk 13 26 hS ?_;refine tk 14 27 hS ?_;refine tkS 15 28 hS ?_;refine tkS 16 29 hS ?_;refine tkS 17 30 hS ?_;refine tkS 18 31 hS ?_;refine tk 19 32 hS ?_;refine tk 20 33 hS ?_;refine tkS 21 34 hS ?_;refine tkS 22 35 hS ?_;refine tkS 23 36 hS ?_;refine tkS 24 37 hS ?_;refine tkS 25 38 hS ?_;refine tkS 26 39 hS ?_;refine tkS 27 40 hS ?_;refine tk 28 41 hS ?_;refine tk 29 42 hS ?_;refine tkS 30 43 hS ?_;refine tkS 31 44 hS ?_;refine tkS 32 45 hS ?_;refine tkS 33 46 hS ?_;refine tk 34 47 hS ?_;refine TS (by kernel_rfl) ?_
   try simp only [Act.put, sA, s0, sS]
   clear hS
   go_wp2_with fail
   go_meet
   case rel => exact ⟨by simp [K0.out, K1.out], bB⟩
  have q1 : (rid != 0) = false := by simp [k1]
  have K1 := hid k1;clear k1
  by_cases k2 : dn = 0
  case neg =>
   have q2 : (0 : Int) < (dn : Int) := by omega
   have PK : 0 < dn := by omega
   have K2 := hid k2;clear k2;refine tk 0 13 hS ?_;refine tk 1 14 hS ?_;refine tk 2 15 hS ?_;refine tk 3 16 hS ?_;refine tk 4 17 hS ?_;refine tk 5 18 hS ?_;refine tk 6 19 hS ?_;refine tk 7 20 hS ?_;refine tk 8 21 hS ?_;refine tk 9 22 hS ?_;refine tk 10 23 hS ?_;refine tk 11 24 hS ?_;refine tk 12 25 hS ?_;refine tk 13 26 hS ?_;refine tk 14 27 hS ?_;refine tkS 15 28 hS ?_;refine tkS 16 29 hS ?_;refine tkS 17 30 hS ?_;refine tkS 18 31 hS ?_;refine tk 19 32 hS ?_;refine tk 20 33 hS ?_;refine tkS 21 34 hS ?_;refine tkS 22 35 hS ?_;refine tkS 23 36 hS ?_;refine tkS 24 37 hS ?_;refine tkS 25 38 hS ?_;refine tkS 26 39 hS ?_;refine tkS 27 40 hS ?_;refine tk 28 41 hS ?_;refine tk 29 42 hS ?_;refine tkS 30 43 hS ?_;refine tkS 31 44 hS ?_;refine tkS 32 45 hS ?_;refine tkS 33 46 hS ?_;refine tk 34 47 hS ?_;refine TS (by kernel_rfl) ?_
   try simp only [Act.put, sA, s0, sS]
   clear hS
   go_wp2_with fail
   go_meet
   case rel => exact ⟨by simp [K0.out, K1.out, K2.out], bB⟩
  have q2 : ¬ (0 : Int) < (dn : Int) := by omega
  have PK : ¬ 0 < dn := by omega
  have K2 := hid k2;clear k2
  by_cases k3 : rn = 0
  case neg =>
   have q3 : (0 : Int) < (rn : Int) := by omega
   have Nw : 0 < rn := by omega
   have K3 := hid k3;clear k3;refine tk 0 13 hS ?_;refine tk 1 14 hS ?_;refine tk 2 15 hS ?_;refine tk 3 16 hS ?_;refine tk 4 17 hS ?_;refine tk 5 18 hS ?_;refine tk 6 19 hS ?_;refine tk 7 20 hS ?_;refine tk 8 21 hS ?_;refine tk 9 22 hS ?_;refine tk 10 23 hS ?_;refine tk 11 24 hS ?_;refine tk 12 25 hS ?_;refine tk 13 26 hS ?_;refine tk 14 27 hS ?_;refine tk 15 28 hS ?_;refine tk 16 29 hS ?_;refine tk 17 30 hS ?_;refine tk 18 31 hS ?_;refine tk 19 32 hS ?_;refine tk 20 33 hS ?_;refine tkS 21 34 hS ?_;refine tkS 22 35 hS ?_;refine tkS 23 36 hS ?_;refine tkS 24 37 hS ?_;refine tkS 25 38 hS ?_;refine tkS 26 39 hS ?_;refine tkS 27 40 hS ?_;refine tk 28 41 hS ?_;refine tk 29 42 hS ?_;refine tkS 30 43 hS ?_;refine tkS 31 44 hS ?_;refine tkS 32 45 hS ?_;refine tkS 33 46 hS ?_;refine tk 34 47 hS ?_;refine TS (by kernel_rfl) ?_
   try simp only [Act.put, sA, s0, sS]
   clear hS
   go_wp2_with fail
   go_meet
   case rel => exact ⟨by simp [K0.out, K1.out, K2.out, K3.out], bB⟩
  have q3 : ¬ (0 : Int) < (rn : Int) := by omega
  have Nw : ¬ 0 < rn := by omega
  have K3 := hid k3;clear k3
  by_cases k4 : ¬ tx ≤ st.told
  case neg =>
   have q4 : tx ≤ st.told := Decidable.not_not.1 k4;have K4 := hid k4;clear k4;refine tk 0 13 hS ?_;refine tk 1 14 hS ?_;refine tk 2 15 hS ?_;refine tk 3 16 hS ?_;refine tk 4 17 hS ?_;refine tk 5 18 hS ?_;refine tk 6 19 hS ?_;refine tk 7 20 hS ?_;refine tk 8 21 hS ?_;refine tk 9 22 hS ?_;refine tk 10 23 hS ?_;refine tk 11 24 hS ?_;refine tk 12 25 hS ?_;refine tk 13 26 hS ?_;refine tk 14 27 hS ?_;refine tk 15 28 hS ?_;refine tk 16 29 hS ?_;refine tk 17 30 hS ?_;refine tk 18 31 hS ?_;refine tk 19 32 hS ?_;refine tk 20 33 hS ?_;refine tk 21 34 hS ?_;refine tk 22 35 hS ?_;refine tk 23 36 hS ?_;refine tk 24 37 hS ?_;refine tk 25 38 hS ?_;refine tk 26 39 hS ?_;refine tk 27 40 hS ?_;refine tk 28 41 hS ?_;refine tk 29 42 hS ?_;refine tkS 30 43 hS ?_;refine tkS 31 44 hS ?_;refine tkS 32 45 hS ?_;refine tkS 33 46 hS ?_;refine tk 34 47 hS ?_;refine TS (by kernel_rfl) ?_
   try simp only [Act.put, sA, s0, sS]
   clear hS
   go_wp2_with fail
   go_meet
   case rel => exact ⟨by simp [K0.out, K1.out, K2.out, K3.out, K4.out], bB⟩
  have q4 : ¬ tx ≤ st.told := k4;have K4 := hid k4;clear k4;refine tk 0 13 hS ?_;refine tk 1 14 hS ?_;refine tk 2 15 hS ?_;refine tk 3 16 hS ?_;refine tk 4 17 hS ?_;refine tk 5 18 hS ?_;refine tk 6 19 hS ?_;refine tk 7 20 hS ?_;refine tk 8 21 hS ?_;refine tk 9 22 hS ?_;refine tk 10 23 hS ?_;refine tk 11 24 hS ?_;refine tk 12 25 hS ?_;refine tk 13 26 hS ?_;refine tk 14 27 hS ?_;refine tk 15 28 hS ?_;refine tk 16 29 hS ?_;refine tk 17 30 hS ?_;refine tk 18 31 hS ?_;refine tk 19 32 hS ?_;refine tk 20 33 hS ?_;refine tk 21 34 hS ?_;refine tk 22 35 hS ?_;refine tk 23 36 hS ?_;refine tk 24 37 hS ?_;refine tk 25 38 hS ?_;refine tk 26 39 hS ?_;refine tk 27 40 hS ?_;refine tk 28 41 hS ?_;refine tk 29 42 hS ?_;refine tk 30 43 hS ?_;refine tk 31 44 hS ?_;refine o1Q 32 (fun Kc ak => ?_);go_simp;refine (TV tx 1 2147483647 wd).mono ?_;rintro e we ⟨rfl, dq⟩;have AJ := hid (bB.out.trans dq);have fQ : (fun wx : World => (wx.cell? ⟨X, 0, none⟩ = some (V cd) ∧ wx.cell? ⟨X, 1, none⟩ = some (V tx) ∧ wx.cell? ⟨X, 2, none⟩ = some (V rid) ∧ wx.cell? ⟨X, 3, none⟩ = some (.slice da dn dc) ∧ wx.cell? ⟨X, 4, none⟩ = some (.slice ra rn rc)) ∧ wx.cell? ⟨M, 7, none⟩ = some (V st.told)) we := ⟨⟨dq.cellOf hS.1.1 (fun e => e), dq.cellOf hS.1.2.1 (fun e => e), dq.cellOf hS.1.2.2.1 (fun e => e), dq.cellOf hS.1.2.2.2.1 (fun e => e), dq.cellOf hS.1.2.2.2.2 (fun e => e)⟩, dq.cellOf hS.2 (fun e => e)⟩;clear dq hS bB;have hS := fQ;have bB := AJ;clear fQ AJ
  go_wp2_with fail
  refine ak.out _ _ (fun _ => hS) ?_;clear ak Kc
  try simp only [Act.put, sA, s0, sS]
  refine tk 33 46 hS ?_;refine tk 34 47 hS ?_;refine TS (by kernel_rfl) ?_
  try simp only [Act.put, sA, s0, sS]
  clear hS
  go_wp2_with fail
  go_meet
  case rel => exact ⟨by have hh : decide (tx ≤ st.told) = false := decide_eq_false (Int.not_le.2 K4.out); rw [hh]; simp [K0.out, K1.out, K2.out, K3.out, inB], bB⟩
 case rest =>
 obtain ⟨rfl, cf⟩ := hcut;generalize bQ : (decide (cd ≠ 0) || decide (rid ≠ 0) || decide (dn ≠ 0) || decide (rn ≠ 0) || decide (tx ≤ st.told) || !(decide (1 ≤ tx) && decide (tx ≤ 2147483647))) = bad at cf ⊢;have Ei := hid (Oc.out bad bQ.symm);clear bQ Oc x0 x1 x2 x3 x4 x5;generalize wc = w2 at cf ⊢;have eP := hid (HX.out.same cf.out);have bK := hid (Blk.same bF.out cf.out);have iY := hid (eM.out.same cf.out);have ap := hid (ao.out.trans cf.out)
 have kP : lo ≤ w2.heap.size := by have := cf.out.size; omega
 clear HX bF eM ao fW cf HB HN
 cases bad
 case true =>
  have HR := (show Hid (OutS lo M gp gf gl w w2 (.returned (.bool false)) (VX st (cd, tx, rid, db, rb, us))) from by
   rw [Ei.out]
   exact ⟨by rw [Xj]; rfl, fun cJ e => absurd (Ui e).1 (by simp), SpK.same ap.out⟩)
  go_wp2;go_ret;exact HR.out
 have x1 := eP.out.cell 1;have m7 := Blk.cell bK.out 7;simp only [List.getElem?_cons_zero, List.getElem?_cons_succ] at x1 m7;have f7 := Blk.frozen bK.out 7;have ar : Kept (fun b => b = M) w2 (w2.setCell ⟨M, 7, none⟩ (V tx)) := Kept.setCell (R := fun b => b = M) kZ0 (p := ⟨M, 7, none⟩) (.inr rfl) _;have bX := (show Hid (SpB (w2.setCell ⟨M, 7, none⟩ (V tx)) M gp gf gl st.up rv (.slice ta tn tc) (.slice la ln lc) tx hc cv) from Blk.stored bK.out 7 (V tx));have cA := iY.out.box bK.out ar;have qT := hid cA.1;have gM := hid (eP.out.kept ar (by omega));have ax := (show Hid (SpK lo w (w2.setCell ⟨M, 7, none⟩ (V tx))) from (SpK.same ap.out).trans ⟨cA.2, ar.mono (fun b _ e => by rw [e]; exact cO)⟩)
 have mr : lo ≤ (w2.setCell ⟨M, 7, none⟩ (V tx)).heap.size := by have := ar.size; omega
 go_upto_region 6 with fail
 clear ar cA x1 m7 f7 eP bK iY ap kP;generalize w2.setCell ⟨M, 7, none⟩ (V tx) = w3 at bX qT gM ax mr ⊢
 go_wp2_with fail
 refine TT (fun wx : World => wx.cell? ⟨M, 5, none⟩ = some (.slice ta tn tc) ∧ wx.cell? ⟨X, 1, none⟩ = some (V tx)) 12 13 rfl (by kernel_rfl) ?_;have aP : Same w3 (World.drew w3) := kZ0.drew;generalize World.drew w3 = w5 at aP ⊢;have gw := hid (gM.out.same aP);have cP := hid (Blk.same bX.out aP);have fk := hid (qT.out.same aP);have aH := hid (ax.out.trans (SpK.same aP))
 have jr : lo ≤ w5.heap.size := by have := aP.size; omega
 clear aP gM bX qT ax mr;have hS : (fun wx : World => wx.cell? ⟨M, 5, none⟩ = some (.slice ta tn tc) ∧ wx.cell? ⟨X, 1, none⟩ = some (V tx)) w5 := ⟨Blk.cell cP.out 5, gw.out.cell 1⟩;refine tk 0 53 hS ?_;refine tk 1 54 hS ?_;refine tk 2 55 hS ?_;refine tk 3 56 hS ?_;refine tk 4 57 hS ?_;refine tk 5 58 hS ?_;refine tk 6 59 hS ?_;refine tk 7 60 hS ?_;refine o1Q 8 (fun Kc ak => ?_);go_simp;have eY := Blk.newL w5 [V tx, V0] 75;have bN : Same w5 (w5.alloc (.cells #[V tx, V0] 75)) := kZ0.alloc _;obtain ⟨Y, hY⟩ : ∃ Y, w5.heap.size = Y := ⟨_, rfl⟩;rw [hY] at eY
 try rw [hY]
 generalize w5.alloc (.cells #[V tx, V0] 75) = w7 at eY bN ⊢;have iM := hid eY;have qN := hid (gw.out.same bN);have fR := hid (Blk.same cP.out bN);have fE := hid (fk.out.same bN);have aZ := hid (aH.out.trans (SpK.same bN))
 have kq : lo ≤ w7.heap.size := by have := bN.size; omega
 clear eY bN hY hS gw cP fk aH jr;have hS : (fun wx : World => wx.cell? ⟨M, 5, none⟩ = some (.slice ta tn tc) ∧ wx.cell? ⟨X, 1, none⟩ = some (V tx)) w7 := ⟨Blk.cell fR.out 5, qN.out.cell 1⟩;refine ak.out _ _ (fun _ => hS) ?_;clear ak Kc
 try simp only [Act.put, sA, s0, sS]
 refine o1Q 9 (fun Kc ak => ?_);refine jfE rfl (.tmp 57) (.tmp 61) (by rfl) (by rfl) (by rfl) iM.out fE.out.trow (by rw [bH.out, ← rV.out]; omega) ?_;intro gF cF w8 M5 C6 oN;have eA := hid (fE.out.more kq M5 oN C6)
 have DD : ¬ (Value.slice ta tn tc).ownBlock = some M := fun e => Un fR.out fE.out.trow (by decide) M e rfl
 have ES : ¬ (Value.slice ta tn tc).ownBlock = some X := fun e => Un qN.out fE.out.trow (by decide) X e rfl
 have qV := hid (Blk.kept fR.out oN DD);have AZ := hid (qN.out.kept oN ES);clear hS M5 C6 oN DD ES fE iM qN fR kq;have hS : (fun wx : World => wx.cell? ⟨M, 5, none⟩ = some (.slice ta tn tc) ∧ wx.cell? ⟨X, 1, none⟩ = some (V tx)) w8 := ⟨Blk.cell qV.out 5, AZ.out.cell 1⟩;refine ak.out _ _ (fun _ => hS) ?_;clear ak Kc
 try simp only [List.getElem_toArray, List.getElem_cons_succ, List.getElem_cons_zero]
 try simp only [Act.put, sA, s0, sS]
 have m5 := Blk.cell qV.out 5;simp only [List.getElem?_cons_zero, List.getElem?_cons_succ] at m5;have f5 := Blk.frozen qV.out 5;refine o1Q 10 (fun Kc ak => ?_);go_simp;refine ak.out _ _ (fun _ => hS) ?_;clear ak Kc
 try simp only [Act.put, sA, s0, sS]
 refine o1Q 11 (fun Kc ak => ?_);go_simp;refine ak.out _ _ (fun _ => hS) ?_;clear ak Kc
 try simp only [Act.put, sA, s0, sS]
 refine o1Q 12 (fun Kc ak => ?_);go_simp;refine ak.out _ _ (fun h => absurd rfl h) ?_;clear ak Kc hS;refine TS (by kernel_rfl) ?_
 try simp only [Act.put, sA, s0, sS]
 have eZ : Kept (fun b => b = M) w8 (w8.setCell ⟨M, 5, none⟩ (Q4 gF (tn + 1) cF)) := Kept.setCell (R := fun b => b = M) kZ0 (p := ⟨M, 5, none⟩) (.inr rfl) _;have Ef := (show Hid (SpB (w8.setCell ⟨M, 5, none⟩ (Q4 gF (tn + 1) cF)) M gp gf gl st.up rv (Q4 gF (tn + 1) cF) (.slice la ln lc) tx hc cv) from Blk.stored qV.out 5 (Q4 gF (tn + 1) cF));have cA := eA.out.1.box qV.out eZ;have NA := hid cA.1;have fB := hid ((aZ.out.trans eA.out.2).trans ⟨cA.2, eZ.mono (fun b _ e => by rw [e]; exact cO)⟩);clear m5 f5 qV AZ eA aZ cA eZ;generalize w8.setCell ⟨M, 5, none⟩ (Q4 gF (tn + 1) cF) = w9 at Ef NA fB ⊢
 have HR := (show Hid (OutS lo M gp gf gl w w9 (.returned (.bool true)) (VX st (cd, tx, rid, db, rb, us))) from by
  rw [Ei.out];refine ⟨by rw [Xj]; rfl, fun cJ e => ?_, fB.out⟩;rw [← (Ui e).2]
  exact ⟨rv, rs, _, _, la, ln, lc, ls, hc, cv, cs, Ef.out, NA.out, cO, HE.out.1, by show Uo (ts ++ [_]) = st.txns ++ [(tx, [])]; rw [← HE.out.2.1]; simp [Uo, ETx.dat, TU], HE.out.2.2.1, HE.out.2.2.2.1, HE.out.2.2.2.2⟩)
 go_wp2;go_ret;exact HR.out
end Go.Proofs.YtljfcdkhicffcaaGreat
