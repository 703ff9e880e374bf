import Derived.Test.YtljfcdkhicffcaaGreatG20
import Derived.Test.YtljfcdkhicffcaaGreatG15
import Derived.RangeFuncNested
import Derived.RangeFuncBound
import Derived.Shelf.Abstract
import Derived.OwnWalkIn
import Derived.TacticsInMore
import Derived.LoopNIn
import Derived.LoopIn
namespace Go.Proofs.YtljfcdkhicffcaaGreat
set_option maxRecDepth 100000
set_option maxHeartbeats 8000000
set_option linter.unusedVariables false
set_option linter.unusedSimpArgs false
open Go Go.RowKit Go.MapKept Go.Shelf
section
variable {w w' : World} {lo M : Nat} {gp gf gl : Int} {x : PmX}
theorem PmN.recs (h : PmN w lo x) {C ck : Nat} {ce : List ERc} (hr : RcM lo w C ck ce) (hC : lo ≤ C) (hT : C ≠ x.T) (hB : C ≠ x.B) (hi : ∀ e ∈ x.tt, e.blk ≠ C) : PmN w lo { x with C := C, ck := ck, ce := ce } :=
 ⟨hr.map, hr.ok, hr.data, h.txn, h.tok, h.tb, h.tg, h.tw, h.ta, h.lk, h.full, h.cut, hT, hB, h.tB, fun e he => ⟨hi e he, (h.ne e he).2⟩, hC, h.loT, h.lot, h.ucv⟩
theorem PmI.size (h : PmI w lo M gp gf gl x) : lo ≤ w.heap.size := by have := h.box.lt; have := h.loM; omega
theorem PmN.new (h : PmN w lo x) {C : Nat} (hC : w.heap.size ≤ C) : C ≠ x.T ∧ C ≠ x.B ∧ ∀ e ∈ x.tt, e.blk ≠ C := by
 have h1 := h.txn.lt;have h2 := h.lk.out.lt;exact ⟨fun e => by omega, fun e => by omega, fun y hy e => by have := (h.lk.inn y hy).lt; omega⟩
theorem PmN.rcm (h : PmN w lo x) : RcM lo w x.C x.ck x.ce := ⟨h.com, h.cok, h.cd⟩
end
def CmR (w w' : World) (e : Ending) (lo M : Nat) (gp gf gl : Int) (x : PmX) (te : List ETp) (D : List RcD) (ls : List T3) : Prop := e = .returned (.tuple #[]) ∧ ∃ C ck ce aO bO, PmI w' lo M gp gf gl { x with C := C, ck := ck, ce := ce, tt := aO, bk := bO, te := te } ∧ (ce.map ERc.dat).Perm D ∧ (Uh aO).Perm ls ∧ PmK lo w w'
theorem jcO (lo M : Nat) (gp gf gl : Int) (x : PmX) (pre post : List ETp) (t : ETp) (D : List RcD) (w : World) (h : PmI w lo M gp gf gl x) (hx : x.te = pre ++ t :: post) (hD : (x.ce.map ERc.dat).Perm D) :
  Calls Tryz.prog 154 #[Q3 M 0, .pointer (some ⟨t.g, 0, none⟩)] w fun e w' => CmR w w' e lo M gp gf gl x (pre ++ post) (Uq D (TU t.ps)) ((Uh x.tt).filter (Yr t.id)) := by
 obtain ⟨wa, wn, wc, cC⟩ : ∃ wa wn wc, t.v = .slice wa wn wc := by
  obtain ⟨a, c, e⟩ := (h.n.tw t (h.n.mem hx)).form;exact ⟨a, _, c, e⟩
 have H := hid h;have HX := hid hx;have HD := hid hD;have HB := (show Hid (∀ wx, PmI wx lo M gp gf gl x → wx.cell? ⟨M, 5, none⟩ = some (.map (some x.C)) ∧ wx.cell? ⟨t.g, 1, none⟩ = some (.slice wa wn wc)) from fun wx h' => ⟨h'.box.cell 5, by rw [← cC]; exact (h'.n.tb t (h'.n.mem hx)).cell 1⟩);have oB := hid cC;clear h hx hD cC
 go_enter Tryz.func154, Tryz.ntmps154
 go_wp2_with fail
 let Y1 : World → Prop := fun wx : World => wx.cell? ⟨M, 5, none⟩ = some (.map (some x.C)) ∧ wx.cell? ⟨t.g, 1, none⟩ = some (.slice wa wn wc)
 refine TT Y1 12 13 rfl (by kernel_rfl) ?_;have af : Same w (World.drew w) := kZ0.drew;generalize World.drew w = w1 at af ⊢;have H1 := hid (H.out.same af);have ao := (show Hid (PmK lo w w1) from PmK.same af);clear af H;have hS : Y1 w1 := HB.out w1 H1.out;refine tk 0 4 hS ?_;refine tk 1 5 hS ?_;refine tk 2 6 hS ?_;refine tk 3 7 hS ?_;refine tk 4 8 hS ?_;refine tk 5 9 hS ?_;refine tk 6 10 hS ?_;refine tk 7 11 hS ?_;refine tk 8 12 hS ?_;refine o1Q 9 (fun Kc ak => ?_);go_simp;have pT := (show Hid (OwP lo w1 (.slice wa wn wc) t.ps) from by rw [← oB.out]; exact H1.out.n.tw t (H1.out.n.mem HX.out));refine (jbv lo x.C x.ck x.ce D (.slice wa wn wc) t.ps w1 H1.out.size H1.out.n.rcm HD.out pT.out.rd pT.out.data).mono ?_;rintro e w2 ⟨C, ck, ce, rfl, dZ, fY, DZ, ae⟩;have H2 := hid (H1.out.same ae);have vJ := hid dZ;have lh := hid fY;have eu := hid (H1.out.n.new DZ)
 have Ib : lo ≤ C := by have := H1.out.size; omega
 have ap := hid (ao.out.trans (PmK.same ae));clear dZ fY DZ ae hS pT H1 ao;have hS : Y1 w2 := HB.out w2 H2.out
 go_wp2_with fail
 refine ak.out _ _ (fun _ => hS) ?_;clear ak Kc
 try simp only [Act.put, sA, s0, sS]
 have c5 := H2.out.box.cell 5;simp only [PmC, List.getElem?_cons_zero, List.getElem?_cons_succ] at c5;have f5 := H2.out.box.frozen 5;refine o1Q 10 (fun Kc ak => ?_);go_simp;refine ak.out _ _ (fun _ => hS) ?_;clear ak Kc
 try simp only [Act.put, sA, s0, sS]
 refine o1Q 11 (fun Kc ak => ?_);go_simp;refine ak.out _ _ (fun _ => hS) ?_;clear ak Kc
 try simp only [Act.put, sA, s0, sS]
 refine o1Q 12 (fun Kc ak => ?_);go_simp;refine ak.out _ _ (fun h => absurd rfl h) ?_;clear ak Kc hS;refine TS (by kernel_rfl) ?_
 try simp only [Act.put, sA, s0, sS]
 have ar : Kept (fun b => b = M) w2 (w2.setCell ⟨M, 5, none⟩ (.map (some C))) := Kept.setCell (R := fun b => b = M) kZ0 (p := ⟨M, 5, none⟩) (.inr rfl) _;have H3 := (show Hid (PmI (w2.setCell ⟨M, 5, none⟩ (.map (some C))) lo M gp gf gl { x with C := C, ck := ck, ce := ce }) from ⟨H2.out.box.stored 5 _, (H2.out.n.recs vJ.out Ib eu.out.1 eu.out.2.1 eu.out.2.2).other H2.out.box H2.out.loM ar (by decide) (by decide), H2.out.loM⟩);have ax := hid (ap.out.trans (jfe H2.out.box H2.out.loM ar));clear ar c5 f5 H2 vJ eu ap;generalize w2.setCell ⟨M, 5, none⟩ (.map (some C)) = w3 at H3 ax ⊢;have kE := jcM lo M gp gf gl { x with C := C, ck := ck, ce := ce } pre post t w3 H3.out HX.out
 go_wp2_with fail
 refine kE.mono ?_;rintro e w4 ⟨rfl, aO, bO, h4, KP, aM⟩;have HR := (show Hid (CmR w w4 (.returned (.tuple #[])) lo M gp gf gl x (pre ++ post) (Uq D (TU t.ps)) ((Uh x.tt).filter (Yr t.id))) from ⟨rfl, C, ck, ce, aO, bO, h4, lh.out, KP, ax.out.trans aM⟩);clear kE h4 KP aM;go_wp2;exact bodyPost_end (results_none Tryz.results154 _ _ _) rfl HR.out
theorem ZC {txns : List (Int × List WrD)} (h : (txns.map (·.1)).Pairwise (· < ·)) {y : Int × List WrD} (hy : y ∈ txns) : Uw txns y.1 = some y.2 := by
 unfold Uw
 cases hf : txns.find? (fun x => decide (x.1 = y.1)) with
 | none =>
  have := List.find?_eq_none.1 hf y hy;simp at this
 | some z =>
  have h1 : z.1 = y.1 := by simpa using List.find?_some hf
  have h2 := List.mem_of_find?_eq_some hf;obtain ⟨i, hi, rfl⟩ := List.getElem_of_mem h2;obtain ⟨j, hj, rfl⟩ := List.getElem_of_mem hy;have hp := List.pairwise_iff_getElem.1 h
  rcases Nat.lt_trichotomy i j with h3 | h3 | h3
  ·have := hp i j (by simpa using hi) (by simpa using hj) h3
   simp only [List.getElem_map] at this;omega
  ·subst h3; rfl
  ·have := hp j i (by simpa using hj) (by simpa using hi) h3
   simp only [List.getElem_map] at this;omega
theorem jdX {txns : List (Int × List WrD)} {k : Int} (h : ∀ y ∈ txns, y.1 ≠ k) : Uw txns k = none := by
 unfold Uw;rw [List.find?_eq_none.2 (fun y hy => by simp [h y hy])];rfl
theorem jbw (id : Int) (te : List ETp) : (∀ e ∈ te, e.id ≠ id) ∨ ∃ pre e post, te = pre ++ e :: post ∧ e.id = id ∧ ∀ y ∈ pre, y.id ≠ id := by
 induction te with
 | nil => exact .inl (fun _ h => by simp at h)
 | cons e r ih =>
  by_cases h : e.id = id
  ·exact .inr ⟨[], e, r, rfl, h, fun _ h => by simp at h⟩
  ·rcases ih with ih | ⟨pre, e', post, rfl, he, hp⟩
   ·exact .inl (fun y hy => by rcases List.mem_cons.1 hy with rfl | hy; exact h; exact ih y hy)
   ·exact .inr ⟨e :: pre, e', post, rfl, he, fun y hy => by rcases List.mem_cons.1 hy with rfl | hy; exact h; exact hp y hy⟩
theorem jcP {te : List ETp} {id : Int} (h : ∀ e ∈ te, e.id ≠ id) : ∀ e ∈ te.map ETp.kv, e.1 ≠ id := fun e he => by
 obtain ⟨y, hy, rfl⟩ := List.mem_map.1 he;exact h y hy
theorem jgO (pre post : List ETp) (e : ETp) : (pre ++ e :: post).map ETp.kv = pre.map ETp.kv ++ (e.id, .pointer (some ⟨e.g, 0, none⟩), e.st) :: post.map ETp.kv := by
 rw [List.map_append, List.map_cons]; rfl
def YV (te : List ETp) (id : Int) : Option Addr := (te.find? (fun t => decide (t.id = id))).map (fun t => ⟨t.g, 0, none⟩)
theorem Ye {w : World} {T tk : Nat} {te : List ETp} (h : MapB w T (te.map ETp.kv) tk) (id : Int) : (Instr.lookup 88 (.map (some T)) (V id) false).run Tryz.prog w = .ok (.pointer (YV te id)) w := by
 rcases jbw id te with hm | ⟨pre, e, post, rfl, rfl, hp⟩
 ·have e : YV te id = none := by
   unfold YV;rw [List.find?_eq_none.2 (fun y hy => by simp [hm y hy])];rfl
  rw [e];exact U2 Tryz.underlying88 Tryz.underlying2 h (jcP hm) (Tryz.zeroValue130 _) false
 ·have e2 : YV (pre ++ e :: post) e.id = some ⟨e.g, 0, none⟩ := by
   unfold YV;rw [List.find?_append, List.find?_eq_none.2 (fun y hy => by simp [hp y hy])];simp
  rw [e2];rw [jgO] at h;exact UI Tryz.underlying88 Tryz.underlying2 h (jcP hp) false
theorem XK {x : PmX} {st : PlS} (hd : PmD x st) (hr : (st.txns.map (·.1)).Pairwise (· < ·)) (id : Int) : (YV x.te id = none ∧ Uw st.txns id = none ∧ ∀ t ∈ x.te, t.id ≠ id) ∨ ∃ pre t post, x.te = pre ++ t :: post ∧ t.id = id ∧ YV x.te id = some ⟨t.g, 0, none⟩ ∧ Uw st.txns id = some (TU t.ps) := by
 rcases jbw id x.te with hm | ⟨pre, e, post, he, rfl, hp⟩
 ·refine .inl ⟨?_, jdX (fun y hy => ?_), hm⟩
  ·unfold YV
   rw [List.find?_eq_none.2 (fun y hy => by simp [hm y hy])];rfl
  ·obtain ⟨t, ht, rfl⟩ := List.mem_map.1 (hd.txns.symm.subset hy)
   exact hm t ht
 ·refine .inr ⟨pre, e, post, he, rfl, ?_, ?_⟩
  ·unfold YV
   rw [he, List.find?_append, List.find?_eq_none.2 (fun y hy => by simp [hp y hy])];simp
  ·have h1 : e.dat ∈ st.txns := hd.txns.subset (List.mem_map_of_mem (by rw [he]; exact List.mem_append_right _ List.mem_cons_self))
   exact ZC hr h1
theorem PmD.off {x : PmX} {st : PlS} (h : PmD x st) (T tk B bk : Nat) (cv : Value) (cs : List EWr) (hc : TU cs = st.cut) : PmD { x with T := T, tk := tk, te := [], B := B, bk := bk, tt := [], cv := cv, cs := cs, up := false } (Vo st) :=
 ⟨h.recs, List.Perm.refl _, List.Perm.refl _, hc, rfl, fun e => by cases e⟩
theorem jaG (lo M : Nat) (gp gf gl : Int) (x : PmX) (st : PlS) (kd stx ah cnt : Int) (sa : Option Addr) (sn sc : Nat) (ka : Option Addr) (kn kc : Nat) (sd kb : List Int) (w : World) (h : PmI w lo M gp gf gl x) (hd : PmD x st) (hr : (st.txns.map (·.1)).Pairwise (· < ·)) :
  Calls Tryz.prog 99 #[Q3 M 0, .agg #[V kd, V stx, V ah, V cnt, .slice sa sn sc, .slice ka kn kc]] w fun e w' => e = .returned (.tuple #[]) ∧ PmS w' lo M gp gf gl (UC st (kd, stx, ah, cnt, sd, kb)) ∧ PmK lo w w' := by
 have fF := Blk.newL w [V kd, V stx, V ah, V cnt, .slice sa sn sc, .slice ka kn kc] 71;have bT : Same w (w.alloc (.cells #[V kd, V stx, V ah, V cnt, .slice sa sn sc, .slice ka kn kc] 71)) := kZ0.alloc _;obtain ⟨X, aQ⟩ : ∃ X, w.heap.size = X := ⟨_, rfl⟩;rw [aQ] at fF;have H := hid h;have zK := hid hd;have yu := hid (XK hd hr stx);obtain ⟨pt, IJ⟩ : ∃ z, YV x.te stx = z := ⟨_, rfl⟩;rw [IJ] at yu;have dL := (show Hid (∀ wx, PmI wx lo M gp gf gl x → (Instr.lookup 88 (.map (some x.T)) (V stx) false).run Tryz.prog wx = .ok (.pointer pt) wx) from fun wx h' => by rw [← IJ]; exact Ye h'.n.txn stx);clear h hd hr IJ
 go_enter Tryz.func99, Tryz.ntmps99
 go_upto_region 1 with fail
 try rw [aQ]
 generalize w.alloc (.cells #[V kd, V stx, V ah, V cnt, .slice sa sn sc, .slice ka kn kc] 71) = w1 at fF bT ⊢;have HX := hid fF;have H1 := hid (H.out.same bT);have ao := (show Hid (PmK lo w w1) from PmK.same bT);clear fF bT aQ H
 go_wp2_with fail
 let Y1 : World → Prop := fun wx : World => wx.cell? ⟨M, 6, none⟩ = some (.map (some x.T)) ∧ wx.cell? ⟨X, 1, none⟩ = some (V stx) ∧ (Instr.lookup 88 (.map (some x.T)) (V stx) false).run Tryz.prog wx = .ok (.pointer pt) wx
 refine TT Y1 99 8 rfl (by kernel_rfl) ?_;have ae : Same w1 (World.drew w1) := kZ0.drew;generalize World.drew w1 = w2 at ae ⊢;have H2 := hid (H1.out.same ae);have eP := hid (HX.out.same ae);have ap := hid (ao.out.trans (PmK.same ae));clear ae H1 HX ao;have hS : Y1 w2 := ⟨H2.out.box.cell 6, eP.out.cell 1, dL.out w2 H2.out⟩;refine tk 0 5 hS ?_;refine tk 1 6 hS ?_;refine tk 2 7 hS ?_;refine tk 3 8 hS ?_;refine tk 4 9 hS ?_;refine tk 5 10 hS ?_;refine tk 6 11 hS ?_;refine tk 7 4 hS ?_;refine TS (by kernel_rfl) ?_
 try simp only [Act.put, sA, s0, sS]
 clear hS dL;have x0 := eP.out.cell 0;simp only [List.getElem?_cons_zero] at x0
 by_cases k6 : kd = 6
 case neg =>
  have q6 : (kd == 6) = false := by simp [k6]
  have kS := Yk lo M gp gf gl { x with up := false } x.up w2 H2.out.box ⟨H2.out.n.com, H2.out.n.cok, H2.out.n.cd, H2.out.n.txn, H2.out.n.tok, H2.out.n.tb, H2.out.n.tg, H2.out.n.tw, H2.out.n.ta, H2.out.n.lk, H2.out.n.full, H2.out.n.cut, H2.out.n.cT, H2.out.n.cB, H2.out.n.tB, H2.out.n.ne, H2.out.n.loC, H2.out.n.loT, H2.out.n.lot, fun e => by cases e⟩ rfl H2.out.loM;have m2 := (show Hid (Vo st = UC st (kd, stx, ah, cnt, sd, kb)) from by show Vo st = _; unfold UC; rw [if_neg k6])
  go_wp2_with fail
  refine kS.mono ?_;rintro e w3 ⟨rfl, h3, ar⟩;have HR := (show Hid (PmS w3 lo M gp gf gl (UC st (kd, stx, ah, cnt, sd, kb)) ∧ PmK lo w w3) from ⟨⟨_, h3, by rw [← m2.out]; exact zK.out.off _ _ _ _ _ _ zK.out.cut⟩, ap.out.trans ar⟩);clear kS h3 ar;go_wp2;exact bodyPost_end (results_none Tryz.results99 _ _ _) rfl ⟨rfl, HR.out⟩
 rcases yu.out with ⟨rfl, hl, _⟩ | ⟨pre, t, post, hx, rfl, rfl, hl⟩
 ·have kS := Yk lo M gp gf gl { x with up := false } x.up w2 H2.out.box ⟨H2.out.n.com, H2.out.n.cok, H2.out.n.cd, H2.out.n.txn, H2.out.n.tok, H2.out.n.tb, H2.out.n.tg, H2.out.n.tw, H2.out.n.ta, H2.out.n.lk, H2.out.n.full, H2.out.n.cut, H2.out.n.cT, H2.out.n.cB, H2.out.n.tB, H2.out.n.ne, H2.out.n.loC, H2.out.n.loT, H2.out.n.lot, fun e => by cases e⟩ rfl H2.out.loM
  have m2 := (show Hid (Vo st = UC st (kd, stx, ah, cnt, sd, kb)) from by
   show Vo st = _
   unfold UC;rw [if_pos k6, hl]
   rfl)
  clear yu hl;subst k6
  go_wp2_with fail
  refine kS.mono ?_;rintro e w3 ⟨rfl, h3, ar⟩;have HR := (show Hid (PmS w3 lo M gp gf gl (UC st (6, stx, ah, cnt, sd, kb)) ∧ PmK lo w w3) from ⟨⟨_, h3, by rw [← m2.out]; exact zK.out.off _ _ _ _ _ _ zK.out.cut⟩, ap.out.trans ar⟩);clear kS h3 ar;go_wp2;exact bodyPost_end (results_none Tryz.results99 _ _ _) rfl ⟨rfl, HR.out⟩
 have hm := H2.out.n.mem hx
 obtain ⟨wa, wn, wc, cC⟩ : ∃ wa wn wc, t.v = .slice wa wn wc := by
  obtain ⟨a, c, e⟩ := (H2.out.n.tw t hm).form;exact ⟨a, _, c, e⟩
 have t1 := (H2.out.n.tb t hm).cell 1;simp only [List.getElem?_cons_zero, List.getElem?_cons_succ] at t1;rw [cC] at t1;have c8 := H2.out.box.cell 8;simp only [PmC, List.getElem?_cons_zero, List.getElem?_cons_succ] at c8;have f8 := H2.out.box.frozen 8;have ar : Kept (fun b => b = M) w2 (w2.setCell ⟨M, 8, none⟩ (.slice wa wn wc)) := Kept.setCell (R := fun b => b = M) kZ0 (p := ⟨M, 8, none⟩) (.inr rfl) _;have n := H2.out.n;have hn : PmN w2 lo { x with up := false, cv := .slice wa wn wc, cs := t.ps } := ⟨n.com, n.cok, n.cd, n.txn, n.tok, n.tb, n.tg, n.tw, n.ta, n.lk, n.full, by rw [← cC]; exact n.tw t hm, n.cT, n.cB, n.tB, n.ne, n.loC, n.loT, n.lot, fun e => by cases e⟩;have kS := Yk lo M gp gf gl { x with up := false, cv := .slice wa wn wc, cs := t.ps } x.up (w2.setCell ⟨M, 8, none⟩ (.slice wa wn wc)) (H2.out.box.stored 8 _) (hn.other H2.out.box H2.out.loM ar (by decide) (by decide)) rfl H2.out.loM;have ax := hid (ap.out.trans (jfe H2.out.box H2.out.loM ar))
 have m2 := (show Hid (PmD { x with up := false, cv := .slice wa wn wc, cs := t.ps } { st with cut := TU t.ps, up := false } ∧ UC st (kd, t.id, ah, cnt, sd, kb) = Vo { st with cut := TU t.ps, up := false }) from by
  refine ⟨⟨zK.out.recs, zK.out.txns, zK.out.locks, rfl, rfl, fun e => by cases e⟩, ?_⟩;unfold UC;rw [if_pos k6, hl]
  rfl)
 clear yu hl hx cC hm n hn ar;subst k6
 go_wp2_with fail
 generalize w2.setCell ⟨M, 8, none⟩ (.slice wa wn wc) = w3 at kS ax ⊢;refine kS.mono ?_;rintro e w4 ⟨rfl, h4, aM⟩;have HR := (show Hid (PmS w4 lo M gp gf gl (UC st (6, t.id, ah, cnt, sd, kb)) ∧ PmK lo w w4) from ⟨⟨_, h4, by rw [m2.out.2]; exact m2.out.1.off _ _ _ _ _ _ rfl⟩, ax.out.trans aM⟩);clear kS h4 aM;go_wp2;exact bodyPost_end (results_none Tryz.results99 _ _ _) rfl ⟨rfl, HR.out⟩
theorem ZE (gp gf gl id : Int) (w : World) (hg : 0 ≤ gp ∧ gp ≤ 1000) :
  Calls Tryz.prog 61 #[.agg #[V gp, V gf, V gl], V id] w fun e w' => e = .returned (.bool (decide (0 ≤ id) && decide (id < gp * 32))) ∧ Same w w' := by
 have Au : IntKind.i64.wrap (gp * 32) = gp * 32 := by rw [IntKind.wrap_i64]; omega
 have HK := (show Hid (Same w (w.alloc (.cells #[V gp, V gf, V gl] 35))) from kZ0.alloc _);have b0 := Blk.newL w [V gp, V gf, V gl] 35;obtain ⟨g0, g1, g2⟩ := b0.all3;clear b0
 by_cases h1 : 0 ≤ id
 case neg =>
  have Tz : id < 0 := by omega
  have e : (decide (0 ≤ id) && decide (id < gp * 32)) = false := by rw [decide_eq_false h1]; rfl
  rw [e]
  go_enter Tryz.func61, Tryz.ntmps61
  go_wp2;go_ret;exact ⟨rfl, HK.out⟩
 have e : (decide (0 ≤ id) && decide (id < gp * 32)) = decide (id < gp * 32) := by rw [decide_eq_true h1]; rfl
 rw [e];clear e
 go_enter Tryz.func61, Tryz.ntmps61
 go_wp2;go_ret;exact ⟨rfl, HK.out⟩
theorem jaH (kd stx ah cnt : Int) (sa : Option Addr) (sn sc : Nat) (ka : Option Addr) (kn kc : Nat) (w : World) :
  Calls Tryz.prog 126 #[.agg #[V kd, V stx, V ah, V cnt, .slice sa sn sc, .slice ka kn kc]] w fun e w' => e = .returned (V (if kd = 5 then 1 else 2)) ∧ Same w w' := by
 have HK := (show Hid (Same w (w.alloc (.cells #[V kd, V stx, V ah, V cnt, .slice sa sn sc, .slice ka kn kc] 71))) from kZ0.alloc _);have b0 := (Blk.newL w [V kd, V stx, V ah, V cnt, .slice sa sn sc, .slice ka kn kc] 71).cell 0;simp only [List.getElem?_cons_zero] at b0
 by_cases h1 : kd = 5
 ·rw [if_pos h1]
  subst h1
  go_enter Tryz.func126, Tryz.ntmps126
  go_wp2;go_ret;exact ⟨rfl, HK.out⟩
 ·rw [if_neg h1]
  have q : (kd == 5) = false := by simp [h1]
  go_enter Tryz.func126, Tryz.ntmps126
  go_wp2;go_ret;exact ⟨rfl, HK.out⟩
theorem jbx {id : Int} : ∀ {D : List RcD} (o : Bool × List Int) (m : Int), (∀ r ∈ D, r.1 ≠ id) → D.foldl (V9 id) o = o ∧ D.foldl (Vn id) m = m
 | [], _, _, _ => ⟨rfl, rfl⟩
 | x :: xs, o, m, h => by
  have h1 := h x List.mem_cons_self;rw [List.foldl_cons, List.foldl_cons]
  have e1 : V9 id o x = o := by unfold V9; rw [if_neg h1]
  have e2 : Vn id m x = m := by unfold Vn; rw [if_neg h1]
  rw [e1, e2];exact jbx o m (fun r hr => h r (List.mem_cons_of_mem _ hr))
theorem jby {id : Int} {d : List Int} : ∀ {D : List RcD}, (∀ r ∈ D, r.1 = id → r = (id, d)) → D.foldl (V9 id) (true, d) = (true, d) ∧ D.foldl (Vn id) (d.length : Int) = (d.length : Int)
 | [], _ => ⟨rfl, rfl⟩
 | x :: xs, h => by
  rw [List.foldl_cons, List.foldl_cons]
  have e1 : V9 id (true, d) x = (true, d) := by
   unfold V9
   split
   ·next h1 => rw [h x List.mem_cons_self h1]
   ·rfl
  have e2 : Vn id (d.length : Int) x = (d.length : Int) := by
   unfold Vn
   split
   ·next h1 => rw [h x List.mem_cons_self h1]
   ·rfl
  rw [e1, e2];exact jby (fun r hr => h r (List.mem_cons_of_mem _ hr))
theorem jaI {id : Int} {d : List Int} : ∀ {D : List RcD} (o : Bool × List Int) (m : Int), (∀ r ∈ D, r.1 = id → r = (id, d)) → (id, d) ∈ D → D.foldl (V9 id) o = (true, d) ∧ D.foldl (Vn id) m = (d.length : Int)
 | [], _, _, _, h => by simp at h
 | x :: xs, o, m, hu, hm => by
  rw [List.foldl_cons, List.foldl_cons]
  by_cases h1 : x.1 = id
  ·have e := hu x List.mem_cons_self h1
   have e1 : V9 id o x = (true, d) := by unfold V9; rw [if_pos h1, e]
   have e2 : Vn id m x = (d.length : Int) := by unfold Vn; rw [if_pos h1, e]
   rw [e1, e2];exact jby (fun r hr => hu r (List.mem_cons_of_mem _ hr))
  ·rcases List.mem_cons.1 hm with e | hm
   ·exact absurd (by rw [← e]) h1
   ·exact jaI _ _ (fun r hr => hu r (List.mem_cons_of_mem _ hr)) hm
theorem Vx (lo : Nat) (w : World) : RdL lo w (V0) [] := fun w' _ => (Own.nil 0 5 .u8 w').rd
theorem Zh {lo : Nat} {w : World} {C ck : Nat} {ce : List ERc} {D : List RcD} (h : RcM lo w C ck ce) (hD : (ce.map ERc.dat).Perm D) (id : Int) :
  ∃ (u : Bool) (va : Option Addr) (vn vc : Nat) (d : List Int), (∀ wx, Same w wx → (Instr.lookup 87 (.map (some C)) (V id) false).run Tryz.prog wx = .ok (.agg #[.bool u, .slice va vn vc]) wx) ∧ RdL lo w (.slice va vn vc) d ∧ d.length = vn ∧ (u, d) = D.foldl (V9 id) (false, []) ∧ (vn : Int) = D.foldl (Vn id) 0 := by
 rcases ZB id ce with hm | ⟨pre, e, post, rfl, rfl, cG⟩
 ·have jB : ∀ r ∈ D, r.1 ≠ id := fun r hr => by
   obtain ⟨y, hy, rfl⟩ := List.mem_map.1 (hD.symm.subset hr);exact hm y hy
  have hf := jbx (false, []) 0 jB;exact ⟨false, none, 0, 0, [], fun wx hx => U2 Tryz.underlying87 Tryz.underlying2 (h.same hx).map (WL hm) (Tryz.zeroValue110 _) false, Vx _ _, rfl, hf.1.symm, hf.2.symm⟩
 ·have ho := YT h.ok
  have dK : e ∈ pre ++ e :: post := List.mem_append_right _ List.mem_cons_self
  have hu : ∀ r ∈ D, r.1 = e.id → r = (e.id, e.bs) := fun r hr he => by
   obtain ⟨y, hy, rfl⟩ := List.mem_map.1 (hD.symm.subset hr)
   rcases List.mem_append.1 hy with hy | hy
   ·exact absurd he (ho y (List.mem_append_left _ hy))
   ·rcases List.mem_cons.1 hy with rfl | hy
    ·rfl
    ·exact absurd he (ho y (List.mem_append_right _ hy))
  have hf := jaI (false, []) 0 hu (hD.subset (List.mem_map_of_mem (f := ERc.dat) dK));obtain ⟨a, c, hv⟩ := (h.data e dK).here.form;refine ⟨true, a, e.bs.length, c, e.bs, fun wx hx => ?_, by rw [← hv]; exact h.data e dK, rfl, hf.1.symm, hf.2.symm⟩;have bJ := (h.same hx).map;rw [XJ] at bJ;have hr := UI (P := Tryz.prog) Tryz.underlying87 Tryz.underlying2 bJ (WL cG) false;rw [hv] at hr;exact hr
theorem jb2 (lo M : Nat) (gp gf gl : Int) (x : PmX) (pre post : List ETp) (t : ETp) (D : List RcD) (id : Int) (w : World) (h : PmI w lo M gp gf gl x) (hx : x.te = pre ++ t :: post) (hD : (x.ce.map ERc.dat).Perm D) :
  Calls Tryz.prog 146 #[Q3 M 0, .pointer (some ⟨t.g, 0, none⟩), V id] w fun e w' => e = .returned (V (XQ D (TU t.ps) id)) ∧ Same w w' := by
 obtain ⟨u, va, vn, vc, d, dH, ch, dS, kl, g7⟩ := Zh h.n.rcm hD id;have mf := dH w kZ0;have lE := (h.n.tw t (h.n.mem hx)).rd;obtain ⟨wa, wc, cC⟩ := lE.form;obtain ⟨L, hL⟩ : ∃ n, t.ps.length = n := ⟨_, rfl⟩;rw [hL] at cC;have bG := lE.max;unfold maxLen at bG;rw [hL] at bG;have t1 := (h.n.tb t (h.n.mem hx)).cell 1;simp only [List.getElem?_cons_zero, List.getElem?_cons_succ] at t1;rw [cC] at t1 lE;have c5 := h.box.cell 5;simp only [PmC, List.getElem?_cons_zero, List.getElem?_cons_succ] at c5;have pT := hid lE;have HL := hid hL;have HM := hid g7
 have hf : ∀ wx, (Instr.field 110 (.agg #[.bool u, .slice va vn vc]) 1).run Tryz.prog wx = .ok (.slice va vn vc) wx := fun wx => by kernel_rfl
 obtain ⟨DW, sr⟩ : ∃ z, TU t.ps = z := ⟨_, rfl⟩;have jQ := hid sr;rw [sr];generalize t.ps = ps at pT HL jQ;clear h hx hD dH ch dS kl g7 hL cC lE sr
 go_enter Tryz.func146, Tryz.ntmps146
 go_wp2_with fail
 clear mf hf c5 t1
 go_loopw [7, 23] (fun m i wr => ∃ k : Nat, k ≤ L ∧ i = V k ∧ m = V ((DW.take k).foldl (Wl id) (D.foldl (Vn id) 0)) ∧ Hid (Same w wr)) (fun _ i _ => L - (intOf i).toNat)
 case atStart => exact ⟨0, Nat.zero_le _, rfl, by rw [HM.out]; rfl, kZ0⟩
 case round =>
  obtain ⟨k, hk, rfl, rfl, HK⟩ := hrel;obtain ⟨m0, jI⟩ : ∃ z, (DW.take k).foldl (Wl id) (D.foldl (Vn id) 0) = z := ⟨_, rfl⟩;rw [jI]
  by_cases aG : k < L
  case neg =>
   obtain rfl : L = k := by omega
   have HR := (show Hid (m0 = XQ D DW id) from by
    show m0 = _
    rw [← jI, List.take_of_length_le (by rw [← jQ.out]; simp [TU]; exact Nat.le_of_eq HL.out)]
    rfl)
   clear jI;go_wp2;go_ret;exact ⟨by rw [HR.out]; rfl, HK.out⟩
  have h1 : k < ps.length := by rw [HL.out]; exact aG
  rcases pT.out.row with ⟨h, _⟩ | ⟨b, off, c, he, hc⟩
  ·rw [h] at h1; simp at h1
  injection he with e1 e2 e3
  subst e1 e3;obtain ⟨pi, lU⟩ : ∃ x, ps[k].id = x := ⟨_, rfl⟩;obtain ⟨us, rh⟩ : ∃ x, ps[k].us = x := ⟨_, rfl⟩;obtain ⟨dv, j6⟩ : ∃ x, ps[k].v = x := ⟨_, rfl⟩
  have ch : Rd .u8 w dv ps[k].bs := by rw [← j6]; exact pT.out.data ps[k] (List.getElem_mem h1)
  obtain ⟨da, dc, gd⟩ := ch.form;obtain ⟨dn, dM⟩ : ∃ n, ps[k].bs.length = n := ⟨_, rfl⟩;rw [dM] at gd;subst gd
  have d0 : wr.cell? ⟨b, off + k * 3, none⟩ = some (V pi) := by rw [← lU]; exact HK.out.cellOf (hc k 0 h1 (by decide)) (fun e => e)
  have d1 : wr.cell? ⟨b, off + k * 3 + 1, none⟩ = some (.bool us) := by rw [← rh]; exact HK.out.cellOf (hc k 1 h1 (by decide)) (fun e => e)
  have d2 : wr.cell? ⟨b, off + k * 3 + 2, none⟩ = some (.slice da dn dc) := by rw [← j6]; exact HK.out.cellOf (hc k 2 h1 (by decide)) (fun e => e)
  have HN := (show Hid ((DW.take (k + 1)).foldl (Wl id) (D.foldl (Vn id) 0) = if pi = id then max m0 (dn : Int) else m0) from by
   show (DW.take (k + 1)).foldl (Wl id) _ = _
   have h2 : k < DW.length := by rw [← jQ.out]; simp [TU]; exact h1
   rw [VY (Wl id) _ DW k h2, jI]
   have h3 : DW[k] = (pi, us, ps[k].bs) := by
    have : DW = TU ps := jQ.out.symm;subst this;simp only [TU, List.getElem_map, EWr.dat];rw [lU, rh]
   rw [h3]
   show (if pi = id then max m0 (ps[k].bs.length : Int) else m0) = _
   rw [dM])
  have eK := Blk.newL wr [V pi, .bool us, .slice da dn dc] 112;have ae : Same wr (wr.alloc (.cells #[V pi, .bool us, .slice da dn dc] 112)) := kZ0.alloc _;obtain ⟨X, hX⟩ : ∃ X, wr.heap.size = X := ⟨_, rfl⟩;rw [hX] at eK;clear hc e2 lU rh j6 ch dM jI
  go_upto_region 5 with fail
  try rw [hX]
  generalize wr.alloc (.cells #[V pi, .bool us, .slice da dn dc] 112) = w2 at eK ae ⊢;have ap := hid (HK.out.trans ae);obtain ⟨x0, x1, x2⟩ := eK.all3;clear eK ae hX HK d0 d1 d2
  by_cases hi : pi = id
  ·rw [if_pos hi] at HN
   have q : (pi == id) = true := by simp [hi]
   have HI := hid hi;clear hi;go_wp2;go_roundw
   case rel => exact ⟨k + 1, by omega, by go_num, by rw [HN.out], ap⟩
   case measure => simp [intOf]; omega
  ·rw [if_neg hi] at HN
   have q : (pi == id) = false := by simp [hi]
   have HI := hid hi;clear hi;go_wp2;go_roundw
   case rel => exact ⟨k + 1, by omega, by go_num, by rw [HN.out], ap⟩
   case measure => simp [intOf]; omega
theorem jfh (fa : Option Addr) (n fc : Nat) (w : World) : Calls Tryz.prog 171 #[.slice fa n fc] w fun e w' =>
  e = .returned (.func (.func 185) #[] #[.pointer (some ⟨w.heap.size, 0, none⟩)]) ∧ Blk w' w.heap.size 67 [.slice fa n fc] ∧ w'.heap.size = w.heap.size + 1 ∧ Same w w' := by
 have H0 := hid (Blk.newL w [.slice fa n fc] 67);have kt : ∀ (fn : Fn) (first cap : Array Value) (w : World), (Instr.makeFunc fn first cap).run Tryz.prog w = .ok (.func fn first cap) w := fun _ _ _ _ => rfl
 go_enter Tryz.func171, Tryz.ntmps171
 go_wp2;go_ret;exact ⟨rfl, H0.out, by simp [World.size_alloc], kZ0.alloc _⟩
def bxE (ps : List EWr) (M : Nat) (h : ps.length = M) (x : Fin M) : EWr := ps[M - 1 - x.val]'(by have := x.isLt; omega)
def bxV (ps : List EWr) (M : Nat) (h : ps.length = M) (x : Fin M) : Array Value := #[V ((M : Int) - 1 - (x.val : Int)), .agg (kWr.cells (bxE ps M h x)).toArray]
theorem jcQ (n b M : Nat) (fa : Option Addr) (fc : Nat) (ps : List EWr) (hM : ps.length = M) (w : World) (hb : Blk w b 67 [.slice fa M fc]) (hf : RdR kWr w (.slice fa M fc) ps) (az : M ≤ 1048576) :
  SeqStopsK Fence.wide n Tryz.prog 185 #[Q3 b 0] (bxV ps M hM) (Below w.heap.size) (fun xs => xs.map Fin.val = List.range M) (fun pre => pre.map Fin.val = List.range pre.length) M w := by
 intro l J Jx W hW hJ Rn hY KX;have mS := (show Hid (Same w W) from Kept.of_below hW);have HB := hid hb;have HF := hid hf;have Q0 := hid KX;have HJ := hid hJ;have HY := hid hY;have c0 := (hb.same mS.out).c0;clear hb hf hW KX hJ Rn hY;refine callsIn_of_wp Tryz.func185 rfl trivial ?_ rfl;simp only [Tryz.ntmps185, List.size_toArray, List.length_cons, List.length_nil, Nat.reduceAdd, Nat.reduceSub, Array.replicate_succ, Array.replicate_zero, List.push_toArray, List.append_toArray, List.nil_append, List.cons_append]
 gi_wp2
 clear c0
 gi_loopw [3] (fun i wr => ∃ (k : Nat) (pre : List (Fin M)), k ≤ M ∧ i = V ((M : Int) - 1 - (k : Int)) ∧ Hid (pre.map Fin.val = List.range k) ∧ Hid (Same w wr) ∧ Hid (J pre wr)) (fun i _ => (intOf i + 1).toNat)
 case atStart => exact ⟨0, [], Nat.zero_le _, by simp, rfl, mS, Q0⟩
 case round =>
  obtain ⟨k, pre, hk, rfl, HP, HS, NT⟩ := hrel;have d0 := (HB.out.same HS.out).c0
  by_cases vj : k < M
  ·obtain ⟨j, hj⟩ : ∃ j, M - 1 - k = j := ⟨_, rfl⟩
   have SP : j < M := by omega
   have NR : (M : Int) - 1 - (k : Int) = (j : Int) := by omega
   rw [NR]
   have aF : j < ps.length := by omega
   obtain ⟨bb, off, fh, Ia, bE⟩ : ∃ b off c, Value.slice fa M fc = .slice (some ⟨b, off, none⟩) M c ∧ ∀ j i, (h : j < ps.length) → i < 3 → w.cell? ⟨b, off + (j * 3 + i), none⟩ = (kWr.cells ps[j])[i]? := by
    rcases HF.out.row with ⟨h, _⟩ | ⟨b, off, c, h, hc⟩
    ·rw [h] at aF; simp at aF
    ·exact ⟨b, off, c, by rw [← hM]; exact (by rw [hM] at h ⊢; exact h), hc⟩
   injection Ia with Ia _ DK
   subst Ia DK;obtain ⟨cs, cD⟩ : ∃ cs, kWr.cells ps[j] = cs := ⟨_, rfl⟩
   have oo : cs.length = 3 := by rw [← cD]; exact kWr.len _
   have GF : wr.rangeAt bb (off + j * 3) cs := fun i v hv => by
    have hi : i < 3 := by have := (List.getElem?_eq_some_iff.1 hv).1; omega
    have h := bE j i aF hi;rw [cD, hv, ← Nat.add_assoc] at h;exact HS.out.cellOf h id
   obtain ⟨a0, a1, a2, rfl⟩ : ∃ a0 a1 a2, cs = [a0, a1, a2] := by
    match cs, oo with
    | [a, b, c], _ => exact ⟨a, b, c, rfl⟩
   have q0 : wr.cell? ⟨bb, off + j * 3, none⟩ = some a0 := GF 0 a0 rfl;have q1 : wr.cell? ⟨bb, off + j * 3 + 1, none⟩ = some a1 := GF 1 a1 rfl;have q2 : wr.cell? ⟨bb, off + j * 3 + 2, none⟩ = some a2 := GF 2 a2 rfl
   have pP : bxV ps M hM ⟨k, vj⟩ = #[V (j : Int), .agg #[a0, a1, a2]] := by
    unfold bxV bxE;simp only [NR]
    have e : ∀ (q : Nat) (hq : q < ps.length), q = j → kWr.cells (ps[q]'hq) = [a0, a1, a2] := fun q hq e => by subst e; exact cD
    rw [e _ _ hj]
   have mT : pre.length = k := by have := congrArg List.length HP.out; simpa using this
   obtain ⟨fn, tmps, assign, body, hy, hR⟩ := HY.out pre ⟨k, vj⟩ wr NT.out (by omega);rw [pP] at hy;have HR := hid hR;have lh := (show Hid ((pre ++ [(⟨k, vj⟩ : Fin M)]).map Fin.val = List.range (k + 1)) from by unfold Hid; rw [List.map_append, HP.out, List.range_succ]; rfl);clear bE cD GF hR pP hj
   gi_wp2
   refine ⟨fun h => by simp [Fence.wide] at h, ?_⟩;refine HR.out.mono ?_;rintro e W3 (⟨rfl, hJ3, ar⟩ | ⟨rfl, hJx3⟩)
   ·have Rs := hid hJ3
    have qJ := (show Hid (Same w W3) from Kept.of_below ((HS.out.below (Nat.le_refl _) (fun _ _ => id)).trans ar));clear hJ3 ar HR hy
    gi_wp2
    go_roundw
    case rel => exact ⟨k + 1, _, by omega, by first | (congr 1; omega) | go_num, lh, qJ, Rs⟩
    case measure => simp only [intOf]; omega
   ·clear HR hy
    gi_wp2
    refine bodyPost_ret (results_none rfl _ _ _) rfl ?_;refine ⟨⟨_, rfl⟩, .inr ⟨_, ?_, hJx3⟩⟩;rw [lh.out, List.length_append, mT];rfl
  ·obtain rfl : k = M := by omega
   have G8 : (k : Int) - 1 - (k : Int) = -1 := by omega
   rw [G8]
   gi_wp2
   go_end0
   exact ⟨⟨_, rfl⟩, .inl ⟨pre, HP.out, NT.out⟩⟩
theorem ZF (id : Int) (s0 : Bool × List Int) (ps : List EWr) (M : Nat) (hM : ps.length = M) : ∀ (k : Nat) (pre : List (Fin M)), k ≤ M → pre.map Fin.val = List.range k → (∀ x ∈ pre, ¬ (bxE ps M hM x).id = id) → (TU ps).foldl (X4 id) s0 = ((TU ps).take (M - k)).foldl (X4 id) s0
 | 0, _, _, _, _ => by rw [Nat.sub_zero, List.take_of_length_le (by simp [TU]; omega)]
 | k + 1, pre, hk, hp, hn => by
  have hl : pre.length = k + 1 := by have := congrArg List.length hp; simpa using this
  have h1 : (pre.take k).map Fin.val = List.range k := by rw [List.map_take, hp, List.take_range]; congr 1; omega
  rw [ZF id s0 ps M hM k (pre.take k) (by omega) h1 (fun x hx => hn x (List.mem_of_mem_take hx))]
  have h2 : M - k = (M - (k + 1)) + 1 := by omega
  have h3 : M - (k + 1) < (TU ps).length := by simp [TU]; omega
  rw [h2, VY (X4 id) s0 (TU ps) (M - (k + 1)) h3];have hm := hn (pre[k]'(by omega)) (List.getElem_mem _)
  have hv : (pre[k]'(by omega)).val = k := by
   have h3 : (pre.map Fin.val)[k]'(by simp; omega) = (List.range (k + 1))[k]'(by simp) := by simp only [hp]
   simpa using h3
  unfold bxE at hm
  have e : ∀ (q : Nat) (hq : q < ps.length), q = M - (k + 1) → ps[q]'hq = ps[M - (k + 1)]'(by omega) := fun q hq e => by subst e; rfl
  rw [e _ _ (by rw [hv]; omega)] at hm
  have e4 : (TU ps)[M - (k + 1)] = (ps[M - (k + 1)]'(by omega)).dat := by simp [TU]
  rw [e4];have e5 : ∀ o, X4 id o (ps[M - (k + 1)]'(by omega)).dat = o := fun o => if_neg hm;exact e5 _
theorem jdY (id : Int) (s0 : Bool × List Int) (ps : List EWr) (M : Nat) (hM : ps.length = M) (pre : List (Fin M)) (x : Fin M) (hp : (pre ++ [x]).map Fin.val = List.range (pre ++ [x]).length) (hn : ∀ y ∈ pre, ¬ (bxE ps M hM y).id = id) (hx : (bxE ps M hM x).id = id) : (TU ps).foldl (X4 id) s0 = ((bxE ps M hM x).us, (bxE ps M hM x).bs) := by
 rw [List.map_append, List.length_append, List.length_singleton, List.range_succ] at hp;obtain ⟨h1, h2⟩ := List.append_inj hp (by simp)
 have hv : x.val = pre.length := by simpa using h2
 have aG := x.isLt;rw [ZF id s0 ps M hM pre.length pre (by omega) h1 hn]
 have h3 : M - pre.length = (M - 1 - x.val) + 1 := by omega
 have h4 : M - 1 - x.val < (TU ps).length := by simp [TU]; omega
 rw [h3, VY (X4 id) s0 (TU ps) (M - 1 - x.val) h4]
 have e4 : (TU ps)[M - 1 - x.val] = (bxE ps M hM x).dat := by unfold bxE; simp [TU]
 rw [e4];unfold X4;rw [if_pos (show (bxE ps M hM x).dat.1 = id from hx)];rfl
def SvI (w w2 : World) (id : Int) (ps : List EWr) (M : Nat) (hM : ps.length = M) (pre : List (Fin M)) (W : World) : Prop :=
 (∀ x ∈ pre, ¬ (bxE ps M hM x).id = id) ∧ Blk W w.heap.size 2 [V id] ∧ Blk W (w.heap.size + 1) 110 [.bool false, V0] ∧ Same w2 W
theorem SvI.own (w w2 : World) (id : Int) (ps : List EWr) (M : Nat) (hM : ps.length = M) : OwnFrom w2.heap.size (SvI w w2 id ps M hM) := by
 rintro pre W W' row ⟨h1, h2, h3, hk⟩ hg hr;have ae := Zw hg hr;exact ⟨h1, h2.kept ae h2.not_bare, h3.kept ae h3.not_bare, hk.next ae (fun i hi e => by have := e.1; omega)⟩
def SvX (w w2 : World) (id : Int) (ps : List EWr) (M : Nat) (hM : ps.length = M) (c : Code) (pre : List (Fin M)) (W : World) : Prop :=
 c = .ret ∧ ∃ (pr : List (Fin M)) (x : Fin M), pre = pr ++ [x] ∧ (∀ y ∈ pr, ¬ (bxE ps M hM y).id = id) ∧ (bxE ps M hM x).id = id ∧ Blk W (w.heap.size + 1) 110 [.bool (bxE ps M hM x).us, (bxE ps M hM x).v] ∧ Same w W
theorem SvX.own (w w2 : World) (hw : w.heap.size ≤ w2.heap.size) (id : Int) (ps : List EWr) (M : Nat) (hM : ps.length = M) (c : Code) : OwnFrom w2.heap.size (SvX w w2 id ps M hM c) := by
 rintro pre W W' row ⟨h0, pr, x, h1, h2, h3, h4, hk⟩ hg hr;have ae := Zw hg hr;exact ⟨h0, pr, x, h1, h2, h3, h4.kept ae h4.not_bare, hk.next ae (fun i hi e => by have := e.1; omega)⟩
def SvA (w2 : World) (ps : List EWr) (M : Nat) (hM : ps.length = M) (f : Fin M → Nat → Act) (x : Fin M) (a' : Act) (W : World) : Prop :=
 ∃ Bx, w2.heap.size ≤ Bx ∧ Blk W Bx 112 (kWr.cells (bxE ps M hM x)) ∧ a' = f x Bx
theorem SvA.own (w2 : World) (ps : List EWr) (M : Nat) (hM : ps.length = M) (f : Fin M → Nat → Act) (x : Fin M) (a' : Act) : OwnFrom w2.heap.size (fun (_ : Unit) W => SvA w2 ps M hM f x a' W) := by
 rintro _ W W' row ⟨Bx, h1, h2, h3⟩ hg hr;exact ⟨Bx, h1, h2.kept (Zw hg hr) h2.not_bare, h3⟩
def SeR (lo : Nat) (w w' : World) (e : Ending) (D : Bool × List Int) : Prop := ∃ (u : Bool) (a : Option Addr) (n c : Nat) (d : List Int), e = .returned (.agg #[.bool u, .slice a n c]) ∧ RdL lo w' (.slice a n c) d ∧ d.length = n ∧ (u, d) = D ∧ Same w w'
theorem jdZ {P : Program} {c : Code} {Q : Exit → Act → World → Prop} {a : Act} {w : World} (h : Code.wp P c (fun e a w => match e with | .normal => Q .normal a w | _ => False) a w) : Code.wp P c Q a w := Code.wp_mono (fun e a w hq => by cases e <;> first | exact hq | exact hq.elim) h
theorem jbz (lo M0 : Nat) (gp gf gl : Int) (px : PmX) (tp post : List ETp) (t : ETp) (D : List RcD) (id : Int) (w : World) (h : PmI w lo M0 gp gf gl px) (hx : px.te = tp ++ t :: post) (hD : (px.ce.map ERc.dat).Perm D) (az : t.ps.length ≤ 1048576) :
  Calls Tryz.prog 145 #[Q3 M0 0, .pointer (some ⟨t.g, 0, none⟩), V id] w fun e w' => SeR lo w w' e (V7 D (TU t.ps) id) := by
 obtain ⟨u0, va, vn, vc, d0, dH, rr, rK, kl, g7⟩ := Zh h.n.rcm hD id;have lE := h.n.tw t (h.n.mem hx);obtain ⟨wa, wc, cC⟩ := lE.form;obtain ⟨M, JP⟩ : ∃ n, t.ps.length = n := ⟨_, rfl⟩;rw [JP] at cC az;have iQ := (show Hid (∀ wx, Same w wx → wx.cell? ⟨t.g, 1, none⟩ = some (.slice wa M wc) ∧ wx.cell? ⟨M0, 5, none⟩ = some (.map (some px.C)) ∧ (Instr.lookup 87 (.map (some px.C)) (V id) false).run Tryz.prog wx = .ok (.agg #[.bool u0, .slice va vn vc]) wx) from fun wx dT => ⟨by rw [← cC]; exact ((h.same dT).n.tb t ((h.same dT).n.mem hx)).cell 1, (h.same dT).box.cell 5, dH wx dT⟩);rw [cC] at lE;have pT := hid lE;have Ai := hid rr;have OS := hid rK;have JO := hid kl;obtain ⟨ps, lH⟩ : ∃ z, t.ps = z := ⟨_, rfl⟩;rw [lH] at pT JP ⊢;have hM := JP;have HM := hid hM;clear h hx hD dH rr rK kl g7 lE cC lH;have fm := hid (Blk.newA w [V id] 2 [.bool false, V0] 110);have bF := hid (Blk.newB w [V id] 2 [.bool false, V0] 110);have ao := (show Hid (Same w ((w.alloc (.cells #[V id] 2)).alloc (.cells #[.bool false, V0] 110))) from (kZ0.alloc _).alloc _);have kB := jfh wa M wc ((w.alloc (.cells #[V id] 2)).alloc (.cells #[.bool false, V0] 110));simp only [World.size_alloc] at kB;have t1 := (iQ.out _ ao.out).1;refine callsIn_wide.1 (callsIn_of_wp_marks (F := Fence.wide) (n := 3) Tryz.func145 rfl trivial (wpIn_wide.2 ?_) rfl);simp only [Tryz.ntmps145, List.size_toArray, List.length_cons, List.length_nil, Nat.reduceAdd, Nat.reduceSub, Array.replicate_succ, Array.replicate_zero, List.push_toArray, List.append_toArray, List.nil_append, List.cons_append]
 go_wp2_with fail
 refine kB.mono ?_;rintro e w2 ⟨rfl, cA, bv, ae⟩;have G0 := hid (fm.out.same ae);have GY := hid (bF.out.same ae);have ap := hid (ao.out.trans ae);have Db := hid cA
 have bv : w2.heap.size = w.heap.size + 3 := by rw [bv]
 clear cA ae kB fm bF ao t1
 go_wp2_with fail
 have gO := (show Hid (RdR kWr w2 (.slice wa M wc) ps) from pT.out.rd.same ap.out);have JS := ap.out.size;refine (wpIn_wide (n := 3)).1 ?_
 refine wpIn_rangeFunc_ownH (F := Fence.wide) (n := 3) rfl (by decide) (gf := 185) (lb := #[.pointer (some ⟨w.heap.size + 1 + 1, 0, none⟩)]) rfl trivial (enters_of Tryz.func185 (by kernel_rfl) rfl)
  (jcQ 2 (w.heap.size + 1 + 1) M wa wc ps hM w2 Db.out gO.out az) belowK_t (belowK_b (Nat.le_refl _)) (Below.refl _ _) (fun _ => rfl)
  (SvI w w2 id ps M hM) (SvX w w2 id ps M hM) (SvI.own w w2 id ps M hM) (SvX.own w w2 JS id ps M hM)
  ⟨fun x hx => absurd hx List.not_mem_nil, G0.out, GY.out, kZ0⟩
  (SvA w2 ps M hM (fun (x : Fin M) (Bx : Nat) => { tmps := #[Q3 M0 0, .pointer (some ⟨t.g, 0, none⟩), V id, undef, undef, .pointer (some ⟨w.heap.size, 0, none⟩), .pointer (some ⟨w.heap.size + 1, 0, none⟩), undef, Q3 Bx 0, .pointer (some ⟨t.g, 0, none⟩), .pointer (some ⟨t.g, 0, none⟩), .pointer (some ⟨t.g, 1, none⟩), .slice wa M wc, .func (.func 185) #[] #[.pointer (some ⟨w.heap.size + 1 + 1, 0, none⟩)], V ((M : Int) - 1 - (x.val : Int)), .agg (kWr.cells (bxE ps M hM x)).toArray, undef, undef, undef, undef, undef, undef, undef, undef, undef, undef, undef, undef], defers := [] })) (SvA.own w2 ps M hM _) ?assign ?body ?done ?stop
 case assign =>
  rintro l pre x W K ⟨h1, h2, h3, h4⟩ hK;obtain ⟨ai, au, av, ab, hE⟩ : ∃ ai au av ab, bxE ps M hM x = ⟨ai, au, av, ab⟩ := ⟨_, _, _, _, rfl⟩
  have wu : av.oneCell' = true := by
   have cU : bxE ps M hM x ∈ ps := List.getElem_mem _;obtain ⟨a, c, e⟩ := (gO.out.data _ cU).form;have e2 : (bxE ps M hM x).v = .slice a (bxE ps M hM x).bs.length c := e;rw [hE] at e2;rw [show av = _ from e2];rfl
  obtain ⟨aa, an, ac, Ie⟩ : ∃ aa an ac, av = .slice aa an ac := by
   have cU : bxE ps M hM x ∈ ps := List.getElem_mem _;obtain ⟨a, c, e⟩ := (gO.out.data _ cU).form;have e2 : (bxE ps M hM x).v = .slice a (bxE ps M hM x).bs.length c := e;rw [hE] at e2;exact ⟨_, _, _, e2⟩
  subst Ie;have HH := (show Hid (K ((fun (x : Fin M) (Bx : Nat) => { tmps := #[Q3 M0 0, .pointer (some ⟨t.g, 0, none⟩), V id, undef, undef, .pointer (some ⟨w.heap.size, 0, none⟩), .pointer (some ⟨w.heap.size + 1, 0, none⟩), undef, Q3 Bx 0, .pointer (some ⟨t.g, 0, none⟩), .pointer (some ⟨t.g, 0, none⟩), .pointer (some ⟨t.g, 1, none⟩), .slice wa M wc, .func (.func 185) #[] #[.pointer (some ⟨w.heap.size + 1 + 1, 0, none⟩)], V ((M : Int) - 1 - (x.val : Int)), .agg (kWr.cells (bxE ps M hM x)).toArray, undef, undef, undef, undef, undef, undef, undef, undef, undef, undef, undef, undef], defers := [] }) x W.heap.size) (W.alloc (.cells #[V ai, .bool au, .slice aa an ac] 112))) from hK _ _ (XF (R := fun _ => False) (kZ0.alloc _) (fun b e => e.elim)) (((Kept.refl (fun _ => False) W).alloc _).below h4.size (fun _ _ h => h)) ⟨h1, h2.alloc _, h3.alloc _, h4.alloc _⟩ ⟨W.heap.size, h4.size, by rw [hE]; exact Blk.newL W [V ai, .bool au, .slice aa an ac] 112, rfl⟩);dsimp only at HH
  have cD : (kWr.cells (bxE ps M hM x)).toArray = #[V ai, .bool au, .slice aa an ac] := by rw [hE]; rfl
  rw [cD] at HH;dsimp only [bxV];rw [cD];clear cD;refine Ws (Wt (fun ⟨_, _, h⟩ => h)) rfl ?_;go_wp2;exact HH.out
 case body =>
  rintro l pre x a' W hl ⟨r, hr⟩ ⟨h1, h2, h3, h4⟩ ⟨Bx, SC, ix, rfl⟩ aG;dsimp only;have cU : bxE ps M hM x ∈ ps := List.getElem_mem _;obtain ⟨aa, ac, wu⟩ := (gO.out.data _ cU).form;have wu : (bxE ps M hM x).v = .slice aa (bxE ps M hM x).bs.length ac := wu;have LB := hid wu;have e0 : W.cell? ⟨Bx, 0, none⟩ = some (V (bxE ps M hM x).id) := ix.cell 0;have e1 : W.cell? ⟨Bx, 1, none⟩ = some (.bool (bxE ps M hM x).us) := ix.cell 1
  have e2 : W.cell? ⟨Bx, 2, none⟩ = some (.slice aa (bxE ps M hM x).bs.length ac) := by rw [← wu]; exact ix.cell 2
  have p0 := h2.c0;have IA := (show Hid (¬ (bxE ps M hM x).id = id → SvI w w2 id ps M hM (pre ++ [x]) W) from fun h => ⟨fun y hy => by rcases List.mem_append.1 hy with hy | hy; exact h1 y hy; rw [List.mem_singleton.1 hy]; exact h, h2, h3, h4⟩);have BN := (show Hid ((bxE ps M hM x).id = id → ∀ W', Blk W' (w.heap.size + 1) 110 [.bool (bxE ps M hM x).us, .slice aa (bxE ps M hM x).bs.length ac] → Same w W' → SvX w w2 id ps M hM .ret (pre ++ [x]) W') from fun h W' hb hk => ⟨rfl, pre, x, rfl, h1, h, by rw [LB.out]; exact hb, hk⟩);clear wu cU ix hr LB;generalize (bxE ps M hM x).id = ai at e0 IA BN;generalize (bxE ps M hM x).us = au at e1 BN;generalize (bxE ps M hM x).bs.length = an at e2 BN;generalize (kWr.cells (bxE ps M hM x)).toArray = ea
  by_cases h8 : ai = id
  case neg =>
   have e8 : (ai == id) = false := by simp [h8]
   refine wpIn_block (wpIn_seq (Ws (Wt (Xi XE)) rfl ?_));go_wp2;refine wpIn_cond_false rfl (wpIn_skip ?_);exact ⟨XF (R := fun _ => False) kZ0 (fun b e => e.elim), Below.refl _ _, IA.out h8⟩
  have e8 : (ai == id) = true := by simp [h8]
  have Iy := hid (BN.out h8);have H8 := hid h8;clear IA BN h8;refine wpIn_block (wpIn_seq (Ws (Wt (Xi XE)) rfl ?_));go_wp2;refine wpIn_cond_true rfl (wpIn_seq (Ws (Wt (Xi XE)) rfl ?_));obtain ⟨Q7, Qm⟩ := h3.all2;have ff := h3.frozen;have Hd := h3.lt;go_wp2;refine wpIn_ret ?_;have sy : Kept (fun b => b = w.heap.size + 1) W ((W.setCell ⟨w.heap.size + 1, 0, none⟩ (.bool au)).setCell ⟨w.heap.size + 1, 1, none⟩ (.slice aa an ac)) := ((Kept.refl (fun b => b = w.heap.size + 1) W).setCell (p := ⟨w.heap.size + 1, 0, none⟩) (.inr rfl) _).setCell (p := ⟨w.heap.size + 1, 1, none⟩) (.inr rfl) _;exact ⟨XF sy (fun b e hb => h3.not_bare (e ▸ hb)), Iy.out _ ((h3.stored 0 _).stored 1 _) ((ap.out.trans h4).next sy (fun i hi e => by omega))⟩
 case done =>
  rintro D2 xs W Py hS ⟨h1, h2, h3, h4⟩ hK;have o8 := ZF id (D.foldl (V9 id) (false, [])) ps M hM M xs (Nat.le_refl _) hS h1;rw [Nat.sub_self, List.take_zero, List.foldl_nil] at o8;have Qh := (show Hid ((u0, d0) = V7 D (TU ps) id) from by show (u0, d0) = _; unfold V7; rw [o8]; exact JO.out);clear o8;have mJ := hid (ap.out.trans h4)
  go_wp2_with fail
  refine jdZ ?_
  let Y1 : World → Prop := fun wx : World => wx.cell? ⟨M0, 5, none⟩ = some (.map (some px.C)) ∧ wx.cell? ⟨w.heap.size, 0, none⟩ = some (V id) ∧ (Instr.lookup 87 (.map (some px.C)) (V id) false).run Tryz.prog wx = .ok (.agg #[.bool u0, .slice va vn vc]) wx
  refine TT Y1 6 7 rfl (by kernel_rfl) ?_;have aP : Same W (World.drew W) := kZ0.drew;have mU := aP.heap hK (fun e => e);generalize World.drew W = W5 at aP mU ⊢;have iN : Y1 W5 := ⟨(iQ.out W5 (mJ.out.trans aP)).2.1, (h2.same aP).c0, (iQ.out W5 (mJ.out.trans aP)).2.2⟩;refine tk 0 22 iN ?_;refine tk 1 23 iN ?_;refine tk 2 24 iN ?_;refine tk 3 25 iN ?_;refine tk 4 26 iN ?_;refine tk 5 27 iN ?_;have Gy := h3.same aP;obtain ⟨Q7, Qm⟩ := Gy.all2;have ff := Gy.frozen;have Hd := Gy.lt;refine o1Q 6 (fun Kc ak => ?_);go_simp;refine ak.out _ _ (fun h => absurd rfl h) ?_;clear ak Kc iN;refine TS (by kernel_rfl) ?_
  try simp only [Act.put, sA, s0, sS]
  go_wp2;have sy : Kept (fun b => b = w.heap.size + 1) W5 ((W5.setCell ⟨w.heap.size + 1, 0, none⟩ (.bool u0)).setCell ⟨w.heap.size + 1, 1, none⟩ (.slice va vn vc)) := ((Kept.refl (fun b => b = w.heap.size + 1) W5).setCell (p := ⟨w.heap.size + 1, 0, none⟩) (.inr rfl) _).setCell (p := ⟨w.heap.size + 1, 1, none⟩) (.inr rfl) _;have dC := (Gy.stored 0 (.bool u0)).stored 1 (.slice va vn vc);generalize (W5.setCell ⟨w.heap.size + 1, 0, none⟩ (.bool u0)).setCell ⟨w.heap.size + 1, 1, none⟩ (.slice va vn vc) = W1 at sy dC ⊢;have II : W1.heap[D2]? = some (Obj.deferred (some [])) := sy.heap mU (fun e => by have e' : D2 = w.heap.size + 1 := e; omega);refine ⟨by simp, .inl ⟨_, _, rfl, run_takeDeferred II, ?_⟩⟩;have fH : Kept (fun b => b = D2) W1 (W1.putObj D2 (.deferred none)) := Kept.of_grown (grownBy_putObj' _ D2 (.deferred none)) (fun r e => by cases e; rfl);generalize W1.putObj D2 (.deferred none) = W9 at fH ⊢;obtain ⟨z0, z1⟩ := (dC.kept fH (fun e => by omega)).all2;refine ⟨.agg #[.bool u0, .slice va vn vc], by simp [results, Tryz.results145, go_sem, z0, z1], ?_⟩;have CP : Same w W9 := ((mJ.out.trans aP).next sy (fun i hi e => by omega)).next fH (fun i hi e => by omega);exact ⟨u0, va, vn, vc, d0, rfl, Ai.out.onL (CP.mono (fun _ _ e => e.elim)), OS.out, Qh.out, CP⟩
 case stop =>
  rintro D2 c pre W Py QL ⟨rfl, pr, x, rfl, h2, h3, ix, hk⟩ QA;have o8 := jdY id (D.foldl (V9 id) (false, [])) ps M hM pr x QL h2 h3;have cU : bxE ps M hM x ∈ ps := List.getElem_mem _;have yf := pT.out.data _ cU;obtain ⟨aa, ac, wu⟩ := yf.here.form;rw [wu] at ix yf;refine wpIn_ret ?_;refine ⟨by simp, .inl ⟨_, _, rfl, run_takeDeferred QA, ?_⟩⟩;have fH : Kept (fun b => b = D2) W (W.putObj D2 (.deferred none)) := Kept.of_grown (grownBy_putObj' _ D2 (.deferred none)) (fun r e => by cases e; rfl);generalize W.putObj D2 (.deferred none) = W9 at fH ⊢;obtain ⟨z0, z1⟩ := (ix.kept fH (fun e => by omega)).all2;refine ⟨.agg #[.bool (bxE ps M hM x).us, .slice aa (bxE ps M hM x).bs.length ac], by simp [results, Tryz.results145, go_sem, z0, z1], ?_⟩;have CP : Same w W9 := hk.next fH (fun i hi e => by omega);exact ⟨_, _, _, _, _, rfl, yf.onL (CP.mono (fun _ _ e => e.elim)), rfl, o8.symm, CP⟩
end Go.Proofs.YtljfcdkhicffcaaGreat
