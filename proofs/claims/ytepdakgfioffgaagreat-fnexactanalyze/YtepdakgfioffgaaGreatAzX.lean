import Derived.Test.YtepdakgfioffgaaGreatG32
import Derived.Test.YtepdakgfioffgaaGreatG16
import Derived.Deep.DeepCutAuto
namespace Go.Proofs.YtepdakgfioffgaaGreat
set_option maxRecDepth 100000
set_option maxHeartbeats 8000000
set_option linter.unusedVariables false
set_option linter.unusedSimpArgs false
open Go Go.RowKit Go.MapKept
structure FcI (fc : List Value) (f : F6) : Prop where
 len : fc.length = 16
 c0 : fc[0]? = some (.int .i64 f.1)
 c2 : fc[2]? = some (.int .i64 f.2.1)
 c3 : fc[3]? = some (.int .i64 f.2.2.1)
 c4 : fc[4]? = some (.int .i64 f.2.2.2.1)
 c5 : fc[5]? = some (.int .i64 f.2.2.2.2.1)
 c11 : fc[11]? = some (.int .i64 f.2.2.2.2.2)
 one : fc.toArray.all (·.oneCell') = true
theorem box_newX (w : World) (zs : Array Value) (cs : List Value) (t : TypeId) (h : zs.size = cs.length) : Blk ((w.alloc (.cells zs t)).setCells w.heap.size 0 cs) w.heap.size t cs ∧ Same w ((w.alloc (.cells zs t)).setCells w.heap.size 0 cs) := by
 refine ⟨?_, Kept.setCells (.inl (Nat.le_refl _)) _ _ ((Kept.refl _ _).alloc _)⟩
 have h1 := (Blk.new w zs t).setCells cs 0 (by simp [h])
 rwa [lay_all _ _ (by simp [h])] at h1
def lastQ (l : Int) (x : Q4) : Q4 := (x.1, x.2.1, l, x.2.2.2)
def FolR (w w' : World) (b0 T : Nat) (s : AzS) (f : F6) (e : Ending) : Prop :=
 ((∀ q, getK kQ f.2.2.1 s.tx = some q → q.2.2.1 ≠ f.2.2.2.1) ∧ e = .returned (.pointer none) ∧ Same w w') ∨
 ∃ (q : Q4) (g Bt ct Bd cd Bi ci : Nat) (pre post : List KV) (b : Nat) (kd ki : List KV), getK kQ f.2.2.1 s.tx = some q ∧ q.2.2.1 = f.2.2.2.1 ∧ e = .returned (.pointer (some ⟨g, 0, none⟩)) ∧ Blk w' g 57 (entC (lastQ f.1 q)) ∧ (∀ e ∈ pre, e.1 ≠ f.2.2.1) ∧
  TabI w' b0 T ⟨max s.nx (f.2.2.1 + 1), setK kQ f.2.2.1 (lastQ f.1) s.tx, s.dy, s.im⟩ Bt ct Bd cd Bi ci (pre ++ (f.2.2.1, .pointer (some ⟨g, 0, none⟩), b) :: post) kd ki ∧ KT b0 w w'
theorem follow_any (w : World) (b0 T : Nat) (s : AzS) (fc : List Value) (f : F6) (hf : FcI fc f) (h : TabM w b0 T s) (hu : Up kQ s.tx) (ht : 1 ≤ f.2.2.1 ∧ f.2.2.1 ≤ 2147483647) :
  Calls Tryz.prog 78 #[.pointer (some ⟨T, 0, none⟩), .agg fc.toArray] w fun e w' => FolR w w' b0 T s f e := by
 obtain ⟨X, kn, tx, pv, pg, un⟩ := f
 have eg := newBox w fc 51
 obtain ⟨w1, fC⟩ : ∃ x, x = w.alloc (.cells fc.toArray 51) := ⟨_, rfl⟩
 rw [← fC] at eg
 have HF := hid eg.1
 have bq := hid eg.2
 have nz := eg.1.lt
 obtain ⟨FB, gH⟩ : ∃ x, w.heap.size = x := ⟨_, rfl⟩
 rw [gH] at HF nz
 have f0 : w1.cell? ⟨FB, 0, none⟩ = some (.int .i64 X) := by rw [HF.out.cell]; exact hf.c0
 have f2 : w1.cell? ⟨FB, 2, none⟩ = some (.int .i64 kn) := by rw [HF.out.cell]; exact hf.c2
 have f3 : w1.cell? ⟨FB, 3, none⟩ = some (.int .i64 tx) := by rw [HF.out.cell]; exact hf.c3
 have f4 : w1.cell? ⟨FB, 4, none⟩ = some (.int .i64 pv) := by rw [HF.out.cell]; exact hf.c4
 have f5 : w1.cell? ⟨FB, 5, none⟩ = some (.int .i64 pg) := by rw [HF.out.cell]; exact hf.c5
 have lp : w1.cell? ⟨FB, 11, none⟩ = some (.int .i64 un) := by rw [HF.out.cell]; exact hf.c11
 have HL : Hid (fc.length = 16) := hf.len
 clear eg
 obtain ⟨Bt, ct, Bd, cd, Bi, ci, kt, kd, ki, lQ⟩ := h
 have ob := hid (lQ.same bq.out)
 obtain ⟨t0, t1, t2, t3⟩ := ob.out.box.all4
 clear lQ
 dsimp only at ht
 have UZ : IntKind.i64.wrap (tx + 1) = tx + 1 := by rw [IntKind.wrap_i64]; omega
 rcases oR : getK kQ tx s.tx with _ | q
 ·have HN := hid oR
  have HM := hid (ob.out.et.miss oR)
  clear oR
  go_enter Tryz.func78, Tryz.ntmps78
  go_upto_region 1 with fail
  rw [← fC]
  try rw [gH]
  have qp := hid gH
  clear fC gH
  let Y2 : World → Prop := fun wx : World => MapB wx Bt kt ct ∧ wx.cell? ⟨T, 1, none⟩ = some (.map (some Bt)) ∧ wx.cell? ⟨FB, 3, none⟩ = some (.int .i64 tx)
  refine wp_region_V Y2 99 9 rfl (by kernel_rfl) ?_
  have jB : Same w1 w1.drew := (Kept.refl _ _).drew
  generalize w1.drew = w2 at *
  have hS : Y2 w2 := ⟨ob.out.mt.same jB, jB.cellOf t1 id, jB.cellOf f3 id⟩
  refine tk 0 6 hS ?_
  refine tk 1 7 hS ?_
  refine tk 2 8 hS ?_
  refine tk 3 9 hS ?_
  refine tk 4 10 hS ?_
  refine tk 5 11 hS ?_
  refine tk 6 12 hS ?_
  refine tkV 7 13 (.pointer none) hS ?_ (hy := fun wx cI => exec_lookup rfl rfl rfl (run_lookup_miss Tryz.underlying90 Tryz.underlying2 cI.1 HM.out (Tryz.zeroValue95 _) false))
  refine tk 8 5 hS ?_
  refine wpAnyV_done (by kernel_rfl) ?_
  have cw := hid (bq.out.trans jB)
  clear jB hS f0 f2 f3 f4 f5 lp t0 t1 t2 t3
  go_wp2_with fail
  refine wp_region_V (fun _ : World => True) 99 12 rfl (by kernel_rfl) ?_
  have jB : Same w2 w2.drew := (Kept.refl _ _).drew
  generalize w2.drew = w3 at *
  have hS : (fun _ : World => True) w3 := trivial
  refine tk 0 14 hS ?_
  refine tkV 1 15 (.bool true) hS ?_
  refine tk 2 16 hS ?_
  refine tkS 3 17 hS ?_
  refine tkS 4 18 hS ?_
  refine tkS 5 19 hS ?_
  refine tkS 6 20 hS ?_
  refine tkS 7 21 hS ?_
  refine tkS 8 22 hS ?_
  refine tkS 9 23 hS ?_
  refine tkS 10 24 hS ?_
  refine tkV 11 25 (.bool true) hS ?_
  refine wpAnyV_done (by kernel_rfl) ?_
  have dZ := hid (cw.out.trans jB)
  clear jB hS
  go_wp2
  go_ret
  exact .inl ⟨fun q hq => (by rw [HN.out] at hq; cases hq), rfl, dZ.out⟩
 ·obtain ⟨pre, b, post, g, t7, gm, lr⟩ := ob.out.hit hu oR
  subst t7
  have HG := hid oR
  have HP := hid gm
  have zo := hid lr
  obtain ⟨Ut, Gc, rf, VA, qY⟩ := ob.out.entT (e := (tx, .pointer (some ⟨g, 0, none⟩), b)) (by simp) rfl
  have tj := ob.out.ent (tx, .pointer (some ⟨g, 0, none⟩), b) (by simp) g rfl
  have Pv : g ≠ FB := fun e' => by
   subst e'
   have h1 := HF.out
   have h2 := zo.out
   exact blk_ty h2 h1 (by decide) rfl
  clear oR gm lr
  obtain ⟨a, st, l, u⟩ := q
  obtain ⟨g0, g1, g2, g3⟩ := zo.out.all4
  go_enter Tryz.func78, Tryz.ntmps78
  go_upto_region 1 with fail
  rw [← fC]
  try rw [gH]
  have qp := hid gH
  clear fC gH
  let Y1 : World → Prop := fun wx : World => MapB wx Bt (pre ++ (tx, .pointer (some ⟨g, 0, none⟩), b) :: post) ct ∧ wx.cell? ⟨T, 1, none⟩ = some (.map (some Bt)) ∧ wx.cell? ⟨FB, 3, none⟩ = some (.int .i64 tx)
  refine wp_region_V Y1 99 9 rfl (by kernel_rfl) ?_
  have jB : Same w1 w1.drew := (Kept.refl _ _).drew
  generalize w1.drew = w2 at *
  have hS : Y1 w2 := ⟨ob.out.mt.same jB, jB.cellOf t1 id, jB.cellOf f3 id⟩
  refine tk 0 6 hS ?_
  refine tk 1 7 hS ?_
  refine tk 2 8 hS ?_
  refine tk 3 9 hS ?_
  refine tk 4 10 hS ?_
  refine tk 5 11 hS ?_
  refine tk 6 12 hS ?_
  refine tkV 7 13 (.pointer (some ⟨g, 0, none⟩)) hS ?_ (hy := fun wx cI => exec_lookup rfl rfl rfl (run_lookup_hit Tryz.underlying90 Tryz.underlying2 cI.1 HP.out false))
  refine tk 8 5 hS ?_
  refine wpAnyV_done (by kernel_rfl) ?_
  clear hS
  go_wp2_with fail
  by_cases oH : l = pv
  rotate_left
  ·have yl : (l != pv) = true := by simp [oH]
   have qk := hid oH
   clear oH
   let Y4 : World → Prop := fun wx : World => wx.cell? ⟨g, 2, none⟩ = some (.int .i64 l) ∧ wx.cell? ⟨FB, 4, none⟩ = some (.int .i64 pv)
   refine wp_region_V Y4 99 12 rfl (by kernel_rfl) ?_
   have qq : Same w2 w2.drew := (Kept.refl _ _).drew
   generalize w2.drew = w3 at *
   have hS : Y4 w3 := ⟨(jB.trans qq).cellOf g2 id, (jB.trans qq).cellOf f4 id⟩
   refine tk 0 14 hS ?_
   refine tkV 1 15 (.bool false) hS ?_
   refine tk 2 16 hS ?_
   refine tk 3 17 hS ?_
   refine tk 4 18 hS ?_
   refine tk 5 19 hS ?_
   refine tk 6 20 hS ?_
   refine tk 7 21 hS ?_
   refine tk 8 22 hS ?_
   refine tk 9 23 hS ?_
   refine tkV 10 24 (.bool true) hS ?_
   refine tkV 11 25 (.bool true) hS ?_
   refine wpAnyV_done (by kernel_rfl) ?_
   have xM := hid (jB.trans qq)
   clear jB qq hS
   have dZ := hid (bq.out.trans xM.out)
   go_wp2
   go_ret
   exact .inl ⟨fun q hq => (by rw [HG.out] at hq; cases hq; exact qk.out), rfl, dZ.out⟩
  have yl : (l != pv) = false := by simp [oH]
  have qk := hid oH
  clear oH
  let Y5 : World → Prop := fun wx : World => wx.cell? ⟨g, 2, none⟩ = some (.int .i64 l) ∧ wx.cell? ⟨FB, 4, none⟩ = some (.int .i64 pv)
  refine wp_region_V Y5 99 12 rfl (by kernel_rfl) ?_
  have qq : Same w2 w2.drew := (Kept.refl _ _).drew
  generalize w2.drew = w3 at *
  have hS : Y5 w3 := ⟨(jB.trans qq).cellOf g2 id, (jB.trans qq).cellOf f4 id⟩
  refine tk 0 14 hS ?_
  refine tkV 1 15 (.bool false) hS ?_
  refine tk 2 16 hS ?_
  refine tk 3 17 hS ?_
  refine tk 4 18 hS ?_
  refine tk 5 19 hS ?_
  refine tk 6 20 hS ?_
  refine tk 7 21 hS ?_
  refine tk 8 22 hS ?_
  refine tk 9 23 hS ?_
  refine tkV 10 24 (.bool false) hS ?_
  refine tkV 11 25 (.bool false) hS ?_
  refine wpAnyV_done (by kernel_rfl) ?_
  have xM := hid (jB.trans qq)
  clear jB qq hS
  have iY := hid (ob.out.same xM.out)
  have gv := hid (zo.out.same xM.out)
  have kl : Kept (fun b => b = g) w3 (w3.setCell ⟨g, 2, none⟩ (.int .i64 X)) := Kept.setCell (R := fun b => b = g) (Kept.refl _ _) (p := ⟨g, 2, none⟩) (.inr rfl) _
  have i5 := (show Hid (Blk (w3.setCell ⟨g, 2, none⟩ (.int .i64 X)) g 57 (entC (lastQ X (a, st, l, u)))) from gv.out.stored 2 _)
  have nl := hid (iY.out.put hu HP.out HG.out kl i5.out (f := lastQ X) (fun x => rfl))
  have fA := (show Hid (KT b0 w (w3.setCell ⟨g, 2, none⟩ (.int .i64 X))) from (KT.same (bq.out.trans xM.out)).trans (KT.of kl tj (tb_ent gv.out)))
  have Ub := kl.cellOf (xM.out.cellOf f3 id) (fun e => Pv e.symm)
  have f0 := xM.out.cellOf f0 id
  have g2 := xM.out.cellOf g2 id
  have fg := gv.out.frozen
  have qY := gv.out.lt
  clear kl f3
  go_upto_region 5 with fail
  generalize w3.setCell ⟨g, 2, none⟩ (.int .i64 X) = w4 at *
  clear f0 f2 f4 f5 lp g0 g1 g2 g3 fg t0 t1 t2 t3 qY
  obtain ⟨nx, qt⟩ : ∃ nx, s.nx = nx := ⟨_, rfl⟩
  have qV := hid qt
  have t0 := nl.out.box.c0
  dsimp only at t0
  rw [qt] at t0
  clear qt
  let Y3 : World → Prop := fun wx : World => wx.cell? ⟨T, 0, none⟩ = some (.int .i64 nx) ∧ wx.cell? ⟨FB, 3, none⟩ = some (.int .i64 tx)
  refine wp_region_V Y3 12 13 rfl (by kernel_rfl) ?_
  have jB : Same w4 w4.drew := (Kept.refl _ _).drew
  generalize w4.drew = w5 at *
  have hS : Y3 w5 := ⟨jB.cellOf t0 id, jB.cellOf Ub id⟩
  refine tk 0 31 hS ?_
  refine tk 1 32 hS ?_
  refine tk 2 33 hS ?_
  refine tk 3 34 hS ?_
  refine tk 4 35 hS ?_
  refine tk 5 36 hS ?_
  refine tk 6 37 hS ?_
  refine tk 7 38 hS ?_
  refine tkV 8 39 (.int .i64 (tx + 1)) hS ?_
  refine tkV 9 40 (.int .i64 (max nx (tx + 1))) hS ?_
  refine wpAnyV_one (i := 10) (by kernel_rfl) rfl (fun Kc hK => ?_)
  go_simp
  refine hK.out _ _ (fun _ => hS) ?_
  clear hK Kc
  try simp only [Act.put, sA, s0, sS]
  refine tk 11 42 hS ?_
  have j6 := hid (nl.out.same jB)
  have jQ := hid (i5.out.same jB)
  have t0 := j6.out.box.c0
  have ft := j6.out.box.frozen
  have VG := j6.out.box.lt
  refine wpAnyV_one (i := 12) (by kernel_rfl) rfl (fun Kc hK => ?_)
  go_simp
  refine hK.out _ _ (fun h => absurd rfl h) ?_
  clear hK Kc
  refine wpAnyV_done (by kernel_rfl) ?_
  try simp only [Act.put, sA, s0, sS]
  have oN := hid (j6.out.setNx (max nx (tx + 1)))
  have nF : Kept (fun b => b = T) w5 (w5.setCell ⟨T, 0, none⟩ (.int .i64 (max nx (tx + 1)))) := Kept.setCell (R := fun b => b = T) (Kept.refl _ _) (p := ⟨T, 0, none⟩) (.inr rfl) _
  have nf := hid (jQ.out.kept nF Ut)
  have Ik := j6.out.lT
  have jd := (show Hid (KT b0 w (w5.setCell ⟨T, 0, none⟩ (.int .i64 (max nx (tx + 1))))) from (fA.out.then jB).trans (KT.of nF Ik (tb_box j6.out.box)))
  clear nF jB hS
  generalize w5.setCell ⟨T, 0, none⟩ (.int .i64 (max nx (tx + 1))) = w6 at *
  go_wp2
  go_ret
  exact .inr ⟨(a, st, l, u), g, Bt, ct, Bd, cd, Bi, ci, pre, post, b, kd, ki, HG.out, qk.out, rfl, nf.out, HP.out, by rw [qV.out]; exact oN.out, jd.out⟩
def TakR (w w' : World) (b0 T : Nat) (r : Option AzS) (e : Ending) : Prop := KT b0 w w' ∧ ((r = none ∧ e = .returned (.bool false)) ∨ ∃ s', r = some s' ∧ e = .returned (.bool true) ∧ TabM w' b0 T s')
def folD (s : AzS) (f : F6) (g : Q4 → Q4) : Option AzS := match getK kQ f.2.2.1 s.tx with
 | some q => if q.2.2.1 = f.2.2.2.1 then some ⟨max s.nx (f.2.2.1 + 1), setK kQ f.2.2.1 g s.tx, s.dy, s.im⟩ else none
 | none => none
theorem folD_no {s : AzS} {f : F6} {g : Q4 → Q4} (h : ∀ q, getK kQ f.2.2.1 s.tx = some q → q.2.2.1 ≠ f.2.2.2.1) : folD s f g = none := by
 unfold folD
 cases e : getK kQ f.2.2.1 s.tx with
 | none => rfl
 | some q => dsimp only; rw [if_neg (h q e)]
theorem folD_yes {s : AzS} {f : F6} {g : Q4 → Q4} {q : Q4} (h : getK kQ f.2.2.1 s.tx = some q) (hp : q.2.2.1 = f.2.2.2.1) : folD s f g = some ⟨max s.nx (f.2.2.1 + 1), setK kQ f.2.2.1 g s.tx, s.dy, s.im⟩ := by
 unfold folD
 rw [h]
 dsimp only
 rw [if_pos hp]
def endD (s : AzS) (f : F6) : Option AzS := (folD s f (lastQ f.1)).map fun s' => { s' with tx := delK kQ f.2.2.1 s.tx }
theorem takeState_any (w : World) (b0 T : Nat) (s : AzS) (fc : List Value) (f : F6) (v : Int) (hf : FcI fc f) (h : TabM w b0 T s) (hu : Up kQ s.tx) (ht : 1 ≤ f.2.2.1 ∧ f.2.2.1 ≤ 2147483647) :
  Calls Tryz.prog 77 #[.pointer (some ⟨T, 0, none⟩), .agg fc.toArray, .int .i64 v] w fun e w' => TakR w w' b0 T (folD s f (fun x => (x.1, v, f.1, x.2.2.2))) e := by
 have je := hid hf
 obtain ⟨X, kn, tx, pv, pg, un⟩ := f
 have eg := newBox w fc 51
 obtain ⟨w1, fC⟩ : ∃ x, x = w.alloc (.cells fc.toArray 51) := ⟨_, rfl⟩
 rw [← fC] at eg
 have HF := hid eg.1
 have bq := hid eg.2
 have nz := eg.1.lt
 obtain ⟨FB, gH⟩ : ∃ x, w.heap.size = x := ⟨_, rfl⟩
 rw [gH] at HF nz
 have f0 : w1.cell? ⟨FB, 0, none⟩ = some (.int .i64 X) := by rw [HF.out.cell]; exact hf.c0
 have f2 : w1.cell? ⟨FB, 2, none⟩ = some (.int .i64 kn) := by rw [HF.out.cell]; exact hf.c2
 have f3 : w1.cell? ⟨FB, 3, none⟩ = some (.int .i64 tx) := by rw [HF.out.cell]; exact hf.c3
 have f4 : w1.cell? ⟨FB, 4, none⟩ = some (.int .i64 pv) := by rw [HF.out.cell]; exact hf.c4
 have f5 : w1.cell? ⟨FB, 5, none⟩ = some (.int .i64 pg) := by rw [HF.out.cell]; exact hf.c5
 have lp : w1.cell? ⟨FB, 11, none⟩ = some (.int .i64 un) := by rw [HF.out.cell]; exact hf.c11
 have HL : Hid (fc.length = 16) := hf.len
 clear eg
 have je : Hid (FcI fc (X, kn, tx, pv, pg, un)) := hf
 have gW : Hid (w1.rangeAt FB 0 fc) := HF.out.rangeAll
 have HI : Hid ((Tryz.prog.info? 51).map (·.size) = some fc.length) := by unfold Hid; rw [HL.out]; kernel_rfl
 have kC := hid h
 clear h f0 f2 f3 f4 f5 lp
 go_enter Tryz.func77, Tryz.ntmps77
 go_upto_region 1 with fail
 rw [← fC]
 try rw [gH]
 have qp := hid gH
 clear fC gH
 go_wp2_with (refine wpList_load_mid rfl 51 _ rfl FB 0 rfl fc _ gW.out Tryz.underlying51 rfl HI.out ?_)
 refine (follow_any w1 b0 T s fc (X, kn, tx, pv, pg, un) je.out (kC.out.same bq.out) hu ht).mono ?_
 rintro e w2 mQ
 rcases mQ with ⟨lY, rfl, hk⟩ | ⟨q, g, Bt, ct, Bd, cd, Bi, ci, pre, post, b, kd, ki, hq, hl, rfl, hb, gm, hT, hk⟩
 ·have HN := hid lY
  have cw := hid (bq.out.trans hk)
  clear lY hk
  go_wp2
  go_ret
  exact ⟨KT.same cw.out, .inl ⟨folD_no HN.out, rfl⟩⟩
 ·have HG := hid hq
  have pN := hid hl
  have cx := hid hb
  have iI := hid hT
  have cw := (show Hid (KT b0 w w2) from (KT.same bq.out).trans hk)
  have tj := hT.ent (tx, .pointer (some ⟨g, 0, none⟩), b) (by simp) g rfl
  have HP := hid gm
  clear hq hl hb hT hk gm
  obtain ⟨a, st, l, u⟩ := q
  have ix : Kept (fun b => b = g) w2 (w2.setCell ⟨g, 1, none⟩ (.int .i64 v)) := Kept.setCell (R := fun b => b = g) (Kept.refl _ _) (p := ⟨g, 1, none⟩) (.inr rfl) _
  have gv := (show Hid (Blk (w2.setCell ⟨g, 1, none⟩ (.int .i64 v)) g 57 (entC ((fun x : Q4 => (x.1, v, x.2.2.1, x.2.2.2)) (lastQ X (a, st, l, u))))) from cx.out.stored 1 _)
  have iY := hid (iI.out.put (hu.setK (g := lastQ X) (fun x => rfl)) HP.out (getK_setK (f := lastQ X) (fun x => rfl) HG.out) ix gv.out (f := fun x => (x.1, v, x.2.2.1, x.2.2.2)) (fun x => rfl))
  have dZ := hid (cw.out.trans (KT.of ix tj (tb_ent cx.out)))
  obtain ⟨g0, g1, g2, g3⟩ := cx.out.all4
  have fg := cx.out.frozen
  have qY := cx.out.lt
  clear ix
  go_wp2
  go_ret
  refine ⟨dZ.out, .inr ⟨_, folD_yes HG.out pN.out, rfl, ?_⟩⟩
  have h := iY.out.out
  rw [setK_setK (f := lastQ X) (fun x => rfl)] at h
  exact h
theorem takeEnd_any (w : World) (b0 T : Nat) (s : AzS) (fc : List Value) (f : F6) (hf : FcI fc f) (h : TabM w b0 T s) (hu : Up kQ s.tx) (ht : 1 ≤ f.2.2.1 ∧ f.2.2.1 ≤ 2147483647) :
  Calls Tryz.prog 56 #[.pointer (some ⟨T, 0, none⟩), .agg fc.toArray] w fun e w' => TakR w w' b0 T (endD s f) e := by
 have je := hid hf
 obtain ⟨X, kn, tx, pv, pg, un⟩ := f
 have eg := newBox w fc 51
 obtain ⟨w1, fC⟩ : ∃ x, x = w.alloc (.cells fc.toArray 51) := ⟨_, rfl⟩
 rw [← fC] at eg
 have HF := hid eg.1
 have bq := hid eg.2
 have nz := eg.1.lt
 obtain ⟨FB, gH⟩ : ∃ x, w.heap.size = x := ⟨_, rfl⟩
 rw [gH] at HF nz
 have f0 : w1.cell? ⟨FB, 0, none⟩ = some (.int .i64 X) := by rw [HF.out.cell]; exact hf.c0
 have f2 : w1.cell? ⟨FB, 2, none⟩ = some (.int .i64 kn) := by rw [HF.out.cell]; exact hf.c2
 have f3 : w1.cell? ⟨FB, 3, none⟩ = some (.int .i64 tx) := by rw [HF.out.cell]; exact hf.c3
 have f4 : w1.cell? ⟨FB, 4, none⟩ = some (.int .i64 pv) := by rw [HF.out.cell]; exact hf.c4
 have f5 : w1.cell? ⟨FB, 5, none⟩ = some (.int .i64 pg) := by rw [HF.out.cell]; exact hf.c5
 have lp : w1.cell? ⟨FB, 11, none⟩ = some (.int .i64 un) := by rw [HF.out.cell]; exact hf.c11
 have HL : Hid (fc.length = 16) := hf.len
 clear eg
 have je : Hid (FcI fc (X, kn, tx, pv, pg, un)) := hf
 have gW : Hid (w1.rangeAt FB 0 fc) := HF.out.rangeAll
 have HI : Hid ((Tryz.prog.info? 51).map (·.size) = some fc.length) := by unfold Hid; rw [HL.out]; kernel_rfl
 have kC := hid h
 clear h f0 f2 f4 f5 lp
 go_enter Tryz.func56, Tryz.ntmps56
 go_upto_region 1 with fail
 rw [← fC]
 try rw [gH]
 have qp := hid gH
 clear fC gH
 go_wp2_with (refine wpList_load_mid rfl 51 _ rfl FB 0 rfl fc _ gW.out Tryz.underlying51 rfl HI.out ?_)
 refine (follow_any w1 b0 T s fc (X, kn, tx, pv, pg, un) je.out (kC.out.same bq.out) hu ht).mono ?_
 rintro e w2 mQ
 rcases mQ with ⟨lY, rfl, hk⟩ | ⟨q, g, Bt, ct, Bd, cd, Bi, ci, pre, post, b, kd, ki, hq, hl, rfl, hb, gm, hT, hk⟩
 ·have HN := hid lY
  have cw := hid (bq.out.trans hk)
  clear lY hk
  go_wp2
  go_ret
  exact ⟨KT.same cw.out, .inl ⟨by unfold endD; rw [folD_no HN.out]; rfl, rfl⟩⟩
 ·have HG := hid hq
  have pN := hid hl
  have iI := hid hT
  have cw := (show Hid (KT b0 w w2) from (KT.same bq.out).trans hk)
  have HP := hid gm
  have tN := hid (hk.blk HF.out (by decide) (by decide))
  have f3 : w2.cell? ⟨FB, 3, none⟩ = some (.int .i64 tx) := by rw [tN.out.cell]; exact je.out.c3
  clear hq hl hT gm hk
  have t1 := iI.out.box.c1
  have TB := iI.out.Tt
  have Gs := iI.out.lt
  have gH : FB ≠ Bt := blk_map tN.out iI.out.mt
  go_wp2_with fail
  refine wp_region_V (fun wx : World => wx.cell? ⟨T, 1, none⟩ = some (.map (some Bt)) ∧ wx.cell? ⟨FB, 3, none⟩ = some (.int .i64 tx)) 99 8 rfl (by kernel_rfl) ?_
  have jB : Same w2 w2.drew := (Kept.refl _ _).drew
  generalize w2.drew = w3 at *
  have hS : (fun wx : World => wx.cell? ⟨T, 1, none⟩ = some (.map (some Bt)) ∧ wx.cell? ⟨FB, 3, none⟩ = some (.int .i64 tx)) w3 := ⟨jB.cellOf t1 id, jB.cellOf f3 id⟩
  refine tk 0 9 hS ?_
  refine tk 1 10 hS ?_
  refine tk 2 11 hS ?_
  refine tk 3 12 hS ?_
  refine tk 4 13 hS ?_
  refine tk 5 14 hS ?_
  refine tk 6 15 hS ?_
  have iY := hid (iI.out.same jB)
  have kl := Kept.setM (w := w3) (B := Bt) (pre ++ post) ct
  have nl := hid (iY.out.del (hu.setK (g := lastQ X) (fun x => rfl)) HP.out)
  have fA := (show Hid (KT b0 w (setM w3 Bt (pre ++ post) ct)) from (cw.out.then jB).trans (KT.of kl Gs (tb_map iY.out.mt)))
  refine wpAnyV_one (i := 7) (by kernel_rfl) rfl (fun Kc hK => ?_)
  refine step_exec (by rfl) (exec_delete rfl rfl rfl (run_delete_hit Tryz.underlying90 Tryz.underlying2 iY.out.mt HP.out)) ?_
  refine hK.out _ _ (fun _ => ⟨kl.cellOf hS.1 TB, kl.cellOf hS.2 gH⟩) ?_
  clear hK Kc
  try simp only [List.getElem_toArray, List.getElem_cons_succ, List.getElem_cons_zero]
  refine wpAnyV_done (by kernel_rfl) ?_
  try simp only [Act.put, sA, s0, sS]
  clear kl jB hS
  generalize setM w3 Bt (pre ++ post) ct = w4 at *
  go_wp2
  go_ret
  refine ⟨fA.out, .inr ⟨_, by unfold endD; rw [folD_yes HG.out pN.out]; rfl, rfl, ?_⟩⟩
  have h := nl.out.out
  rw [delK_setK (f := lastQ X) (fun x => rfl)] at h
  exact h
def txB (s : AzS) (t : Int) : List Q4 := if (getK kQ t s.tx).isSome then s.tx else insK kQ (t, 1, 0, 0) s.tx
def chgD (s : AzS) (f : F6) (u : Int) : Option AzS := folD ⟨s.nx, txB s f.2.2.1, addD (f.2.2.2.2.1, f.1) s.dy, s.im⟩ f (fun x => (x.1, x.2.1, f.1, u))
theorem takeChange_any (w : World) (b0 T : Nat) (s : AzS) (fc : List Value) (f : F6) (uu : Int) (hf : FcI fc f) (h : TabM w b0 T s) (hu : Up kQ s.tx) (ht : 1 ≤ f.2.2.1 ∧ f.2.2.1 ≤ 2147483647) :
  Calls Tryz.prog 76 #[.pointer (some ⟨T, 0, none⟩), .agg fc.toArray, .int .i64 uu] w fun e w' => TakR w w' b0 T (chgD s f uu) e := by
 have je := hid hf
 obtain ⟨X, kn, tx, pv, pg, un⟩ := f
 have eg := newBox w fc 51
 obtain ⟨w1, fC⟩ : ∃ x, x = w.alloc (.cells fc.toArray 51) := ⟨_, rfl⟩
 rw [← fC] at eg
 have HF := hid eg.1
 have bq := hid eg.2
 have nz := eg.1.lt
 obtain ⟨FB, gH⟩ : ∃ x, w.heap.size = x := ⟨_, rfl⟩
 rw [gH] at HF nz
 have f0 : w1.cell? ⟨FB, 0, none⟩ = some (.int .i64 X) := by rw [HF.out.cell]; exact hf.c0
 have f2 : w1.cell? ⟨FB, 2, none⟩ = some (.int .i64 kn) := by rw [HF.out.cell]; exact hf.c2
 have f3 : w1.cell? ⟨FB, 3, none⟩ = some (.int .i64 tx) := by rw [HF.out.cell]; exact hf.c3
 have f4 : w1.cell? ⟨FB, 4, none⟩ = some (.int .i64 pv) := by rw [HF.out.cell]; exact hf.c4
 have f5 : w1.cell? ⟨FB, 5, none⟩ = some (.int .i64 pg) := by rw [HF.out.cell]; exact hf.c5
 have lp : w1.cell? ⟨FB, 11, none⟩ = some (.int .i64 un) := by rw [HF.out.cell]; exact hf.c11
 have HL : Hid (fc.length = 16) := hf.len
 clear eg
 have je : Hid (FcI fc (X, kn, tx, pv, pg, un)) := hf
 have gW : Hid (w1.rangeAt FB 0 fc) := HF.out.rangeAll
 have HI : Hid ((Tryz.prog.info? 51).map (·.size) = some fc.length) := by unfold Hid; rw [HL.out]; kernel_rfl
 have kC := hid h
 obtain ⟨rc, sE⟩ : ∃ x, fc.drop 2 = x := ⟨_, rfl⟩
 have jw : Hid (rc.length = 14) := by unfold Hid; rw [← sE, List.length_drop, HL.out]
 have iW : Hid (rc.toArray.all (·.oneCell') = true) := by
  unfold Hid
  rw [← sE]
  have h1 := hf.one
  simp only [List.all_toArray, List.all_eq_true] at h1 ⊢
  exact fun x hx => h1 x (List.mem_of_mem_drop hx)
 have nH : Hid ((Tryz.prog.info? 49).map (·.size) = some rc.length) := by unfold Hid; rw [jw.out]; kernel_rfl
 have pj : Hid (w1.rangeAt FB 2 rc) := HF.out.range 2 rc (fun i v h => by rw [← sE, List.getElem?_drop] at h; exact h)
 have l7 : Hid (rc[1]? = some (.int .i64 tx) ∧ rc[3]? = some (.int .i64 pg)) := by unfold Hid; rw [← sE, List.getElem?_drop, List.getElem?_drop]; exact ⟨hf.c3, hf.c5⟩
 obtain ⟨Bt, ct, Bd, cd, Bi, ci, kt, kd, ki, lQ⟩ := h
 have lZ := hid (lQ.same bq.out)
 clear lQ kC sE f2 f3 f4 f5 lp
 go_enter Tryz.func76, Tryz.ntmps76
 go_upto_region 1 with fail
 rw [← fC]
 try rw [gH]
 have qp := hid gH
 clear fC gH
 go_upto_region 2 with (first | (refine wpList_load_mid rfl 49 _ rfl FB 2 rfl rc _ pj.out Tryz.underlying49 rfl nH.out ?_) | (refine wpList_store_mid rfl 49 _ _ rfl w1.heap.size 0 rc.toArray rfl rfl ((Blk.new w1 _ _).there 0 _ (by rw [List.size_toArray, jw.out]; decide)) (by rw [List.size_toArray, jw.out]; kernel_rfl) iW.out ?_; rw [List.toList_toArray]))
 generalize hW : World.setCells _ w1.heap.size 0 rc = w2
 have eg : Blk w2 w1.heap.size 49 rc ∧ Same w1 w2 := by rw [← hW]; exact box_newX w1 _ rc _ (by rw [jw.out]; rfl)
 obtain ⟨hb, hk⟩ := eg
 clear hW
 have iI := hid (lZ.out.same hk)
 have j2 := hid (HF.out.same hk)
 obtain ⟨RB, qe⟩ : ∃ RB, w1.heap.size = RB := ⟨_, rfl⟩
 rw [qe] at hb ⊢
 have i7 := hid hb
 have cw := (show Hid (KT b0 w w2) from KT.same (bq.out.trans hk))
 clear hb hk lZ HF bq gW pj nH iW jw qe f0
 rcases oR : getK kQ tx s.tx with _ | q
 ·have HN := hid oR
  have HM := hid (iI.out.et.miss oR)
  have Dm := (show Hid ((if (getK kQ tx s.tx).isSome = true then s.tx else insK kQ (tx, 1, 0, 0) s.tx) = insK kQ (tx, 1, 0, 0) s.tx) from by unfold Hid; rw [oR]; rfl)
  clear oR
  by_cases hdk : (getK kD pg s.dy).isSome = true
  ·obtain ⟨pred, vd, bd, nj, nW, DI⟩ := iI.out.ed.hit hdk
   subst nW
   have Ie := hid DI
   have uf := (show Hid ((if (getK kD pg s.dy).isSome = true then s.dy else insK kD (pg, X) s.dy) = s.dy) from by unfold Hid; rw [if_pos hdk])
   clear DI hdk
   obtain ⟨t0, t1, t2, t3⟩ := iI.out.box.all4
   have r1 : w2.cell? ⟨RB, 1, none⟩ = some (.int .i64 tx) := by rw [i7.out.cell]; exact l7.out.1
   have r3 : w2.cell? ⟨RB, 3, none⟩ = some (.int .i64 pg) := by rw [i7.out.cell]; exact l7.out.2
   have f0 : w2.cell? ⟨FB, 0, none⟩ = some (.int .i64 X) := by rw [j2.out.cell]; exact je.out.c0
   refine wp_region_V (fun wx : World => MapB wx Bt kt ct ∧ wx.cell? ⟨T, 1, none⟩ = some (.map (some Bt)) ∧ wx.cell? ⟨RB, 1, none⟩ = some (.int .i64 tx)) 99 8 rfl (by kernel_rfl) ?_
   have hd : Same w2 w2.drew := (Kept.refl _ _).drew
   generalize w2.drew = w3 at *
   have hS : (fun wx : World => MapB wx Bt kt ct ∧ wx.cell? ⟨T, 1, none⟩ = some (.map (some Bt)) ∧ wx.cell? ⟨RB, 1, none⟩ = some (.int .i64 tx)) w3 := ⟨iI.out.mt.same hd, hd.cellOf t1 id, hd.cellOf r1 id⟩
   refine tk 0 13 hS ?_
   refine tk 1 14 hS ?_
   refine tk 2 15 hS ?_
   refine tk 3 16 hS ?_
   refine tk 4 17 hS ?_
   refine tk 5 18 hS ?_
   refine tkV 6 19 (.pointer none) hS ?_ (hy := fun wx cI => exec_lookup rfl rfl rfl (run_lookup_miss Tryz.underlying90 Tryz.underlying2 cI.1 HM.out (Tryz.zeroValue95 _) false))
   refine tkV 7 20 (.bool true) hS ?_
   refine wpAnyV_done (by kernel_rfl) ?_
   clear t0 t1 t2 t3 r1 r3 f0 hS
   have iY := hid (iI.out.same hd)
   have kB := hid (j2.out.same hd)
   have mG := hid (i7.out.same hd)
   have dZ := (show Hid (KT b0 w w3) from cw.out.then hd)
   clear iI j2 i7 cw hd
   obtain ⟨t0, t1, t2, t3⟩ := iY.out.box.all4
   have r1 : w3.cell? ⟨RB, 1, none⟩ = some (.int .i64 tx) := by rw [mG.out.cell]; exact l7.out.1
   have r3 : w3.cell? ⟨RB, 3, none⟩ = some (.int .i64 pg) := by rw [mG.out.cell]; exact l7.out.2
   have f0 : w3.cell? ⟨FB, 0, none⟩ = some (.int .i64 X) := by rw [kB.out.cell]; exact je.out.c0
   go_wp2_with fail
   refine wp_region_V (fun wx : World => wx.cell? ⟨T, 1, none⟩ = some (.map (some Bt)) ∧ wx.cell? ⟨RB, 1, none⟩ = some (.int .i64 tx)) 10 11 rfl (by kernel_rfl) ?_
   have hd : Same w3 w3.drew := (Kept.refl _ _).drew
   generalize w3.drew = w4 at *
   have hS : (fun wx : World => wx.cell? ⟨T, 1, none⟩ = some (.map (some Bt)) ∧ wx.cell? ⟨RB, 1, none⟩ = some (.int .i64 tx)) w4 := ⟨hd.cellOf t1 id, hd.cellOf r1 id⟩
   refine tk 0 21 hS ?_
   refine tk 1 22 hS ?_
   refine tk 2 23 hS ?_
   refine tk 3 24 hS ?_
   refine tk 4 25 hS ?_
   refine tk 5 26 hS ?_
   refine tk 6 27 hS ?_
   refine tk 7 28 hS ?_
   refine tkV 8 29 (.agg #[.int .i64 tx, .int .i64 1, .int .i64 0, .int .i64 0]) hS ?_
   refine wpAnyV_one (i := 9) (by kernel_rfl) rfl (fun Kc hK => ?_)
   go_simp
   have uH : Same w4 (w4.alloc (.cells #[.int .i64 tx, .int .i64 1, .int .i64 0, .int .i64 0] 57)) := (Kept.refl _ _).alloc _
   have hS : (fun wx : World => wx.cell? ⟨T, 1, none⟩ = some (.map (some Bt)) ∧ wx.cell? ⟨RB, 1, none⟩ = some (.int .i64 tx)) (w4.alloc (.cells #[.int .i64 tx, .int .i64 1, .int .i64 0, .int .i64 0] 57)) := ⟨uH.cellOf hS.1 id, uH.cellOf hS.2 id⟩
   refine hK.out _ _ (fun _ => hS) ?_
   clear hK Kc t0 t1 t2 t3 r1 r3 f0
   try simp only [Act.put, sA, s0, sS]
   have yr := (show Hid (Blk (w4.alloc (.cells #[.int .i64 tx, .int .i64 1, .int .i64 0, .int .i64 0] 57)) w4.heap.size 57 (entC (tx, 1, 0, 0))) from Blk.newL w4 _ _)
   have ug : b0 ≤ w4.heap.size := by have h1 := iY.out.box.lt; have h2 := iY.out.lT; have h3 := hd.size; omega
   have tU := (show Hid (∀ e ∈ kt, e.2.1 ≠ .pointer (some ⟨w4.heap.size, 0, none⟩)) from fun e he hh => by have h1 := (iY.out.entT he hh).2.2.2.2; have h2 := hd.size; omega)
   have CN : Same w3 (w4.alloc (.cells #[.int .i64 tx, .int .i64 1, .int .i64 0, .int .i64 0] 57)) := hd.trans uH
   generalize w4.alloc (.cells #[.int .i64 tx, .int .i64 1, .int .i64 0, .int .i64 0] 57) = w5 at *
   obtain ⟨g, hg⟩ : ∃ g, w4.heap.size = g := ⟨_, rfl⟩
   rw [hg] at yr ug tU ⊢
   clear hg uH hd
   have hd := CN
   clear CN
   have j6 := hid (iY.out.same hd)
   have ot := hid (kB.out.same hd)
   have ma := hid (mG.out.same hd)
   have fM := (show Hid (KT b0 w w5) from dZ.out.then hd)
   clear iY kB mG dZ hd
   have j4 := Kept.setM (w := w5) (B := Bt) (kt ++ [(tx, .pointer (some ⟨g, 0, none⟩), ct)]) (ct + 1)
   have oN := (show Hid (TabI (setM w5 Bt (kt ++ [(tx, .pointer (some ⟨g, 0, none⟩), ct)]) (ct + 1)) b0 T { s with tx := insK kQ (tx, 1, 0, 0) s.tx } Bt (ct + 1) Bd cd Bi ci (kt ++ [(tx, .pointer (some ⟨g, 0, none⟩), ct)]) (pred ++ (pg, vd, bd) :: nj) ki) from j6.out.new (u := (tx, 1, 0, 0)) HN.out yr.out tU.out ug)
   have tX := hid (ot.out.kept j4 (blk_map ot.out j6.out.mt))
   have sU := hid (ma.out.kept j4 (blk_map ma.out j6.out.mt))
   have jd := hid (fM.out.trans (KT.of j4 j6.out.lt (tb_map j6.out.mt)))
   refine wpAnyV_one (i := 10) (by kernel_rfl) rfl (fun Kc hK => ?_)
   refine step_skip (by rfl) (exec_update (vm := .map (some Bt)) (vk := .int .i64 tx) (u := .pointer (some ⟨g, 0, none⟩)) rfl rfl rfl rfl (run_update_new Tryz.underlying90 Tryz.underlying2 j6.out.mt HM.out)) ?_
   refine hK.out _ _ (fun h => absurd rfl h) ?_
   clear hK Kc hS j4
   try simp only [List.getElem_toArray, List.getElem_cons_succ, List.getElem_cons_zero]
   refine wpAnyV_done (by kernel_rfl) ?_
   try simp only [Act.put, sA, s0, sS]
   generalize setM w5 Bt (kt ++ [(tx, .pointer (some ⟨g, 0, none⟩), ct)]) (ct + 1) = w6 at *
   clear j6 ot ma fM yr tU
   obtain ⟨t0, t1, t2, t3⟩ := oN.out.box.all4
   have r1 : w6.cell? ⟨RB, 1, none⟩ = some (.int .i64 tx) := by rw [sU.out.cell]; exact l7.out.1
   have r3 : w6.cell? ⟨RB, 3, none⟩ = some (.int .i64 pg) := by rw [sU.out.cell]; exact l7.out.2
   have f0 : w6.cell? ⟨FB, 0, none⟩ = some (.int .i64 X) := by rw [tX.out.cell]; exact je.out.c0
   go_wp2_with fail
   refine wp_region_V (fun wx : World => MapB wx Bd (pred ++ (pg, vd, bd) :: nj) cd ∧ wx.cell? ⟨T, 2, none⟩ = some (.map (some Bd)) ∧ wx.cell? ⟨RB, 3, none⟩ = some (.int .i64 pg)) 99 12 rfl (by kernel_rfl) ?_
   have hd : Same w6 w6.drew := (Kept.refl _ _).drew
   generalize w6.drew = w7 at *
   have hS : (fun wx : World => MapB wx Bd (pred ++ (pg, vd, bd) :: nj) cd ∧ wx.cell? ⟨T, 2, none⟩ = some (.map (some Bd)) ∧ wx.cell? ⟨RB, 3, none⟩ = some (.int .i64 pg)) w7 := ⟨oN.out.md.same hd, hd.cellOf t2 id, hd.cellOf r3 id⟩
   refine tk 0 32 hS ?_
   refine tk 1 33 hS ?_
   refine tk 2 34 hS ?_
   refine tk 3 35 hS ?_
   refine tk 4 36 hS ?_
   refine tk 5 37 hS ?_
   refine tkV 6 38 (.tuple #[vd, .bool true]) hS ?_ (hy := fun wx cI => exec_lookup rfl rfl rfl (run_lookup_hit Tryz.underlying91 Tryz.underlying2 cI.1 Ie.out true))
   refine tk 7 31 hS ?_
   refine tk 8 39 hS ?_
   refine tk 9 40 hS ?_
   refine tk 10 8 hS ?_
   refine tk 11 9 hS ?_
   refine wpAnyV_done (by kernel_rfl) ?_
   clear t0 t1 t2 t3 r1 r3 f0 hS
   have vt := hid (oN.out.same hd)
   have wW := hid (tX.out.same hd)
   have uq := hid (sU.out.same hd)
   have fy := (show Hid (KT b0 w w7) from jd.out.then hd)
   clear oN tX sU jd hd
   have HE := (show Hid (chgD s (X, kn, tx, pv, pg, un) uu = folD ⟨s.nx, insK kQ (tx, 1, 0, 0) s.tx, s.dy, s.im⟩ (X, kn, tx, pv, pg, un) (fun x => (x.1, x.2.1, X, uu))) from by
    unfold Hid chgD txB addD
    dsimp only
    rw [Dm.out, uf.out])
   have sQ := (show Hid (Up kQ (insK kQ (tx, 1, 0, 0) s.tx)) from hu.insK fun x hx => getK_none.1 HN.out x hx)
   have kC := (show Hid (TabM w7 b0 T ⟨s.nx, insK kQ (tx, 1, 0, 0) s.tx, s.dy, s.im⟩) from vt.out.out)
   have gW : Hid (w7.rangeAt FB 0 fc) := wW.out.rangeAll
   clear vt uq wW
   obtain ⟨wv, zq⟩ : ∃ x, x = w7 := ⟨_, rfl⟩
   subst zq
   have tE := fy
   clear fy
   obtain ⟨sv, pP⟩ : ∃ x : AzS, x = ⟨s.nx, insK kQ (tx, 1, 0, 0) s.tx, s.dy, s.im⟩ := ⟨_, rfl⟩
   rw [← pP] at HE kC
   have sI : Hid (Up kQ sv.tx) := by unfold Hid; rw [pP]; exact sQ.out
   clear pP sQ
   go_wp2_with (refine wpList_load_mid rfl 51 _ rfl FB 0 rfl fc _ gW.out Tryz.underlying51 rfl HI.out ?_)
   refine (follow_any wv b0 T sv fc (X, kn, tx, pv, pg, un) je.out kC.out sI.out ht).mono ?_
   rintro e mV mQ
   clear kC gW
   rcases mQ with ⟨lY, rfl, hk⟩ | ⟨q, g', J1, Hg, GH, Gt, KC, H4, Ah, rr, b', IU, IW, hq, hl, rfl, hb, gm, hT, hk⟩
   ·have zv := hid lY
    have kL := (show Hid (KT b0 w mV) from tE.out.then hk)
    clear lY hk
    go_wp2
    go_ret
    exact ⟨kL.out, .inl ⟨by rw [HE.out]; exact folD_no zv.out, rfl⟩⟩
   ·have tp := hid hq
    have pN := hid hl
    have cx := hid hb
    have iI := hid hT
    have kL := hid (tE.out.trans hk)
    have tj := hT.ent (tx, .pointer (some ⟨g', 0, none⟩), b') (by simp) g' rfl
    have oY := hid gm
    clear hq hl hb hT hk gm
    obtain ⟨a, st, l, u⟩ := q
    have ix : Kept (fun b => b = g') mV (mV.setCell ⟨g', 3, none⟩ (.int .i64 uu)) := Kept.setCell (R := fun b => b = g') (Kept.refl _ _) (p := ⟨g', 3, none⟩) (.inr rfl) _
    have gv := (show Hid (Blk (mV.setCell ⟨g', 3, none⟩ (.int .i64 uu)) g' 57 (entC ((fun x : Q4 => (x.1, x.2.1, x.2.2.1, uu)) (lastQ X (a, st, l, u))))) from cx.out.stored 3 _)
    have iY := hid (iI.out.put (sI.out.setK (g := lastQ X) (fun x => rfl)) oY.out (getK_setK (f := lastQ X) (fun x => rfl) tp.out) ix gv.out (f := fun x => (x.1, x.2.1, x.2.2.1, uu)) (fun x => rfl))
    have dZ := hid (kL.out.trans (KT.of ix tj (tb_ent cx.out)))
    obtain ⟨g0, g1, g2, g3⟩ := cx.out.all4
    have fg := cx.out.frozen
    have qY := cx.out.lt
    clear ix
    go_wp2
    go_ret
    refine ⟨dZ.out, .inr ⟨_, by rw [HE.out]; exact folD_yes tp.out pN.out, rfl, ?_⟩⟩
    have h := iY.out.out
    rw [setK_setK (f := lastQ X) (fun x => rfl)] at h
    exact h
  ·have vY : getK kD pg s.dy = none := by simpa using hdk
   have tP := hid vY
   have zQ := hid (iI.out.ed.miss vY)
   have uf := (show Hid ((if (getK kD pg s.dy).isSome = true then s.dy else insK kD (pg, X) s.dy) = insK kD (pg, X) s.dy) from by unfold Hid; rw [if_neg hdk])
   clear vY hdk
   obtain ⟨t0, t1, t2, t3⟩ := iI.out.box.all4
   have r1 : w2.cell? ⟨RB, 1, none⟩ = some (.int .i64 tx) := by rw [i7.out.cell]; exact l7.out.1
   have r3 : w2.cell? ⟨RB, 3, none⟩ = some (.int .i64 pg) := by rw [i7.out.cell]; exact l7.out.2
   have f0 : w2.cell? ⟨FB, 0, none⟩ = some (.int .i64 X) := by rw [j2.out.cell]; exact je.out.c0
   refine wp_region_V (fun wx : World => MapB wx Bt kt ct ∧ wx.cell? ⟨T, 1, none⟩ = some (.map (some Bt)) ∧ wx.cell? ⟨RB, 1, none⟩ = some (.int .i64 tx)) 99 8 rfl (by kernel_rfl) ?_
   have hd : Same w2 w2.drew := (Kept.refl _ _).drew
   generalize w2.drew = w3 at *
   have hS : (fun wx : World => MapB wx Bt kt ct ∧ wx.cell? ⟨T, 1, none⟩ = some (.map (some Bt)) ∧ wx.cell? ⟨RB, 1, none⟩ = some (.int .i64 tx)) w3 := ⟨iI.out.mt.same hd, hd.cellOf t1 id, hd.cellOf r1 id⟩
   refine tk 0 13 hS ?_
   refine tk 1 14 hS ?_
   refine tk 2 15 hS ?_
   refine tk 3 16 hS ?_
   refine tk 4 17 hS ?_
   refine tk 5 18 hS ?_
   refine tkV 6 19 (.pointer none) hS ?_ (hy := fun wx cI => exec_lookup rfl rfl rfl (run_lookup_miss Tryz.underlying90 Tryz.underlying2 cI.1 HM.out (Tryz.zeroValue95 _) false))
   refine tkV 7 20 (.bool true) hS ?_
   refine wpAnyV_done (by kernel_rfl) ?_
   clear t0 t1 t2 t3 r1 r3 f0 hS
   have iY := hid (iI.out.same hd)
   have kB := hid (j2.out.same hd)
   have mG := hid (i7.out.same hd)
   have dZ := (show Hid (KT b0 w w3) from cw.out.then hd)
   clear iI j2 i7 cw hd
   obtain ⟨t0, t1, t2, t3⟩ := iY.out.box.all4
   have r1 : w3.cell? ⟨RB, 1, none⟩ = some (.int .i64 tx) := by rw [mG.out.cell]; exact l7.out.1
   have r3 : w3.cell? ⟨RB, 3, none⟩ = some (.int .i64 pg) := by rw [mG.out.cell]; exact l7.out.2
   have f0 : w3.cell? ⟨FB, 0, none⟩ = some (.int .i64 X) := by rw [kB.out.cell]; exact je.out.c0
   go_wp2_with fail
   refine wp_region_V (fun wx : World => wx.cell? ⟨T, 1, none⟩ = some (.map (some Bt)) ∧ wx.cell? ⟨RB, 1, none⟩ = some (.int .i64 tx)) 10 11 rfl (by kernel_rfl) ?_
   have hd : Same w3 w3.drew := (Kept.refl _ _).drew
   generalize w3.drew = w4 at *
   have hS : (fun wx : World => wx.cell? ⟨T, 1, none⟩ = some (.map (some Bt)) ∧ wx.cell? ⟨RB, 1, none⟩ = some (.int .i64 tx)) w4 := ⟨hd.cellOf t1 id, hd.cellOf r1 id⟩
   refine tk 0 21 hS ?_
   refine tk 1 22 hS ?_
   refine tk 2 23 hS ?_
   refine tk 3 24 hS ?_
   refine tk 4 25 hS ?_
   refine tk 5 26 hS ?_
   refine tk 6 27 hS ?_
   refine tk 7 28 hS ?_
   refine tkV 8 29 (.agg #[.int .i64 tx, .int .i64 1, .int .i64 0, .int .i64 0]) hS ?_
   refine wpAnyV_one (i := 9) (by kernel_rfl) rfl (fun Kc hK => ?_)
   go_simp
   have uH : Same w4 (w4.alloc (.cells #[.int .i64 tx, .int .i64 1, .int .i64 0, .int .i64 0] 57)) := (Kept.refl _ _).alloc _
   have hS : (fun wx : World => wx.cell? ⟨T, 1, none⟩ = some (.map (some Bt)) ∧ wx.cell? ⟨RB, 1, none⟩ = some (.int .i64 tx)) (w4.alloc (.cells #[.int .i64 tx, .int .i64 1, .int .i64 0, .int .i64 0] 57)) := ⟨uH.cellOf hS.1 id, uH.cellOf hS.2 id⟩
   refine hK.out _ _ (fun _ => hS) ?_
   clear hK Kc t0 t1 t2 t3 r1 r3 f0
   try simp only [Act.put, sA, s0, sS]
   have yr := (show Hid (Blk (w4.alloc (.cells #[.int .i64 tx, .int .i64 1, .int .i64 0, .int .i64 0] 57)) w4.heap.size 57 (entC (tx, 1, 0, 0))) from Blk.newL w4 _ _)
   have ug : b0 ≤ w4.heap.size := by have h1 := iY.out.box.lt; have h2 := iY.out.lT; have h3 := hd.size; omega
   have tU := (show Hid (∀ e ∈ kt, e.2.1 ≠ .pointer (some ⟨w4.heap.size, 0, none⟩)) from fun e he hh => by have h1 := (iY.out.entT he hh).2.2.2.2; have h2 := hd.size; omega)
   have CN : Same w3 (w4.alloc (.cells #[.int .i64 tx, .int .i64 1, .int .i64 0, .int .i64 0] 57)) := hd.trans uH
   generalize w4.alloc (.cells #[.int .i64 tx, .int .i64 1, .int .i64 0, .int .i64 0] 57) = w5 at *
   obtain ⟨g, hg⟩ : ∃ g, w4.heap.size = g := ⟨_, rfl⟩
   rw [hg] at yr ug tU ⊢
   clear hg uH hd
   have hd := CN
   clear CN
   have j6 := hid (iY.out.same hd)
   have ot := hid (kB.out.same hd)
   have ma := hid (mG.out.same hd)
   have fM := (show Hid (KT b0 w w5) from dZ.out.then hd)
   clear iY kB mG dZ hd
   have j4 := Kept.setM (w := w5) (B := Bt) (kt ++ [(tx, .pointer (some ⟨g, 0, none⟩), ct)]) (ct + 1)
   have oN := (show Hid (TabI (setM w5 Bt (kt ++ [(tx, .pointer (some ⟨g, 0, none⟩), ct)]) (ct + 1)) b0 T { s with tx := insK kQ (tx, 1, 0, 0) s.tx } Bt (ct + 1) Bd cd Bi ci (kt ++ [(tx, .pointer (some ⟨g, 0, none⟩), ct)]) kd ki) from j6.out.new (u := (tx, 1, 0, 0)) HN.out yr.out tU.out ug)
   have tX := hid (ot.out.kept j4 (blk_map ot.out j6.out.mt))
   have sU := hid (ma.out.kept j4 (blk_map ma.out j6.out.mt))
   have jd := hid (fM.out.trans (KT.of j4 j6.out.lt (tb_map j6.out.mt)))
   refine wpAnyV_one (i := 10) (by kernel_rfl) rfl (fun Kc hK => ?_)
   refine step_skip (by rfl) (exec_update (vm := .map (some Bt)) (vk := .int .i64 tx) (u := .pointer (some ⟨g, 0, none⟩)) rfl rfl rfl rfl (run_update_new Tryz.underlying90 Tryz.underlying2 j6.out.mt HM.out)) ?_
   refine hK.out _ _ (fun h => absurd rfl h) ?_
   clear hK Kc hS j4
   try simp only [List.getElem_toArray, List.getElem_cons_succ, List.getElem_cons_zero]
   refine wpAnyV_done (by kernel_rfl) ?_
   try simp only [Act.put, sA, s0, sS]
   generalize setM w5 Bt (kt ++ [(tx, .pointer (some ⟨g, 0, none⟩), ct)]) (ct + 1) = w6 at *
   clear j6 ot ma fM yr tU
   obtain ⟨t0, t1, t2, t3⟩ := oN.out.box.all4
   have r1 : w6.cell? ⟨RB, 1, none⟩ = some (.int .i64 tx) := by rw [sU.out.cell]; exact l7.out.1
   have r3 : w6.cell? ⟨RB, 3, none⟩ = some (.int .i64 pg) := by rw [sU.out.cell]; exact l7.out.2
   have f0 : w6.cell? ⟨FB, 0, none⟩ = some (.int .i64 X) := by rw [tX.out.cell]; exact je.out.c0
   go_wp2_with fail
   refine wp_region_V (fun wx : World => MapB wx Bd kd cd ∧ wx.cell? ⟨T, 2, none⟩ = some (.map (some Bd)) ∧ wx.cell? ⟨RB, 3, none⟩ = some (.int .i64 pg)) 99 12 rfl (by kernel_rfl) ?_
   have hd : Same w6 w6.drew := (Kept.refl _ _).drew
   generalize w6.drew = w7 at *
   have hS : (fun wx : World => MapB wx Bd kd cd ∧ wx.cell? ⟨T, 2, none⟩ = some (.map (some Bd)) ∧ wx.cell? ⟨RB, 3, none⟩ = some (.int .i64 pg)) w7 := ⟨oN.out.md.same hd, hd.cellOf t2 id, hd.cellOf r3 id⟩
   refine tk 0 32 hS ?_
   refine tk 1 33 hS ?_
   refine tk 2 34 hS ?_
   refine tk 3 35 hS ?_
   refine tk 4 36 hS ?_
   refine tk 5 37 hS ?_
   refine tkV 6 38 (.tuple #[.int .i64 0, .bool false]) hS ?_ (hy := fun wx cI => exec_lookup rfl rfl rfl (run_lookup_miss Tryz.underlying91 Tryz.underlying2 cI.1 zQ.out (Tryz.zeroValue2 _) true))
   refine tk 7 31 hS ?_
   refine tk 8 39 hS ?_
   refine tk 9 40 hS ?_
   refine tk 10 8 hS ?_
   refine tk 11 9 hS ?_
   refine wpAnyV_done (by kernel_rfl) ?_
   clear t0 t1 t2 t3 r1 r3 f0 hS
   have vt := hid (oN.out.same hd)
   have wW := hid (tX.out.same hd)
   have uq := hid (sU.out.same hd)
   have fy := (show Hid (KT b0 w w7) from jd.out.then hd)
   clear oN tX sU jd hd
   obtain ⟨t0, t1, t2, t3⟩ := vt.out.box.all4
   have r1 : w7.cell? ⟨RB, 1, none⟩ = some (.int .i64 tx) := by rw [uq.out.cell]; exact l7.out.1
   have r3 : w7.cell? ⟨RB, 3, none⟩ = some (.int .i64 pg) := by rw [uq.out.cell]; exact l7.out.2
   have f0 : w7.cell? ⟨FB, 0, none⟩ = some (.int .i64 X) := by rw [wW.out.cell]; exact je.out.c0
   go_wp2_with fail
   refine wp_region_V (fun wx : World => wx.cell? ⟨T, 2, none⟩ = some (.map (some Bd)) ∧ wx.cell? ⟨RB, 3, none⟩ = some (.int .i64 pg) ∧ wx.cell? ⟨FB, 0, none⟩ = some (.int .i64 X)) 8 9 rfl (by kernel_rfl) ?_
   have hd : Same w7 w7.drew := (Kept.refl _ _).drew
   generalize w7.drew = w8 at *
   have hS : (fun wx : World => wx.cell? ⟨T, 2, none⟩ = some (.map (some Bd)) ∧ wx.cell? ⟨RB, 3, none⟩ = some (.int .i64 pg) ∧ wx.cell? ⟨FB, 0, none⟩ = some (.int .i64 X)) w8 := ⟨hd.cellOf t2 id, hd.cellOf r3 id, hd.cellOf f0 id⟩
   refine tk 0 43 hS ?_
   refine tk 1 44 hS ?_
   refine tk 2 45 hS ?_
   refine tk 3 46 hS ?_
   refine tk 4 47 hS ?_
   refine tk 5 48 hS ?_
   refine tk 6 49 hS ?_
   refine tk 7 50 hS ?_
   clear t0 t1 t2 t3 r1 r3 f0
   have zL := hid (vt.out.same hd)
   have Jt := hid (wW.out.same hd)
   have JI := hid (uq.out.same hd)
   have pa := (show Hid (KT b0 w w8) from fy.out.then hd)
   clear vt wW uq fy hd
   have j4 := Kept.setM (w := w8) (B := Bd) (kd ++ [(pg, .int .i64 X, cd)]) (cd + 1)
   have kj := (show Hid (TabI (setM w8 Bd (kd ++ [(pg, .int .i64 X, cd)]) (cd + 1)) b0 T ⟨s.nx, insK kQ (tx, 1, 0, 0) s.tx, insK kD (pg, X) s.dy, s.im⟩ Bt (ct + 1) Bd (cd + 1) Bi ci (kt ++ [(tx, .pointer (some ⟨g, 0, none⟩), ct)]) (kd ++ [(pg, .int .i64 X, cd)]) ki) from zL.out.newD pg X tP.out)
   have Qu := hid (Jt.out.kept j4 (blk_map Jt.out zL.out.md))
   have SV := hid (JI.out.kept j4 (blk_map JI.out zL.out.md))
   have tV := hid (pa.out.trans (KT.of j4 zL.out.ld (tb_map zL.out.md)))
   refine wpAnyV_one (i := 8) (by kernel_rfl) rfl (fun Kc hK => ?_)
   refine step_skip (by rfl) (exec_update (vm := .map (some Bd)) (vk := .int .i64 pg) (u := .int .i64 X) rfl rfl rfl rfl (run_update_new Tryz.underlying91 Tryz.underlying2 zL.out.md zQ.out)) ?_
   refine hK.out _ _ (fun h => absurd rfl h) ?_
   clear hK Kc hS j4
   try simp only [List.getElem_toArray, List.getElem_cons_succ, List.getElem_cons_zero]
   refine wpAnyV_done (by kernel_rfl) ?_
   try simp only [Act.put, sA, s0, sS]
   generalize setM w8 Bd (kd ++ [(pg, .int .i64 X, cd)]) (cd + 1) = w9 at *
   clear zL Jt JI pa
   have HE := (show Hid (chgD s (X, kn, tx, pv, pg, un) uu = folD ⟨s.nx, insK kQ (tx, 1, 0, 0) s.tx, insK kD (pg, X) s.dy, s.im⟩ (X, kn, tx, pv, pg, un) (fun x => (x.1, x.2.1, X, uu))) from by
    unfold Hid chgD txB addD
    dsimp only
    rw [Dm.out, uf.out])
   have sQ := (show Hid (Up kQ (insK kQ (tx, 1, 0, 0) s.tx)) from hu.insK fun x hx => getK_none.1 HN.out x hx)
   have kC := (show Hid (TabM w9 b0 T ⟨s.nx, insK kQ (tx, 1, 0, 0) s.tx, insK kD (pg, X) s.dy, s.im⟩) from kj.out.out)
   have gW : Hid (w9.rangeAt FB 0 fc) := Qu.out.rangeAll
   clear kj SV Qu
   obtain ⟨wv, zq⟩ : ∃ x, x = w9 := ⟨_, rfl⟩
   subst zq
   have tE := tV
   clear tV
   obtain ⟨sv, pP⟩ : ∃ x : AzS, x = ⟨s.nx, insK kQ (tx, 1, 0, 0) s.tx, insK kD (pg, X) s.dy, s.im⟩ := ⟨_, rfl⟩
   rw [← pP] at HE kC
   have sI : Hid (Up kQ sv.tx) := by unfold Hid; rw [pP]; exact sQ.out
   clear pP sQ
   go_wp2_with (refine wpList_load_mid rfl 51 _ rfl FB 0 rfl fc _ gW.out Tryz.underlying51 rfl HI.out ?_)
   refine (follow_any wv b0 T sv fc (X, kn, tx, pv, pg, un) je.out kC.out sI.out ht).mono ?_
   rintro e mV mQ
   clear kC gW
   rcases mQ with ⟨lY, rfl, hk⟩ | ⟨q, g', J1, Hg, GH, Gt, KC, H4, Ah, rr, b', IU, IW, hq, hl, rfl, hb, gm, hT, hk⟩
   ·have zv := hid lY
    have kL := (show Hid (KT b0 w mV) from tE.out.then hk)
    clear lY hk
    go_wp2
    go_ret
    exact ⟨kL.out, .inl ⟨by rw [HE.out]; exact folD_no zv.out, rfl⟩⟩
   ·have tp := hid hq
    have pN := hid hl
    have cx := hid hb
    have iI := hid hT
    have kL := hid (tE.out.trans hk)
    have tj := hT.ent (tx, .pointer (some ⟨g', 0, none⟩), b') (by simp) g' rfl
    have oY := hid gm
    clear hq hl hb hT hk gm
    obtain ⟨a, st, l, u⟩ := q
    have ix : Kept (fun b => b = g') mV (mV.setCell ⟨g', 3, none⟩ (.int .i64 uu)) := Kept.setCell (R := fun b => b = g') (Kept.refl _ _) (p := ⟨g', 3, none⟩) (.inr rfl) _
    have gv := (show Hid (Blk (mV.setCell ⟨g', 3, none⟩ (.int .i64 uu)) g' 57 (entC ((fun x : Q4 => (x.1, x.2.1, x.2.2.1, uu)) (lastQ X (a, st, l, u))))) from cx.out.stored 3 _)
    have iY := hid (iI.out.put (sI.out.setK (g := lastQ X) (fun x => rfl)) oY.out (getK_setK (f := lastQ X) (fun x => rfl) tp.out) ix gv.out (f := fun x => (x.1, x.2.1, x.2.2.1, uu)) (fun x => rfl))
    have dZ := hid (kL.out.trans (KT.of ix tj (tb_ent cx.out)))
    obtain ⟨g0, g1, g2, g3⟩ := cx.out.all4
    have fg := cx.out.frozen
    have qY := cx.out.lt
    clear ix
    go_wp2
    go_ret
    refine ⟨dZ.out, .inr ⟨_, by rw [HE.out]; exact folD_yes tp.out pN.out, rfl, ?_⟩⟩
    have h := iY.out.out
    rw [setK_setK (f := lastQ X) (fun x => rfl)] at h
    exact h
 ·obtain ⟨pre, b, post, g, t7, gm, lr⟩ := iI.out.hit hu oR
  subst t7
  have HP := hid gm
  have Dm := (show Hid ((if (getK kQ tx s.tx).isSome = true then s.tx else insK kQ (tx, 1, 0, 0) s.tx) = s.tx) from by unfold Hid; rw [oR]; rfl)
  clear oR gm lr
  by_cases hdk : (getK kD pg s.dy).isSome = true
  ·obtain ⟨pred, vd, bd, nj, nW, DI⟩ := iI.out.ed.hit hdk
   subst nW
   have Ie := hid DI
   have uf := (show Hid ((if (getK kD pg s.dy).isSome = true then s.dy else insK kD (pg, X) s.dy) = s.dy) from by unfold Hid; rw [if_pos hdk])
   clear DI hdk
   obtain ⟨t0, t1, t2, t3⟩ := iI.out.box.all4
   have r1 : w2.cell? ⟨RB, 1, none⟩ = some (.int .i64 tx) := by rw [i7.out.cell]; exact l7.out.1
   have r3 : w2.cell? ⟨RB, 3, none⟩ = some (.int .i64 pg) := by rw [i7.out.cell]; exact l7.out.2
   have f0 : w2.cell? ⟨FB, 0, none⟩ = some (.int .i64 X) := by rw [j2.out.cell]; exact je.out.c0
   refine wp_region_V (fun wx : World => MapB wx Bt (pre ++ (tx, .pointer (some ⟨g, 0, none⟩), b) :: post) ct ∧ wx.cell? ⟨T, 1, none⟩ = some (.map (some Bt)) ∧ wx.cell? ⟨RB, 1, none⟩ = some (.int .i64 tx)) 99 8 rfl (by kernel_rfl) ?_
   have hd : Same w2 w2.drew := (Kept.refl _ _).drew
   generalize w2.drew = w3 at *
   have hS : (fun wx : World => MapB wx Bt (pre ++ (tx, .pointer (some ⟨g, 0, none⟩), b) :: post) ct ∧ wx.cell? ⟨T, 1, none⟩ = some (.map (some Bt)) ∧ wx.cell? ⟨RB, 1, none⟩ = some (.int .i64 tx)) w3 := ⟨iI.out.mt.same hd, hd.cellOf t1 id, hd.cellOf r1 id⟩
   refine tk 0 13 hS ?_
   refine tk 1 14 hS ?_
   refine tk 2 15 hS ?_
   refine tk 3 16 hS ?_
   refine tk 4 17 hS ?_
   refine tk 5 18 hS ?_
   refine tkV 6 19 (.pointer (some ⟨g, 0, none⟩)) hS ?_ (hy := fun wx cI => exec_lookup rfl rfl rfl (run_lookup_hit Tryz.underlying90 Tryz.underlying2 cI.1 HP.out false))
   refine tkV 7 20 (.bool false) hS ?_
   refine wpAnyV_done (by kernel_rfl) ?_
   clear t0 t1 t2 t3 r1 r3 f0 hS
   have iY := hid (iI.out.same hd)
   have kB := hid (j2.out.same hd)
   have mG := hid (i7.out.same hd)
   have dZ := (show Hid (KT b0 w w3) from cw.out.then hd)
   clear iI j2 i7 cw hd
   obtain ⟨t0, t1, t2, t3⟩ := iY.out.box.all4
   have r1 : w3.cell? ⟨RB, 1, none⟩ = some (.int .i64 tx) := by rw [mG.out.cell]; exact l7.out.1
   have r3 : w3.cell? ⟨RB, 3, none⟩ = some (.int .i64 pg) := by rw [mG.out.cell]; exact l7.out.2
   have f0 : w3.cell? ⟨FB, 0, none⟩ = some (.int .i64 X) := by rw [kB.out.cell]; exact je.out.c0
   go_wp2_with fail
   refine wp_region_V (fun wx : World => MapB wx Bd (pred ++ (pg, vd, bd) :: nj) cd ∧ wx.cell? ⟨T, 2, none⟩ = some (.map (some Bd)) ∧ wx.cell? ⟨RB, 3, none⟩ = some (.int .i64 pg)) 99 12 rfl (by kernel_rfl) ?_
   have hd : Same w3 w3.drew := (Kept.refl _ _).drew
   generalize w3.drew = w4 at *
   have hS : (fun wx : World => MapB wx Bd (pred ++ (pg, vd, bd) :: nj) cd ∧ wx.cell? ⟨T, 2, none⟩ = some (.map (some Bd)) ∧ wx.cell? ⟨RB, 3, none⟩ = some (.int .i64 pg)) w4 := ⟨iY.out.md.same hd, hd.cellOf t2 id, hd.cellOf r3 id⟩
   refine tk 0 32 hS ?_
   refine tk 1 33 hS ?_
   refine tk 2 34 hS ?_
   refine tk 3 35 hS ?_
   refine tk 4 36 hS ?_
   refine tk 5 37 hS ?_
   refine tkV 6 38 (.tuple #[vd, .bool true]) hS ?_ (hy := fun wx cI => exec_lookup rfl rfl rfl (run_lookup_hit Tryz.underlying91 Tryz.underlying2 cI.1 Ie.out true))
   refine tk 7 31 hS ?_
   refine tk 8 39 hS ?_
   refine tk 9 40 hS ?_
   refine tk 10 8 hS ?_
   refine tk 11 9 hS ?_
   refine wpAnyV_done (by kernel_rfl) ?_
   clear t0 t1 t2 t3 r1 r3 f0 hS
   have nl := hid (iY.out.same hd)
   have oh := hid (kB.out.same hd)
   have qy := hid (mG.out.same hd)
   have fA := (show Hid (KT b0 w w4) from dZ.out.then hd)
   clear iY kB mG dZ hd
   have HE := (show Hid (chgD s (X, kn, tx, pv, pg, un) uu = folD ⟨s.nx, s.tx, s.dy, s.im⟩ (X, kn, tx, pv, pg, un) (fun x => (x.1, x.2.1, X, uu))) from by
    unfold Hid chgD txB addD
    dsimp only
    rw [Dm.out, uf.out])
   have sQ := (show Hid (Up kQ s.tx) from hu)
   have kC := (show Hid (TabM w4 b0 T ⟨s.nx, s.tx, s.dy, s.im⟩) from nl.out.out)
   have gW : Hid (w4.rangeAt FB 0 fc) := oh.out.rangeAll
   clear nl qy oh
   obtain ⟨wv, zq⟩ : ∃ x, x = w4 := ⟨_, rfl⟩
   subst zq
   have tE := fA
   clear fA
   obtain ⟨sv, pP⟩ : ∃ x : AzS, x = ⟨s.nx, s.tx, s.dy, s.im⟩ := ⟨_, rfl⟩
   rw [← pP] at HE kC
   have sI : Hid (Up kQ sv.tx) := by unfold Hid; rw [pP]; exact sQ.out
   clear pP sQ
   go_wp2_with (refine wpList_load_mid rfl 51 _ rfl FB 0 rfl fc _ gW.out Tryz.underlying51 rfl HI.out ?_)
   refine (follow_any wv b0 T sv fc (X, kn, tx, pv, pg, un) je.out kC.out sI.out ht).mono ?_
   rintro e mV mQ
   clear kC gW
   rcases mQ with ⟨lY, rfl, hk⟩ | ⟨q, g', J1, Hg, GH, Gt, KC, H4, Ah, rr, b', IU, IW, hq, hl, rfl, hb, gm, hT, hk⟩
   ·have zv := hid lY
    have kL := (show Hid (KT b0 w mV) from tE.out.then hk)
    clear lY hk
    go_wp2
    go_ret
    exact ⟨kL.out, .inl ⟨by rw [HE.out]; exact folD_no zv.out, rfl⟩⟩
   ·have tp := hid hq
    have pN := hid hl
    have cx := hid hb
    have iI := hid hT
    have kL := hid (tE.out.trans hk)
    have tj := hT.ent (tx, .pointer (some ⟨g', 0, none⟩), b') (by simp) g' rfl
    have oY := hid gm
    clear hq hl hb hT hk gm
    obtain ⟨a, st, l, u⟩ := q
    have ix : Kept (fun b => b = g') mV (mV.setCell ⟨g', 3, none⟩ (.int .i64 uu)) := Kept.setCell (R := fun b => b = g') (Kept.refl _ _) (p := ⟨g', 3, none⟩) (.inr rfl) _
    have gv := (show Hid (Blk (mV.setCell ⟨g', 3, none⟩ (.int .i64 uu)) g' 57 (entC ((fun x : Q4 => (x.1, x.2.1, x.2.2.1, uu)) (lastQ X (a, st, l, u))))) from cx.out.stored 3 _)
    have iY := hid (iI.out.put (sI.out.setK (g := lastQ X) (fun x => rfl)) oY.out (getK_setK (f := lastQ X) (fun x => rfl) tp.out) ix gv.out (f := fun x => (x.1, x.2.1, x.2.2.1, uu)) (fun x => rfl))
    have dZ := hid (kL.out.trans (KT.of ix tj (tb_ent cx.out)))
    obtain ⟨g0, g1, g2, g3⟩ := cx.out.all4
    have fg := cx.out.frozen
    have qY := cx.out.lt
    clear ix
    go_wp2
    go_ret
    refine ⟨dZ.out, .inr ⟨_, by rw [HE.out]; exact folD_yes tp.out pN.out, rfl, ?_⟩⟩
    have h := iY.out.out
    rw [setK_setK (f := lastQ X) (fun x => rfl)] at h
    exact h
  ·have vY : getK kD pg s.dy = none := by simpa using hdk
   have tP := hid vY
   have zQ := hid (iI.out.ed.miss vY)
   have uf := (show Hid ((if (getK kD pg s.dy).isSome = true then s.dy else insK kD (pg, X) s.dy) = insK kD (pg, X) s.dy) from by unfold Hid; rw [if_neg hdk])
   clear vY hdk
   obtain ⟨t0, t1, t2, t3⟩ := iI.out.box.all4
   have r1 : w2.cell? ⟨RB, 1, none⟩ = some (.int .i64 tx) := by rw [i7.out.cell]; exact l7.out.1
   have r3 : w2.cell? ⟨RB, 3, none⟩ = some (.int .i64 pg) := by rw [i7.out.cell]; exact l7.out.2
   have f0 : w2.cell? ⟨FB, 0, none⟩ = some (.int .i64 X) := by rw [j2.out.cell]; exact je.out.c0
   refine wp_region_V (fun wx : World => MapB wx Bt (pre ++ (tx, .pointer (some ⟨g, 0, none⟩), b) :: post) ct ∧ wx.cell? ⟨T, 1, none⟩ = some (.map (some Bt)) ∧ wx.cell? ⟨RB, 1, none⟩ = some (.int .i64 tx)) 99 8 rfl (by kernel_rfl) ?_
   have hd : Same w2 w2.drew := (Kept.refl _ _).drew
   generalize w2.drew = w3 at *
   have hS : (fun wx : World => MapB wx Bt (pre ++ (tx, .pointer (some ⟨g, 0, none⟩), b) :: post) ct ∧ wx.cell? ⟨T, 1, none⟩ = some (.map (some Bt)) ∧ wx.cell? ⟨RB, 1, none⟩ = some (.int .i64 tx)) w3 := ⟨iI.out.mt.same hd, hd.cellOf t1 id, hd.cellOf r1 id⟩
   refine tk 0 13 hS ?_
   refine tk 1 14 hS ?_
   refine tk 2 15 hS ?_
   refine tk 3 16 hS ?_
   refine tk 4 17 hS ?_
   refine tk 5 18 hS ?_
   refine tkV 6 19 (.pointer (some ⟨g, 0, none⟩)) hS ?_ (hy := fun wx cI => exec_lookup rfl rfl rfl (run_lookup_hit Tryz.underlying90 Tryz.underlying2 cI.1 HP.out false))
   refine tkV 7 20 (.bool false) hS ?_
   refine wpAnyV_done (by kernel_rfl) ?_
   clear t0 t1 t2 t3 r1 r3 f0 hS
   have iY := hid (iI.out.same hd)
   have kB := hid (j2.out.same hd)
   have mG := hid (i7.out.same hd)
   have dZ := (show Hid (KT b0 w w3) from cw.out.then hd)
   clear iI j2 i7 cw hd
   obtain ⟨t0, t1, t2, t3⟩ := iY.out.box.all4
   have r1 : w3.cell? ⟨RB, 1, none⟩ = some (.int .i64 tx) := by rw [mG.out.cell]; exact l7.out.1
   have r3 : w3.cell? ⟨RB, 3, none⟩ = some (.int .i64 pg) := by rw [mG.out.cell]; exact l7.out.2
   have f0 : w3.cell? ⟨FB, 0, none⟩ = some (.int .i64 X) := by rw [kB.out.cell]; exact je.out.c0
   go_wp2_with fail
   refine wp_region_V (fun wx : World => MapB wx Bd kd cd ∧ wx.cell? ⟨T, 2, none⟩ = some (.map (some Bd)) ∧ wx.cell? ⟨RB, 3, none⟩ = some (.int .i64 pg)) 99 12 rfl (by kernel_rfl) ?_
   have hd : Same w3 w3.drew := (Kept.refl _ _).drew
   generalize w3.drew = w4 at *
   have hS : (fun wx : World => MapB wx Bd kd cd ∧ wx.cell? ⟨T, 2, none⟩ = some (.map (some Bd)) ∧ wx.cell? ⟨RB, 3, none⟩ = some (.int .i64 pg)) w4 := ⟨iY.out.md.same hd, hd.cellOf t2 id, hd.cellOf r3 id⟩
   refine tk 0 32 hS ?_
   refine tk 1 33 hS ?_
   refine tk 2 34 hS ?_
   refine tk 3 35 hS ?_
   refine tk 4 36 hS ?_
   refine tk 5 37 hS ?_
   refine tkV 6 38 (.tuple #[.int .i64 0, .bool false]) hS ?_ (hy := fun wx cI => exec_lookup rfl rfl rfl (run_lookup_miss Tryz.underlying91 Tryz.underlying2 cI.1 zQ.out (Tryz.zeroValue2 _) true))
   refine tk 7 31 hS ?_
   refine tk 8 39 hS ?_
   refine tk 9 40 hS ?_
   refine tk 10 8 hS ?_
   refine tk 11 9 hS ?_
   refine wpAnyV_done (by kernel_rfl) ?_
   clear t0 t1 t2 t3 r1 r3 f0 hS
   have nl := hid (iY.out.same hd)
   have oh := hid (kB.out.same hd)
   have qy := hid (mG.out.same hd)
   have fA := (show Hid (KT b0 w w4) from dZ.out.then hd)
   clear iY kB mG dZ hd
   obtain ⟨t0, t1, t2, t3⟩ := nl.out.box.all4
   have r1 : w4.cell? ⟨RB, 1, none⟩ = some (.int .i64 tx) := by rw [qy.out.cell]; exact l7.out.1
   have r3 : w4.cell? ⟨RB, 3, none⟩ = some (.int .i64 pg) := by rw [qy.out.cell]; exact l7.out.2
   have f0 : w4.cell? ⟨FB, 0, none⟩ = some (.int .i64 X) := by rw [oh.out.cell]; exact je.out.c0
   go_wp2_with fail
   refine wp_region_V (fun wx : World => wx.cell? ⟨T, 2, none⟩ = some (.map (some Bd)) ∧ wx.cell? ⟨RB, 3, none⟩ = some (.int .i64 pg) ∧ wx.cell? ⟨FB, 0, none⟩ = some (.int .i64 X)) 8 9 rfl (by kernel_rfl) ?_
   have hd : Same w4 w4.drew := (Kept.refl _ _).drew
   generalize w4.drew = w5 at *
   have hS : (fun wx : World => wx.cell? ⟨T, 2, none⟩ = some (.map (some Bd)) ∧ wx.cell? ⟨RB, 3, none⟩ = some (.int .i64 pg) ∧ wx.cell? ⟨FB, 0, none⟩ = some (.int .i64 X)) w5 := ⟨hd.cellOf t2 id, hd.cellOf r3 id, hd.cellOf f0 id⟩
   refine tk 0 43 hS ?_
   refine tk 1 44 hS ?_
   refine tk 2 45 hS ?_
   refine tk 3 46 hS ?_
   refine tk 4 47 hS ?_
   refine tk 5 48 hS ?_
   refine tk 6 49 hS ?_
   refine tk 7 50 hS ?_
   clear t0 t1 t2 t3 r1 r3 f0
   have j6 := hid (nl.out.same hd)
   have ot := hid (oh.out.same hd)
   have ma := hid (qy.out.same hd)
   have fM := (show Hid (KT b0 w w5) from fA.out.then hd)
   clear nl oh qy fA hd
   have j4 := Kept.setM (w := w5) (B := Bd) (kd ++ [(pg, .int .i64 X, cd)]) (cd + 1)
   have oN := (show Hid (TabI (setM w5 Bd (kd ++ [(pg, .int .i64 X, cd)]) (cd + 1)) b0 T { s with dy := insK kD (pg, X) s.dy } Bt ct Bd (cd + 1) Bi ci (pre ++ (tx, .pointer (some ⟨g, 0, none⟩), b) :: post) (kd ++ [(pg, .int .i64 X, cd)]) ki) from j6.out.newD pg X tP.out)
   have tX := hid (ot.out.kept j4 (blk_map ot.out j6.out.md))
   have sU := hid (ma.out.kept j4 (blk_map ma.out j6.out.md))
   have jd := hid (fM.out.trans (KT.of j4 j6.out.ld (tb_map j6.out.md)))
   refine wpAnyV_one (i := 8) (by kernel_rfl) rfl (fun Kc hK => ?_)
   refine step_skip (by rfl) (exec_update (vm := .map (some Bd)) (vk := .int .i64 pg) (u := .int .i64 X) rfl rfl rfl rfl (run_update_new Tryz.underlying91 Tryz.underlying2 j6.out.md zQ.out)) ?_
   refine hK.out _ _ (fun h => absurd rfl h) ?_
   clear hK Kc hS j4
   try simp only [List.getElem_toArray, List.getElem_cons_succ, List.getElem_cons_zero]
   refine wpAnyV_done (by kernel_rfl) ?_
   try simp only [Act.put, sA, s0, sS]
   generalize setM w5 Bd (kd ++ [(pg, .int .i64 X, cd)]) (cd + 1) = w6 at *
   clear j6 ot ma fM
   have HE := (show Hid (chgD s (X, kn, tx, pv, pg, un) uu = folD ⟨s.nx, s.tx, insK kD (pg, X) s.dy, s.im⟩ (X, kn, tx, pv, pg, un) (fun x => (x.1, x.2.1, X, uu))) from by
    unfold Hid chgD txB addD
    dsimp only
    rw [Dm.out, uf.out])
   have sQ := (show Hid (Up kQ s.tx) from hu)
   have kC := (show Hid (TabM w6 b0 T ⟨s.nx, s.tx, insK kD (pg, X) s.dy, s.im⟩) from oN.out.out)
   have gW : Hid (w6.rangeAt FB 0 fc) := tX.out.rangeAll
   clear oN sU tX
   obtain ⟨wv, zq⟩ : ∃ x, x = w6 := ⟨_, rfl⟩
   subst zq
   have tE := jd
   clear jd
   obtain ⟨sv, pP⟩ : ∃ x : AzS, x = ⟨s.nx, s.tx, insK kD (pg, X) s.dy, s.im⟩ := ⟨_, rfl⟩
   rw [← pP] at HE kC
   have sI : Hid (Up kQ sv.tx) := by unfold Hid; rw [pP]; exact sQ.out
   clear pP sQ
   go_wp2_with (refine wpList_load_mid rfl 51 _ rfl FB 0 rfl fc _ gW.out Tryz.underlying51 rfl HI.out ?_)
   refine (follow_any wv b0 T sv fc (X, kn, tx, pv, pg, un) je.out kC.out sI.out ht).mono ?_
   rintro e mV mQ
   clear kC gW
   rcases mQ with ⟨lY, rfl, hk⟩ | ⟨q, g', J1, Hg, GH, Gt, KC, H4, Ah, rr, b', IU, IW, hq, hl, rfl, hb, gm, hT, hk⟩
   ·have zv := hid lY
    have kL := (show Hid (KT b0 w mV) from tE.out.then hk)
    clear lY hk
    go_wp2
    go_ret
    exact ⟨kL.out, .inl ⟨by rw [HE.out]; exact folD_no zv.out, rfl⟩⟩
   ·have tp := hid hq
    have pN := hid hl
    have cx := hid hb
    have iI := hid hT
    have kL := hid (tE.out.trans hk)
    have tj := hT.ent (tx, .pointer (some ⟨g', 0, none⟩), b') (by simp) g' rfl
    have oY := hid gm
    clear hq hl hb hT hk gm
    obtain ⟨a, st, l, u⟩ := q
    have ix : Kept (fun b => b = g') mV (mV.setCell ⟨g', 3, none⟩ (.int .i64 uu)) := Kept.setCell (R := fun b => b = g') (Kept.refl _ _) (p := ⟨g', 3, none⟩) (.inr rfl) _
    have gv := (show Hid (Blk (mV.setCell ⟨g', 3, none⟩ (.int .i64 uu)) g' 57 (entC ((fun x : Q4 => (x.1, x.2.1, x.2.2.1, uu)) (lastQ X (a, st, l, u))))) from cx.out.stored 3 _)
    have iY := hid (iI.out.put (sI.out.setK (g := lastQ X) (fun x => rfl)) oY.out (getK_setK (f := lastQ X) (fun x => rfl) tp.out) ix gv.out (f := fun x => (x.1, x.2.1, x.2.2.1, uu)) (fun x => rfl))
    have dZ := hid (kL.out.trans (KT.of ix tj (tb_ent cx.out)))
    obtain ⟨g0, g1, g2, g3⟩ := cx.out.all4
    have fg := cx.out.frozen
    have qY := cx.out.lt
    clear ix
    go_wp2
    go_ret
    refine ⟨dZ.out, .inr ⟨_, by rw [HE.out]; exact folD_yes tp.out pN.out, rfl, ?_⟩⟩
    have h := iY.out.out
    rw [setK_setK (f := lastQ X) (fun x => rfl)] at h
    exact h
theorem takeUpdate_any (w : World) (b0 T : Nat) (s : AzS) (fc : List Value) (f : F6) (hf : FcI fc f) (h : TabM w b0 T s) (hu : Up kQ s.tx) (ht : 1 ≤ f.2.2.1 ∧ f.2.2.1 ≤ 2147483647) :
  Calls Tryz.prog 52 #[.pointer (some ⟨T, 0, none⟩), .agg fc.toArray] w fun e w' => TakR w w' b0 T (chgD s f f.1) e := by
 have je := hid hf
 obtain ⟨X, kn, tx, pv, pg, un⟩ := f
 have eg := newBox w fc 51
 obtain ⟨w1, fC⟩ : ∃ x, x = w.alloc (.cells fc.toArray 51) := ⟨_, rfl⟩
 rw [← fC] at eg
 have HF := hid eg.1
 have bq := hid eg.2
 have nz := eg.1.lt
 obtain ⟨FB, gH⟩ : ∃ x, w.heap.size = x := ⟨_, rfl⟩
 rw [gH] at HF nz
 have f0 : w1.cell? ⟨FB, 0, none⟩ = some (.int .i64 X) := by rw [HF.out.cell]; exact hf.c0
 have f2 : w1.cell? ⟨FB, 2, none⟩ = some (.int .i64 kn) := by rw [HF.out.cell]; exact hf.c2
 have f3 : w1.cell? ⟨FB, 3, none⟩ = some (.int .i64 tx) := by rw [HF.out.cell]; exact hf.c3
 have f4 : w1.cell? ⟨FB, 4, none⟩ = some (.int .i64 pv) := by rw [HF.out.cell]; exact hf.c4
 have f5 : w1.cell? ⟨FB, 5, none⟩ = some (.int .i64 pg) := by rw [HF.out.cell]; exact hf.c5
 have lp : w1.cell? ⟨FB, 11, none⟩ = some (.int .i64 un) := by rw [HF.out.cell]; exact hf.c11
 have HL : Hid (fc.length = 16) := hf.len
 clear eg
 have je : Hid (FcI fc (X, kn, tx, pv, pg, un)) := hf
 have gW : Hid (w1.rangeAt FB 0 fc) := HF.out.rangeAll
 have HI : Hid ((Tryz.prog.info? 51).map (·.size) = some fc.length) := by unfold Hid; rw [HL.out]; kernel_rfl
 have kC := hid h
 clear f2 f3 f4 f5 lp
 go_enter Tryz.func52, Tryz.ntmps52
 go_upto_region 1 with fail
 rw [← fC]
 try rw [gH]
 have qp := hid gH
 clear fC gH
 go_wp2_with (refine wpList_load_mid rfl 51 _ rfl FB 0 rfl fc _ gW.out Tryz.underlying51 rfl HI.out ?_)
 refine (takeChange_any w1 b0 T s fc (X, kn, tx, pv, pg, un) X je.out (kC.out.same bq.out) hu ht).mono ?_
 rintro e w2 ⟨hk, hr⟩
 have cw := (show Hid (KT b0 w w2) from (KT.same bq.out).trans hk)
 clear hk
 rcases hr with ⟨hn, rfl⟩ | ⟨s', nA, rfl, hT⟩
 ·have HN := hid hn
  clear hn
  go_wp2
  go_ret
  exact ⟨cw.out, .inl ⟨HN.out, rfl⟩⟩
 ·have HN := hid nA
  have HT := hid hT
  clear nA hT
  go_wp2
  go_ret
  exact ⟨cw.out, .inr ⟨s', HN.out, rfl, HT.out⟩⟩
def undD (s : AzS) (f : F6) : Option AzS := if f.2.2.2.2.2 < f.1 then chgD s f f.2.2.2.2.2 else none
theorem takeUndo_any (w : World) (b0 T : Nat) (s : AzS) (fc : List Value) (f : F6) (hf : FcI fc f) (h : TabM w b0 T s) (hu : Up kQ s.tx) (ht : 1 ≤ f.2.2.1 ∧ f.2.2.1 ≤ 2147483647) :
  Calls Tryz.prog 53 #[.pointer (some ⟨T, 0, none⟩), .agg fc.toArray] w fun e w' => TakR w w' b0 T (undD s f) e := by
 have je := hid hf
 obtain ⟨X, kn, tx, pv, pg, un⟩ := f
 have eg := newBox w fc 51
 obtain ⟨w1, fC⟩ : ∃ x, x = w.alloc (.cells fc.toArray 51) := ⟨_, rfl⟩
 rw [← fC] at eg
 have HF := hid eg.1
 have bq := hid eg.2
 have nz := eg.1.lt
 obtain ⟨FB, gH⟩ : ∃ x, w.heap.size = x := ⟨_, rfl⟩
 rw [gH] at HF nz
 have f0 : w1.cell? ⟨FB, 0, none⟩ = some (.int .i64 X) := by rw [HF.out.cell]; exact hf.c0
 have f2 : w1.cell? ⟨FB, 2, none⟩ = some (.int .i64 kn) := by rw [HF.out.cell]; exact hf.c2
 have f3 : w1.cell? ⟨FB, 3, none⟩ = some (.int .i64 tx) := by rw [HF.out.cell]; exact hf.c3
 have f4 : w1.cell? ⟨FB, 4, none⟩ = some (.int .i64 pv) := by rw [HF.out.cell]; exact hf.c4
 have f5 : w1.cell? ⟨FB, 5, none⟩ = some (.int .i64 pg) := by rw [HF.out.cell]; exact hf.c5
 have lp : w1.cell? ⟨FB, 11, none⟩ = some (.int .i64 un) := by rw [HF.out.cell]; exact hf.c11
 have HL : Hid (fc.length = 16) := hf.len
 clear eg
 have je : Hid (FcI fc (X, kn, tx, pv, pg, un)) := hf
 have gW : Hid (w1.rangeAt FB 0 fc) := HF.out.rangeAll
 have HI : Hid ((Tryz.prog.info? 51).map (·.size) = some fc.length) := by unfold Hid; rw [HL.out]; kernel_rfl
 have kC := hid h
 clear f2 f3 f4 f5
 by_cases dh : un < X
 ·have Kj : (decide (un < X)) = true := decide_eq_true dh
  have xF := hid dh
  go_enter Tryz.func53, Tryz.ntmps53
  go_upto_region 1 with fail
  rw [← fC]
  try rw [gH]
  have qp := hid gH
  clear fC gH
  go_wp2_with (refine BigFrame.wpList_want (by rfl) (fun K hK => wp_load_mid 51 _ rfl FB 0 rfl fc _ gW.out Tryz.underlying51 rfl HI.out (hK _ _ ?_)))
  refine (takeChange_any w1 b0 T s fc (X, kn, tx, pv, pg, un) un je.out (kC.out.same bq.out) hu ht).mono ?_
  rintro e w2 ⟨hk, hr⟩
  have cw := (show Hid (KT b0 w w2) from (KT.same bq.out).trans hk)
  clear hk
  rcases hr with ⟨hn, rfl⟩ | ⟨s', nA, rfl, hT⟩
  ·have HN := hid hn
   clear hn
   go_wp2
   go_ret
   exact ⟨cw.out, .inl ⟨by unfold undD; rw [if_pos xF.out]; exact HN.out, rfl⟩⟩
  ·have HN := hid nA
   have HT := hid hT
   clear nA hT
   go_wp2
   go_ret
   exact ⟨cw.out, .inr ⟨s', by unfold undD; rw [if_pos xF.out]; exact HN.out, rfl, HT.out⟩⟩
 ·have Kj : (decide (un < X)) = false := decide_eq_false dh
  have xF := hid dh
  go_enter Tryz.func53, Tryz.ntmps53
  go_upto_region 1 with fail
  rw [← fC]
  try rw [gH]
  have qp := hid gH
  clear fC gH
  go_wp2
  go_ret
  exact ⟨KT.same bq.out, .inl ⟨by have h := xF.out; unfold undD; rw [if_neg (by dsimp only; omega)], rfl⟩⟩
theorem takeCommit_any (w : World) (b0 T : Nat) (s : AzS) (fc : List Value) (f : F6) (hf : FcI fc f) (h : TabM w b0 T s) (hu : Up kQ s.tx) (ht : 1 ≤ f.2.2.1 ∧ f.2.2.1 ≤ 2147483647) :
  Calls Tryz.prog 54 #[.pointer (some ⟨T, 0, none⟩), .agg fc.toArray] w fun e w' => TakR w w' b0 T (folD s f (fun x => (x.1, 2, f.1, x.2.2.2))) e := by
 have je := hid hf
 obtain ⟨X, kn, tx, pv, pg, un⟩ := f
 have eg := newBox w fc 51
 obtain ⟨w1, fC⟩ : ∃ x, x = w.alloc (.cells fc.toArray 51) := ⟨_, rfl⟩
 rw [← fC] at eg
 have HF := hid eg.1
 have bq := hid eg.2
 have nz := eg.1.lt
 obtain ⟨FB, gH⟩ : ∃ x, w.heap.size = x := ⟨_, rfl⟩
 rw [gH] at HF nz
 have f0 : w1.cell? ⟨FB, 0, none⟩ = some (.int .i64 X) := by rw [HF.out.cell]; exact hf.c0
 have f2 : w1.cell? ⟨FB, 2, none⟩ = some (.int .i64 kn) := by rw [HF.out.cell]; exact hf.c2
 have f3 : w1.cell? ⟨FB, 3, none⟩ = some (.int .i64 tx) := by rw [HF.out.cell]; exact hf.c3
 have f4 : w1.cell? ⟨FB, 4, none⟩ = some (.int .i64 pv) := by rw [HF.out.cell]; exact hf.c4
 have f5 : w1.cell? ⟨FB, 5, none⟩ = some (.int .i64 pg) := by rw [HF.out.cell]; exact hf.c5
 have lp : w1.cell? ⟨FB, 11, none⟩ = some (.int .i64 un) := by rw [HF.out.cell]; exact hf.c11
 have HL : Hid (fc.length = 16) := hf.len
 clear eg
 have je : Hid (FcI fc (X, kn, tx, pv, pg, un)) := hf
 have gW : Hid (w1.rangeAt FB 0 fc) := HF.out.rangeAll
 have HI : Hid ((Tryz.prog.info? 51).map (·.size) = some fc.length) := by unfold Hid; rw [HL.out]; kernel_rfl
 have kC := hid h
 clear f0 f2 f3 f4 f5 lp
 go_enter Tryz.func54, Tryz.ntmps54
 go_upto_region 1 with fail
 rw [← fC]
 try rw [gH]
 have qp := hid gH
 clear fC gH
 go_wp2_with (refine wpList_load_mid rfl 51 _ rfl FB 0 rfl fc _ gW.out Tryz.underlying51 rfl HI.out ?_)
 refine (takeState_any w1 b0 T s fc (X, kn, tx, pv, pg, un) 2 je.out (kC.out.same bq.out) hu ht).mono ?_
 rintro e w2 ⟨hk, hr⟩
 have cw := (show Hid (KT b0 w w2) from (KT.same bq.out).trans hk)
 clear hk
 rcases hr with ⟨hn, rfl⟩ | ⟨s', nA, rfl, hT⟩
 ·have HN := hid hn
  clear hn
  go_wp2
  go_ret
  exact ⟨cw.out, .inl ⟨HN.out, rfl⟩⟩
 ·have HN := hid nA
  have HT := hid hT
  clear nA hT
  go_wp2
  go_ret
  exact ⟨cw.out, .inr ⟨s', HN.out, rfl, HT.out⟩⟩
theorem takeAbort_any (w : World) (b0 T : Nat) (s : AzS) (fc : List Value) (f : F6) (hf : FcI fc f) (h : TabM w b0 T s) (hu : Up kQ s.tx) (ht : 1 ≤ f.2.2.1 ∧ f.2.2.1 ≤ 2147483647) :
  Calls Tryz.prog 55 #[.pointer (some ⟨T, 0, none⟩), .agg fc.toArray] w fun e w' => TakR w w' b0 T (folD s f (fun x => (x.1, 3, f.1, x.2.2.2))) e := by
 have je := hid hf
 obtain ⟨X, kn, tx, pv, pg, un⟩ := f
 have eg := newBox w fc 51
 obtain ⟨w1, fC⟩ : ∃ x, x = w.alloc (.cells fc.toArray 51) := ⟨_, rfl⟩
 rw [← fC] at eg
 have HF := hid eg.1
 have bq := hid eg.2
 have nz := eg.1.lt
 obtain ⟨FB, gH⟩ : ∃ x, w.heap.size = x := ⟨_, rfl⟩
 rw [gH] at HF nz
 have f0 : w1.cell? ⟨FB, 0, none⟩ = some (.int .i64 X) := by rw [HF.out.cell]; exact hf.c0
 have f2 : w1.cell? ⟨FB, 2, none⟩ = some (.int .i64 kn) := by rw [HF.out.cell]; exact hf.c2
 have f3 : w1.cell? ⟨FB, 3, none⟩ = some (.int .i64 tx) := by rw [HF.out.cell]; exact hf.c3
 have f4 : w1.cell? ⟨FB, 4, none⟩ = some (.int .i64 pv) := by rw [HF.out.cell]; exact hf.c4
 have f5 : w1.cell? ⟨FB, 5, none⟩ = some (.int .i64 pg) := by rw [HF.out.cell]; exact hf.c5
 have lp : w1.cell? ⟨FB, 11, none⟩ = some (.int .i64 un) := by rw [HF.out.cell]; exact hf.c11
 have HL : Hid (fc.length = 16) := hf.len
 clear eg
 have je : Hid (FcI fc (X, kn, tx, pv, pg, un)) := hf
 have gW : Hid (w1.rangeAt FB 0 fc) := HF.out.rangeAll
 have HI : Hid ((Tryz.prog.info? 51).map (·.size) = some fc.length) := by unfold Hid; rw [HL.out]; kernel_rfl
 have kC := hid h
 clear f0 f2 f3 f4 f5 lp
 go_enter Tryz.func55, Tryz.ntmps55
 go_upto_region 1 with fail
 rw [← fC]
 try rw [gH]
 have qp := hid gH
 clear fC gH
 go_wp2_with (refine wpList_load_mid rfl 51 _ rfl FB 0 rfl fc _ gW.out Tryz.underlying51 rfl HI.out ?_)
 refine (takeState_any w1 b0 T s fc (X, kn, tx, pv, pg, un) 3 je.out (kC.out.same bq.out) hu ht).mono ?_
 rintro e w2 ⟨hk, hr⟩
 have cw := (show Hid (KT b0 w w2) from (KT.same bq.out).trans hk)
 clear hk
 rcases hr with ⟨hn, rfl⟩ | ⟨s', nA, rfl, hT⟩
 ·have HN := hid hn
  clear hn
  go_wp2
  go_ret
  exact ⟨cw.out, .inl ⟨HN.out, rfl⟩⟩
 ·have HN := hid nA
  have HT := hid hT
  clear nA hT
  go_wp2
  go_ret
  exact ⟨cw.out, .inr ⟨s', HN.out, rfl, HT.out⟩⟩
theorem takeNothing_any (w : World) (b0 T : Nat) (s : AzS) (fc : List Value) (f : F6) (hf : FcI fc f) (h : TabM w b0 T s) :
  Calls Tryz.prog 57 #[.pointer (some ⟨T, 0, none⟩), .agg fc.toArray] w fun e w' => TakR w w' b0 T (some s) e := by
 obtain ⟨X, kn, tx, pv, pg, un⟩ := f
 have eg := newBox w fc 51
 obtain ⟨w1, fC⟩ : ∃ x, x = w.alloc (.cells fc.toArray 51) := ⟨_, rfl⟩
 rw [← fC] at eg
 have HF := hid eg.1
 have bq := hid eg.2
 have nz := eg.1.lt
 obtain ⟨FB, gH⟩ : ∃ x, w.heap.size = x := ⟨_, rfl⟩
 rw [gH] at HF nz
 have f0 : w1.cell? ⟨FB, 0, none⟩ = some (.int .i64 X) := by rw [HF.out.cell]; exact hf.c0
 have f2 : w1.cell? ⟨FB, 2, none⟩ = some (.int .i64 kn) := by rw [HF.out.cell]; exact hf.c2
 have f3 : w1.cell? ⟨FB, 3, none⟩ = some (.int .i64 tx) := by rw [HF.out.cell]; exact hf.c3
 have f4 : w1.cell? ⟨FB, 4, none⟩ = some (.int .i64 pv) := by rw [HF.out.cell]; exact hf.c4
 have f5 : w1.cell? ⟨FB, 5, none⟩ = some (.int .i64 pg) := by rw [HF.out.cell]; exact hf.c5
 have lp : w1.cell? ⟨FB, 11, none⟩ = some (.int .i64 un) := by rw [HF.out.cell]; exact hf.c11
 have HL : Hid (fc.length = 16) := hf.len
 clear eg
 have kC := hid (h.same bq.out)
 clear h f0 f2 f3 f4 f5 lp
 go_enter Tryz.func57, Tryz.ntmps57
 go_upto_region 1 with fail
 rw [← fC]
 try rw [gH]
 have qp := hid gH
 clear fC gH
 go_wp2
 go_ret
 exact ⟨KT.same bq.out, .inr ⟨s, rfl, rfl, kC.out⟩⟩
theorem takeImage_any (w : World) (b0 T : Nat) (s : AzS) (fc : List Value) (f : F6) (hf : FcI fc f) (h : TabM w b0 T s) :
  Calls Tryz.prog 58 #[.pointer (some ⟨T, 0, none⟩), .agg fc.toArray] w fun e w' => TakR w w' b0 T (some { s with im := addI f.2.2.2.2.1 s.im }) e := by
 obtain ⟨X, kn, tx, pv, pg, un⟩ := f
 have eg := newBox w fc 51
 obtain ⟨w1, fC⟩ : ∃ x, x = w.alloc (.cells fc.toArray 51) := ⟨_, rfl⟩
 rw [← fC] at eg
 have HF := hid eg.1
 have bq := hid eg.2
 have nz := eg.1.lt
 obtain ⟨FB, gH⟩ : ∃ x, w.heap.size = x := ⟨_, rfl⟩
 rw [gH] at HF nz
 have f0 : w1.cell? ⟨FB, 0, none⟩ = some (.int .i64 X) := by rw [HF.out.cell]; exact hf.c0
 have f2 : w1.cell? ⟨FB, 2, none⟩ = some (.int .i64 kn) := by rw [HF.out.cell]; exact hf.c2
 have f3 : w1.cell? ⟨FB, 3, none⟩ = some (.int .i64 tx) := by rw [HF.out.cell]; exact hf.c3
 have f4 : w1.cell? ⟨FB, 4, none⟩ = some (.int .i64 pv) := by rw [HF.out.cell]; exact hf.c4
 have f5 : w1.cell? ⟨FB, 5, none⟩ = some (.int .i64 pg) := by rw [HF.out.cell]; exact hf.c5
 have lp : w1.cell? ⟨FB, 11, none⟩ = some (.int .i64 un) := by rw [HF.out.cell]; exact hf.c11
 have HL : Hid (fc.length = 16) := hf.len
 clear eg
 obtain ⟨Bt, ct, Bd, cd, Bi, ci, kt, kd, ki, lQ⟩ := h
 have lZ := hid (lQ.same bq.out)
 obtain ⟨t0, t1, t2, t3⟩ := lZ.out.box.all4
 clear lQ f0 f2 f3 f4 lp
 by_cases hik : (getK kI pg s.im).isSome = true
 ·obtain ⟨pre, v, b, post, Ir, hp⟩ := lZ.out.ei.hit hik
  subst Ir
  have HP := hid hp
  have JE := (show Hid ((if (getK kI pg s.im).isSome = true then s.im else insK kI pg s.im) = s.im) from by unfold Hid; rw [if_pos hik])
  clear hp hik
  go_enter Tryz.func58, Tryz.ntmps58
  go_upto_region 1 with fail
  rw [← fC]
  try rw [gH]
  have qp := hid gH
  clear fC gH
  refine wp_region_V (fun wx : World => wx.cell? ⟨T, 3, none⟩ = some (.map (some Bi)) ∧ wx.cell? ⟨FB, 5, none⟩ = some (.int .i64 pg)) 8 9 rfl (by kernel_rfl) ?_
  have hd : Same w1 w1.drew := (Kept.refl _ _).drew
  generalize w1.drew = w2 at *
  have hS : (fun wx : World => wx.cell? ⟨T, 3, none⟩ = some (.map (some Bi)) ∧ wx.cell? ⟨FB, 5, none⟩ = some (.int .i64 pg)) w2 := ⟨hd.cellOf t3 id, hd.cellOf f5 id⟩
  refine tk 0 5 hS ?_
  refine tk 1 6 hS ?_
  refine tk 2 7 hS ?_
  refine tk 3 8 hS ?_
  refine tk 4 9 hS ?_
  refine tk 5 10 hS ?_
  refine tk 6 11 hS ?_
  refine tkV 7 12 (.agg #[]) hS ?_
  have iI := hid (lZ.out.same hd)
  have j4 := Kept.setM (w := w2) (B := Bi) (pre ++ (pg, .agg #[], b) :: post) ci
  have iY := hid (iI.out.againI (u := .agg #[]))
  have ES := iI.out.li
  have dZ := (show Hid (KT b0 w (setM w2 Bi (pre ++ (pg, .agg #[], b) :: post) ci)) from (KT.same (bq.out.trans hd)).trans (KT.of j4 ES (tb_map iI.out.mi)))
  refine wpAnyV_one (i := 8) (by kernel_rfl) rfl (fun Kc hK => ?_)
  refine step_skip (by rfl) (exec_update (vm := .map (some Bi)) (vk := .int .i64 pg) (u := .agg #[]) rfl rfl rfl rfl (run_update_hit Tryz.underlying92 Tryz.underlying2 iI.out.mi HP.out)) ?_
  refine hK.out _ _ (fun h => absurd rfl h) ?_
  clear hK Kc hS j4
  try simp only [List.getElem_toArray, List.getElem_cons_succ, List.getElem_cons_zero]
  refine wpAnyV_done (by kernel_rfl) ?_
  try simp only [Act.put, sA, s0, sS]
  generalize setM w2 Bi (pre ++ (pg, .agg #[], b) :: post) ci = w3 at *
  go_wp2
  go_ret
  exact ⟨dZ.out, .inr ⟨_, rfl, rfl, by unfold addI; rw [JE.out]; exact iY.out.out⟩⟩
 ·have qn : getK kI pg s.im = none := by simpa using hik
  have HN := hid qn
  have HM := hid (lZ.out.ei.miss qn)
  have JE := (show Hid ((if (getK kI pg s.im).isSome = true then s.im else insK kI pg s.im) = insK kI pg s.im) from by unfold Hid; rw [if_neg hik])
  clear qn hik
  go_enter Tryz.func58, Tryz.ntmps58
  go_upto_region 1 with fail
  rw [← fC]
  try rw [gH]
  have qp := hid gH
  clear fC gH
  refine wp_region_V (fun wx : World => wx.cell? ⟨T, 3, none⟩ = some (.map (some Bi)) ∧ wx.cell? ⟨FB, 5, none⟩ = some (.int .i64 pg)) 8 9 rfl (by kernel_rfl) ?_
  have hd : Same w1 w1.drew := (Kept.refl _ _).drew
  generalize w1.drew = w2 at *
  have hS : (fun wx : World => wx.cell? ⟨T, 3, none⟩ = some (.map (some Bi)) ∧ wx.cell? ⟨FB, 5, none⟩ = some (.int .i64 pg)) w2 := ⟨hd.cellOf t3 id, hd.cellOf f5 id⟩
  refine tk 0 5 hS ?_
  refine tk 1 6 hS ?_
  refine tk 2 7 hS ?_
  refine tk 3 8 hS ?_
  refine tk 4 9 hS ?_
  refine tk 5 10 hS ?_
  refine tk 6 11 hS ?_
  refine tkV 7 12 (.agg #[]) hS ?_
  have iI := hid (lZ.out.same hd)
  have j4 := Kept.setM (w := w2) (B := Bi) (ki ++ [(pg, .agg #[], ci)]) (ci + 1)
  have iY := hid (iI.out.newI pg (.agg #[]) HN.out)
  have ES := iI.out.li
  have dZ := (show Hid (KT b0 w (setM w2 Bi (ki ++ [(pg, .agg #[], ci)]) (ci + 1))) from (KT.same (bq.out.trans hd)).trans (KT.of j4 ES (tb_map iI.out.mi)))
  refine wpAnyV_one (i := 8) (by kernel_rfl) rfl (fun Kc hK => ?_)
  refine step_skip (by rfl) (exec_update (vm := .map (some Bi)) (vk := .int .i64 pg) (u := .agg #[]) rfl rfl rfl rfl (run_update_new Tryz.underlying92 Tryz.underlying2 iI.out.mi HM.out)) ?_
  refine hK.out _ _ (fun h => absurd rfl h) ?_
  clear hK Kc hS j4
  try simp only [List.getElem_toArray, List.getElem_cons_succ, List.getElem_cons_zero]
  refine wpAnyV_done (by kernel_rfl) ?_
  try simp only [Act.put, sA, s0, sS]
  generalize setM w2 Bi (ki ++ [(pg, .agg #[], ci)]) (ci + 1) = w3 at *
  go_wp2
  go_ret
  exact ⟨dZ.out, .inr ⟨_, rfl, rfl, by unfold addI; rw [JE.out]; exact iY.out.out⟩⟩
end Go.Proofs.YtepdakgfioffgaaGreat
