import Derived.Test.YtljfcdkhicffcaaGreatG22
import Derived.Laws.Tables
namespace Go.Proofs.YtljfcdkhicffcaaGreat
set_option maxRecDepth 100000
set_option maxHeartbeats 8000000
set_option linter.unusedVariables false
set_option linter.unusedSimpArgs false
open Go Go.RowKit Go.MapKept
theorem jaM {l : List Int} (hn : l.Nodup) : (Xt l).Pairwise (· < ·) := by
 have tr : ∀ a b c : Int, decide (a ≤ b) = true → decide (b ≤ c) = true → decide (a ≤ c) = true := fun a b c h1 h2 => by simp only [decide_eq_true_eq] at *; omega
 have PO : ∀ a b : Int, (decide (a ≤ b) || decide (b ≤ a)) = true := fun a b => by simp only [Bool.or_eq_true, decide_eq_true_eq]; omega
 have h1 := List.pairwise_mergeSort (le := fun x y : Int => decide (x ≤ y)) tr PO l;have h2 : (Xt l).Nodup := (List.mergeSort_perm l _).nodup_iff.2 hn;unfold Xt at h2 ⊢;refine (List.Pairwise.and h1 h2).imp ?_;rintro a b ⟨h3, h4⟩;simp only [decide_eq_true_eq] at h3;omega
theorem lt_eq {a b : List Int} (ha : a.Pairwise (· < ·)) (hb : b.Pairwise (· < ·)) (hp : a.Perm b) : a = b :=
 List.Perm.eq_of_pairwise (le := (· < ·)) (fun x y _ _ h1 h2 => by omega) ha hb hp
theorem ZG {w : World} {base : Nat} {v : Value} {n : Nat} {zs : List Int} (h : w.ownsRow base 2 1 v n (zs.map encZ)) : Rd .i64 w v zs ∧ zs.length = n ∧ (∀ b, v.ownBlock = some b → base ≤ b ∧ b < w.heap.size) := by
 have hl : zs.length = n := by have := h.1; simpa using this
 have ho : Own base 2 .i64 w v zs := by
  unfold Own;rw [hl];exact h
 refine ⟨ho.rd, hl, fun b hb => ?_⟩
 rcases ho.form with ⟨rfl, _⟩ | ⟨g, cap, rfl, h1, h2, _⟩
 ·simp [Value.ownBlock] at hb
 ·have : g = b := by simpa [Value.ownBlock] using hb
  omega
theorem Rd.at8 {w : World} {a : Option Addr} {c : Nat} {zs : List Int} (h : Rd .i64 w (.slice a zs.length c) zs) (h0 : 0 < zs.length) : ∃ b off, a = some ⟨b, off, none⟩ ∧ zs.length ≤ c ∧ ∀ j (hj : j < zs.length), w.cell? ⟨b, off + j, none⟩ = some (V zs[j]) := by
 rcases h.2 with ⟨rfl, _⟩ | ⟨b, off, c', hv, hl, hc⟩
 ·simp at h0
 ·simp only [Value.slice.injEq] at hv
  obtain ⟨rfl, _, rfl⟩ := hv;refine ⟨b, off, rfl, hl, fun j hj => ?_⟩;rw [hc j hj];simp [List.getD_eq_getElem?_getD, hj]
theorem jgf {w : World} {base : Nat} {e : TypeId} {m n : Nat} {v : Value} {xs : List Value} (h : w.ownsRow base e m v n xs) : w.ownsRow 0 e m v n xs := by
 obtain ⟨h1, h2⟩ := h;refine ⟨h1, ?_⟩
 rcases h2 with h2 | ⟨g, c, cs, hv, hb, hr⟩
 ·exact .inl h2
 ·exact .inr ⟨g, c, cs, hv, Nat.zero_le _, hr⟩
theorem jcZ {ce : List ERc} {D : List RcD} (hD : (ce.map ERc.dat).Perm D) (hr : (D.map (·.1)).Pairwise (· < ·)) : Xt ((ce.map ERc.kv).map (·.1)) = D.map (·.1) := by
 have h1 : ((ce.map ERc.kv).map (·.1)).Perm (D.map (·.1)) := by
  have h2 := hD.map (·.1);rw [List.map_map] at h2 ⊢;exact h2
 have hn : ((ce.map ERc.kv).map (·.1)).Nodup := h1.nodup_iff.2 (hr.imp (fun h => by omega));exact lt_eq (jaM hn) hr ((List.mergeSort_perm _ _).trans h1)
theorem jbA (lo C ck : Nat) (ce : List ERc) (D : List RcD) (w : World) (h : RcM lo w C ck ce) (hD : (ce.map ERc.dat).Perm D) (hr : (D.map (·.1)).Pairwise (· < ·)) (hi : ∀ r ∈ D, 0 ≤ r.1 ∧ r.1 < 512) (bd : OkR D) (hl : D.length ≤ 512) :
  Calls Tryz.prog 35 #[.map (some C)] w fun e w' => NwR w w' e D := by
 obtain ⟨i0, vp, br, aT, bv⟩ := info_parts Tryz.infoRHeapRecord
 have gu : (ce.map ERc.kv).length = D.length := by have := hD.length_eq; simpa using this
 have dW := run_len_map (P := Tryz.prog) (T := 87) (ty := 3) h.map Tryz.underlying87;rw [gu] at dW;obtain ⟨N, hN⟩ : ∃ n, D.length = n := ⟨_, rfl⟩;rw [hN] at dW hl;obtain ⟨w2, ji, fj, jo⟩ := run_make_own (P := Tryz.prog) w 0 30 79 i0 _ 2 Tryz.underlying30 vp br aT .i64 .i64 N (by rw [bv]; omega) (by unfold maxLen; omega) (Nat.zero_le _);have ae : Same w w2 := kZ0.grown jo (fun k e => by simp at e)
 have lf := (show Hid (UwR w w2 (.slice (some ⟨w.heap.size, 0, none⟩) 0 N) []) from ⟨⟨fj, fun p hp => by simp at hp, fun u hu => by simp at hu, by simp⟩, fun b hb => by
  rcases hb with hb | ⟨p, hp, _⟩
  ·have e : w.heap.size = b := (by simpa [Value.ownBlock] using hb)
   omega
  ·simp at hp, ae⟩)
 have h2 := h.same ae;have k3 := jfi (some C) w2
 have k4 := jcW w2 C ck (ce.map ERc.kv) h2.map h2.ok (by omega) (fun e he => by
  obtain ⟨y, hy, rfl⟩ := List.mem_map.1 he;have := hi y.dat (hD.subset (List.mem_map_of_mem hy));have e1 : y.dat.1 = y.kv.1 := rfl
  omega)
 rw [jcZ hD hr, gu, hN] at k4
 have dL := (show Hid (∀ (k : Nat) (hk : k < D.length), ∃ (va : Option Addr) (vc : Nat), (∀ wx, Same w wx → (Instr.lookup 87 (.map (some C)) (V (D[k].1)) false).run Tryz.prog wx = .ok (.agg #[.bool true, .slice va D[k].2.length vc]) wx) ∧ RdL lo w (.slice va D[k].2.length vc) D[k].2) from fun k hk => by
  obtain ⟨u, va, vn, vc, d, h1, h2, h3, h4, h5⟩ := Zh h hD D[k].1
  have hu : ∀ r ∈ D, r.1 = D[k].1 → r = (D[k].1, D[k].2) := fun r Qd he => by
   obtain ⟨j, hj, rfl⟩ := List.getElem_of_mem Qd;have hp := List.pairwise_iff_getElem.1 hr
   rcases Nat.lt_trichotomy j k with h3 | h3 | h3
   ·have := hp j k (by simpa using hj) (by simpa using hk) h3
    simp only [List.getElem_map] at this;omega
   ·subst h3; rfl
   ·have := hp k j (by simpa using hk) (by simpa using hj) h3
    simp only [List.getElem_map] at this;omega
  have hs := (jaI (false, []) 0 hu (List.getElem_mem hk)).1;rw [hs] at h4
  injection h4 with e1 e2
  subst e1 e2 h3
  exact ⟨va, vc, h1, h2⟩)
 have iL := hid bd;have HN := hid hN
 have hf : ∀ (u : Bool) (a : Option Addr) (n c : Nat) (wx : World), (Instr.field 110 (.agg #[.bool u, .slice a n c]) 1).run Tryz.prog wx = .ok (.slice a n c) wx := fun u a n c wx => by kernel_rfl
 have yo := ae.size;clear h hD hr hi bd gu fj jo ae h2 br aT bv vp hN
 go_enter Tryz.func35, Tryz.ntmps35
 go_wp2_with fail
 refine k3.mono ?_;rintro e w3 ⟨rfl, rfl⟩;clear k3 ji dW
 go_wp2_with fail
 refine k4.mono ?_;rintro e w4 ⟨v, rfl, aX, aM⟩;obtain ⟨ch, az, ja⟩ := ZG aX;obtain ⟨ai, ci, rfl⟩ := ch.form;rw [az] at aX;have eJ := (show Hid (w4.ownsRow 0 2 1 (.slice ai N ci) N ((D.map (·.1)).map encZ)) from jgf aX);have nl := hid (lf.out.on ((kZ0.alloc _).trans aM));have gm := (show Hid ((D.map (·.1)).length = N) from az);rw [az];clear k4 aX aM ch ja az lf
 go_wp2_with fail
 go_loopw [3, 13] (fun z i wr => ∃ (k : Nat) (a : Option Addr) (n c : Nat) (qs : List EHeapRecord), k ≤ N ∧ i = V k ∧ z = .slice a n c ∧ Hid (jZ9 qs = D.take k) ∧ Hid (UwR w wr (.slice a n c) qs) ∧ Hid (wr.ownsRow 0 2 1 (.slice ai N ci) N ((D.map (·.1)).map encZ))) (fun _ i _ => N - (intOf i).toNat)
 case atStart => exact ⟨0, _, _, _, [], Nat.zero_le _, rfl, rfl, rfl, nl, eJ⟩
 case round =>
  clear nl eJ;obtain ⟨k, fa, fn, fc, qs, hk, rfl, rfl, HD, HU, eJ⟩ := hrel
  by_cases aG : k < N
  case neg =>
   obtain rfl : N = k := by omega
   have HE := (show Hid (jZ9 qs = D) from by show jZ9 qs = D; rw [HD.out, List.take_of_length_le (by rw [HN.out]; exact Nat.le_refl _)]);go_wp2;go_ret;exact ⟨_, _, _, qs, rfl, HE.out, HU.out⟩
  have fH : k < D.length := by rw [HN.out]; exact aG
  have ch := (ZG eJ.out).1;have dS := gm.out;rw [← dS] at ch;obtain ⟨bi, oi, ha, ED, bE⟩ := ch.at8 (by omega);have gn := bE k (by omega);rw [List.getElem_map] at gn;rw [dS] at ED;obtain ⟨va, vc, dH, DJ⟩ := dL.out k fH;have mf := dH wr HU.out.same;have kC := jbk (.slice va D[k].2.length vc) D[k].2 wr (by have := (iL.out D[k] (List.getElem_mem fH)).2; omega) (DJ.onL (HU.out.same.mono (fun _ _ e => e.elim))).here
  have fw := (show Hid (∀ v, jZ9 (qs ++ [⟨D[k].1, v, D[k].2⟩]) = D.take (k + 1)) from fun v => by
   rw [List.take_succ_eq_append_getElem fH, ← HD.out]
   simp [jZ9, EHeapRecord.dat])
  have bV := (show Hid (qs.length ≤ 512) from by
   have h := congrArg List.length HD.out;rw [TQ, List.length_take] at h
   show qs.length ≤ 512
   omega)
  generalize D[k].1 = key at gn mf fw;generalize D[k].2 = kd at mf kC fw;generalize kd.length = kn at mf kC;clear ch bE dH DJ dS fH;subst ha
  go_wp2_with fail
  refine kC.mono ?_;rintro e w5 ⟨a5, n5, c5, rfl, Ce, DL, aP⟩;have dI := hid Ce;have rE := hid DL;have js := hid (HU.out.on aP);have mK := hid (aP.owns eJ.out (fun _ _ h => h));have gU := (show Hid (∀ b, Uc kHeapRecord (.slice fa fn fc) qs b → b < wr.heap.size) from fun b hb => (HU.out.own.lt b hb).2);have mN : wr.heap.size ≤ w5.heap.size := aP.size;have SS : w.heap.size ≤ wr.heap.size := HU.out.same.size;clear kC Ce DL aP HU gn mf eJ
  go_wp2_with (at_builtin; go_loud (refine ZQ (w0 := w) (qs := qs) (id := key) (v := .slice a5 n5 c5) (bs := kd) rfl (.tmp 17) (.tmp 25) rfl rfl rfl (Blk.newL w5 [V key, .slice a5 n5 c5] 79) rfl (js.out.on (kZ0.alloc _)) (dI.out.same (kZ0.alloc _)) (fun b' bw => ⟨by have := rE.out b' bw; omega, fun hf => by have := rE.out b' bw; have := gU.out b' hf; omega⟩) (by have := bV.out; omega) ?_); intro gF cF w6 CO G7 Bs; have CK := hid CO; have bI := hid Bs; clear CO G7 Bs)
  have C8 := (show Hid (w6.ownsRow 0 2 1 (.slice (some ⟨bi, oi, none⟩) N ci) N ((D.map (·.1)).map encZ)) from by
   have cX : Same w5 (w5.alloc (.cells #[V key, .slice a5 n5 c5] 79)) := kZ0.alloc _;have h1 := cX.owns mK.out (fun _ _ h => h)
   exact bI.out.owns h1 (own_ne h1 (js.out.on cX).own.row (by decide)))
  go_roundw
  case rel => exact ⟨k + 1, _, _, _, _, by omega, by go_num, rfl, fw.out _, CK, C8⟩
  case measure => simp [intOf]; omega
theorem Tryz.infoOu : (Tryz.prog.info? 124).map (fun i => (i.zero, i.size, i.bytes)) = some (some (.agg #[V 0, V 0, V 0, V0, V0, V 0, .nilFunc]), 7, 88) := by kernel_rfl
theorem jeH (parts : List (Nat × Value)) : Tryz.prog.built 124 parts = Instr.fill (fun i => #[(0, 6), (6, 1)][i]?) #[V 0, V 0, V 0, V0, V0, V 0, .nilFunc] parts := by kernel_rfl
theorem Zi (parts : List (Nat × Value)) : Tryz.prog.built 73 parts = Instr.fill (fun i => #[(0, 1), (1, 1), (2, 1), (3, 1), (4, 1), (5, 1)][i]?) #[V 0, V 0, V 0, V0, V0, V 0] parts := by kernel_rfl
theorem XL (w : World) (c0 c1 c2 c3 c4 c5 : Value) (fn : Fn) (a b : Array Value) : (Instr.build 124 #[(0, .agg #[c0, c1, c2, c3, c4, c5]), (1, .func fn a b)]).run Tryz.prog w = .ok (.agg #[c0, c1, c2, c3, c4, c5, .func fn a b]) w :=
 run_build w _ _ _ (by rw [jeH]; simp [Instr.fill, Value.cells])
theorem jab (w : World) (fn : Fn) (a b : Array Value) : (Instr.build 124 #[(1, .func fn a b)]).run Tryz.prog w = .ok (.agg #[V 0, V 0, V 0, V0, V0, V 0, .func fn a b]) w :=
 run_build w _ _ _ (by rw [jeH]; simp [Instr.fill, Value.cells])
theorem jac (w : World) (c : Int) : (Instr.build 73 #[(0, V c)]).run Tryz.prog w = .ok (.agg #[V c, V 0, V 0, V0, V0, V 0]) w :=
 run_build w _ _ _ (by rw [Zi]; simp [Instr.fill, Value.cells])
theorem jgP (w : World) (c : Int) : (Instr.build 73 #[(1, V c)]).run Tryz.prog w = .ok (.agg #[V 0, V c, V 0, V0, V0, V 0]) w :=
 run_build w _ _ _ (by rw [Zi]; simp [Instr.fill, Value.cells])
theorem jgQ (w : World) (c : Int) : (Instr.build 73 #[(2, V c)]).run Tryz.prog w = .ok (.agg #[V 0, V 0, V c, V0, V0, V 0]) w :=
 run_build w _ _ _ (by rw [Zi]; simp [Instr.fill, Value.cells])
theorem jgR (w : World) (a : Option Addr) (n c : Nat) : (Instr.build 73 #[(3, .slice a n c)]).run Tryz.prog w = .ok (.agg #[V 0, V 0, V 0, .slice a n c, V0, V 0]) w :=
 run_build w _ _ _ (by rw [Zi]; simp [Instr.fill, Value.cells])
theorem jgS (w : World) (a : Option Addr) (n c : Nat) : (Instr.build 73 #[(4, .slice a n c)]).run Tryz.prog w = .ok (.agg #[V 0, V 0, V 0, V0, .slice a n c, V 0]) w :=
 run_build w _ _ _ (by rw [Zi]; simp [Instr.fill, Value.cells])
theorem VJ (w : World) (c0 c1 c2 c3 c4 c5 c6 : Value) : (Instr.buildSlice 121 1 #[(0, .agg #[c0, c1, c2, c3, c4, c5, c6])]).run Tryz.prog w = .ok (.slice (some ⟨w.heap.size, 0, none⟩) 1 1) (w.alloc (.cells #[c0, c1, c2, c3, c4, c5, c6] 124)) := by
 obtain ⟨i0, hi, br, aT, bv⟩ := info_parts Tryz.infoOu;refine run_buildSlice w 121 124 1 _ _ i0 _ Tryz.underlying121 hi br (by rw [aT]; decide) (by rw [aT]; decide) ?_;rw [aT];generalize hZ : (Array.map _ (Array.range (1 * 7)) : Array Value) = Z
 have hs : Z.size = 7 := by rw [← hZ]; simp
 clear hZ;obtain ⟨Z⟩ := Z
 match Z, hs with
 | [z0, z1, z2, z3, z4, z5, z6], _ => simp [Instr.fill, Value.cells]
theorem jad (w : World) (c0 c1 c2 c3 c4 c5 c6 d0 d1 d2 d3 d4 d5 d6 : Value) : (Instr.buildSlice 121 2 #[(0, .agg #[c0, c1, c2, c3, c4, c5, c6]), (1, .agg #[d0, d1, d2, d3, d4, d5, d6])]).run Tryz.prog w = .ok (.slice (some ⟨w.heap.size, 0, none⟩) 2 2) (w.alloc (.cells #[c0, c1, c2, c3, c4, c5, c6, d0, d1, d2, d3, d4, d5, d6] 124)) := by
 obtain ⟨i0, hi, br, aT, bv⟩ := info_parts Tryz.infoOu;refine run_buildSlice w 121 124 2 _ _ i0 _ Tryz.underlying121 hi br (by rw [aT]; decide) (by rw [aT]; decide) ?_;rw [aT];generalize hZ : (Array.map _ (Array.range (2 * 7)) : Array Value) = Z
 have hs : Z.size = 14 := by rw [← hZ]; simp
 clear hZ;obtain ⟨Z⟩ := Z
 match Z, hs with
 | [z0, z1, z2, z3, z4, z5, z6, y0, y1, y2, y3, y4, y5, y6], _ => simp [Instr.fill, Value.cells]
theorem UJ {P : Program} {ops : Array Oper} {Q : Exit → Act → World → Prop} {o : Oper} {rest : List Oper} {a : Act} {w w' : World} {v : Value} (hg : o.guard = none) (hr : (execOp a.eval o).run P w = .ok (.value v) w') (h : wpList P ops Q rest (a.put o.dst v) w') : wpList P ops Q (o :: rest) a w := by
 refine wpList_plain hg (fun K hK => ?_);unfold Oper.wp;rw [hr];exact hK _ _ h
theorem jhG {fn : Func} {p : Tmp} {ty : TypeId} {tmps : Array Value} {P : Program} {w : World} {Z : Nat} {cs : List Value} {d : TypeDesc} (h : fn.results = #[.cell p ty]) (hp : tmps.getD p undef = Q3 Z 0) (hc : w.rangeAt Z 0 cs)
  (hu : P.underlying ty = some d) (hd : d.isRow = true) (hi : (P.info? ty).map (·.size) = some cs.length) : (results fn tmps).run P w = .ok (.agg cs.toArray) w := by
 rw [Array.getD_eq_getD_getElem?] at hp;simp only [results, h];simp [Sem.run_bind, Result.andThen, hp, asAddr, run_loadVar_mid w Z 0 ty cs d hc hu hd hi]
theorem jc0 {w : World} {Z : Nat} {e : TypeId} {xs : List Value} (h : Blk w Z e xs) (vs : List Value) (hl : vs.length = xs.length) : Blk (w.setCells Z 0 vs) Z e vs := by
 have h1 := h.setCells vs 0 (by omega)
 rwa [lay_all _ _ (by omega)] at h1
theorem Blk.onG {G : Obj → Prop} {w w' : World} {B : Nat} {e : TypeId} {xs : List Value} (h : Blk w B e xs) (hG : ∀ cs, ¬ G (.cells cs e (0, 0))) (hk : KO G w w') : Blk w' B e xs := h.kept hk (fun ⟨o, ho, hg⟩ => by
 unfold Blk at h;rw [h] at ho
 injection ho with ho
 subst ho
 exact hG _ hg)
theorem SpN.none {w : World} {lo : Nat} {rv : Value} {rs : List EHeapRecord} {tv : Value} {ts : List ETx} {la : Option Addr} {ln lc : Nat} {ls : List Int} {cv NV : Value} {cs Az : List EWr} (h : SpN w lo rv rs tv ts la ln lc ls cv cs) (hc : OwW Gs w NV Az) : SpN w lo rv rs (.slice .none 0 0) [] .none 0 0 [] NV Az :=
 ⟨h.recs, ⟨rfl, .inl ⟨rfl, rfl⟩⟩, fun t ht => by simp at ht, by simp, ⟨rfl, .inl ⟨rfl, rfl⟩⟩, hc, fun t ht => by simp at ht, h.loR, fun b hb => by simp [Value.ownBlock] at hb, fun t ht => by simp at ht⟩
theorem jbB (lo M : Nat) (gp gf gl : Int) (up : Bool) (rv : Value) (rs : List EHeapRecord) (tv lv : Value) (told : Int) (hc : Bool) (cv : Value) (cs : List EWr) (w : World) (hb : SpB w M gp gf gl up rv tv lv told hc cv) (hn : SpN w lo rv rs (V0) [] none 0 0 [] cv cs) (cN : lo ≤ M) (F9 : hc = false → cs = []) :
  Calls Tryz.prog 51 #[Q3 M 0] w fun e w' => e = .returned (.tuple #[]) ∧ SpS w' lo M gp gf gl ⟨false, jZ9 rs, [], [], 0, TU cs⟩ ∧ SpK lo w w' := by
 have bR := hb;unfold SpB at bR;have c3 := bR.cell 3;have c5 := bR.cell 5;have c6 := bR.cell 6;have c7 := bR.cell 7;simp only [List.getElem?_cons_zero, List.getElem?_cons_succ] at c3 c5 c6 c7;have fz := bR.frozen;have HB := (show Hid (SpB ((((w.setCell ⟨M, 3, none⟩ (.bool false)).setCell ⟨M, 5, none⟩ (V0)).setCell ⟨M, 6, none⟩ (V0)).setCell ⟨M, 7, none⟩ (V 0)) M gp gf gl false rv (V0) (V0) 0 hc cv) from (((bR.stored 3 (.bool false)).stored 5 (V0)).stored 6 (V0)).stored 7 (V 0));have hk : Kept (fun b => b = M) w ((((w.setCell ⟨M, 3, none⟩ (.bool false)).setCell ⟨M, 5, none⟩ (V0)).setCell ⟨M, 6, none⟩ (V0)).setCell ⟨M, 7, none⟩ (V 0)) := Kept.setCell (R := fun b => b = M) (Kept.setCell (R := fun b => b = M) (Kept.setCell (R := fun b => b = M) (Kept.setCell (R := fun b => b = M) kZ0 (p := ⟨M, 3, none⟩) (.inr rfl) _) (p := ⟨M, 5, none⟩) (.inr rfl) _) (p := ⟨M, 6, none⟩) (.inr rfl) _) (p := ⟨M, 7, none⟩) (.inr rfl) _;have HN := hid (hn.box bR hk);have HK := (show Hid (Kept (fun b => lo ≤ b) w ((((w.setCell ⟨M, 3, none⟩ (.bool false)).setCell ⟨M, 5, none⟩ (V0)).setCell ⟨M, 6, none⟩ (V0)).setCell ⟨M, 7, none⟩ (V 0))) from hk.mono (fun b _ e => by rw [e]; exact cN));clear hb bR hn hk
 go_enter Tryz.func51, Tryz.ntmps51
 go_wp2;generalize (((w.setCell ⟨M, 3, none⟩ (.bool false)).setCell ⟨M, 5, none⟩ (V0)).setCell ⟨M, 6, none⟩ (V0)).setCell ⟨M, 7, none⟩ (V 0) = w1 at HB HN HK ⊢;refine bodyPost_end (results_none Tryz.results51 _ _ _) rfl ⟨rfl, ?_, HN.out.2, HK.out⟩;exact ⟨rv, rs, _, [], none, 0, 0, [], hc, cv, cs, HB.out, HN.out.1, cN, rfl, rfl, rfl, rfl, F9⟩
theorem jd5 (lo M : Nat) (gp gf gl : Int) (st : PlS) (n0 : Nat) (kd stx ah cnt : Int) (sa : Option Addr) (sn sc : Nat) (ka : Option Addr) (kn kc : Nat) (sd kb : List Int) (cd tx rid : Int) (da : Option Addr) (dn dc : Nat) (ra : Option Addr) (rn rc : Nat) (us : Int) (db : List Int) (qs : List EHeapRecord) (w : World) (h : SpS w lo M gp gf gl st) (cN : lo ≤ w.heap.size) (hg : 0 ≤ gp ∧ gp ≤ 16) (RU : n0 ≤ 4000) (bd : OkS gp n0 st) (dk : sd.length = sn) (gD : RdL lo w (.slice sa sn sc) sd) (r6 : OkB sd) (dS : db.length = dn) (ek : RdL lo w (.slice da dn dc) db) (pj : OkB db) (hq : ∀ w', Kept (fun b => lo ≤ b) w w' → RdR kHeapRecord w' (.slice ra rn rc) qs) (sV : OkR (jZ9 qs)) (uq : qs.length ≤ 4000000) (dN : 1 ≤ kd ∧ kd ≤ 11) :
  Calls Tryz.prog 27 #[Q3 M 0, .agg #[V kd, V stx, V ah, V cnt, .slice sa sn sc, .slice ka kn kc], .agg #[V cd, V tx, V rid, .slice da dn dc, .slice ra rn rc, V us]] w fun e w' => OutS lo M gp gf gl w w' e (VD gp st (kd, stx, ah, cnt, sd, kb) (cd, tx, rid, db, jZ9 qs, us)) := by
 have HS := hid h
 have mZ : (jZ9 qs).length = rn := by
  obtain ⟨_, _, e⟩ := (hq w kZ0).form
  injection e with _ e _
  rw [TQ];exact e.symm
 have Ik := bd.few hg;have cM := (show Hid (∀ w1, Same w w1 → _) from fun w1 hx => ja3 lo M gp gf gl st cd tx rid da dn dc ra rn rc us db qs w1 (h.same hx) (by have := hx.size; omega) dS (hq w1 (SpK.same (lo := lo) hx).2) ⟨bd.okr, bd.okc.ok⟩ sV (by have := bd.okc.len; omega) uq);have pW := (show Hid (∀ w1, Same w w1 → kd ≤ 8 → _) from fun w1 hx hk => jdL lo M gp gf gl st kd stx ah cnt sa sn sc ka kn kc sd kb cd tx rid da dn dc ra rn rc us db (jZ9 qs) w1 (h.same hx) (by have := hx.size; omega) ⟨hg.1, by omega⟩ bd.n8 bd.once (fun t ht => by have := (bd.okw t ht).len; omega) (fun t ht => by have := (bd.okw t ht).len; omega) bd.okr (fun t ht => (bd.okw t ht).ok) dk (gD.on (SpK.same hx)) r6 dS (ek.on (SpK.same hx)) pj mZ ⟨dN.1, hk⟩);obtain ⟨rv, rs, tv, ts, la, ln, lc, ls, hc, cv, cs, hb, hn, cO, e1, e2, e3, e4, e5⟩ := h;have HE := (show Hid (jZ9 rs = st.recs ∧ Uo ts = st.txns ∧ tri ls = st.locks ∧ TU cs = st.cut ∧ (hc = false → cs = [])) from ⟨e1, e2, e3, e4, e5⟩);obtain ⟨RP, bS⟩ : ∃ z, VD gp st (kd, stx, ah, cnt, sd, kb) (cd, tx, rid, db, jZ9 qs, us) = z := ⟨_, rfl⟩;rw [bS];have bj := hid bS;have gm := hid dS;have jM := hid mZ;have gh := Blk.newL w [V kd, V stx, V ah, V cnt, .slice sa sn sc, .slice ka kn kc] 71;have bT : Same w (w.alloc (.cells #[V kd, V stx, V ah, V cnt, .slice sa sn sc, .slice ka kn kc] 71)) := kZ0.alloc _;obtain ⟨X, aQ⟩ : ∃ X, w.heap.size = X := ⟨_, rfl⟩;have ie := Blk.newL (w.alloc (.cells #[V kd, V stx, V ah, V cnt, .slice sa sn sc, .slice ka kn kc] 71)) [V cd, V tx, V rid, .slice da dn dc, .slice ra rn rc, V us] 73;have gS : Same (w.alloc (.cells #[V kd, V stx, V ah, V cnt, .slice sa sn sc, .slice ka kn kc] 71)) ((w.alloc (.cells #[V kd, V stx, V ah, V cnt, .slice sa sn sc, .slice ka kn kc] 71)).alloc (.cells #[V cd, V tx, V rid, .slice da dn dc, .slice ra rn rc, V us] 73)) := kZ0.alloc _
 have bD : (w.alloc (.cells #[V kd, V stx, V ah, V cnt, .slice sa sn sc, .slice ka kn kc] 71)).heap.size = X + 1 := by rw [World.size_alloc, aQ]
 rw [aQ] at gh;rw [bD] at ie
 have Fq : M < X := by have := Blk.lt hb; omega
 have HB := hid hb;have HN := hid hn;have jO := hid dN;clear hb hn e1 e2 e3 e4 e5 gD ek pj r6 dk dS mZ bS hg dN bd hq sV uq RU Ik
 go_enter Tryz.func27, Tryz.ntmps27
 go_upto_region 1 with fail
 try rw [aQ]
 try rw [bD]
 have gk := gh.same gS;have eR := bT.trans gS;generalize (w.alloc (.cells #[V kd, V stx, V ah, V cnt, .slice sa sn sc, .slice ka kn kc] 71)).alloc (.cells #[V cd, V tx, V rid, .slice da dn dc, .slice ra rn rc, V us] 73) = w1 at gk ie eR ⊢;have HX := hid gk;have HY := hid ie;have ao := hid eR;have bF := hid (Blk.same HB.out eR);have eM := hid (HN.out.same eR)
 have fW : lo ≤ w1.heap.size := by have := eR.size; omega
 clear gh ie gk eR bT gS bD aQ HB HN;have HI := (show Hid (∀ wx, Same w1 wx → SpB wx M gp gf gl st.up rv tv (.slice la ln lc) st.told hc cv ∧ SpN wx lo rv rs tv ts la ln lc ls cv cs ∧ Blk wx X 71 [V kd, V stx, V ah, V cnt, .slice sa sn sc, .slice ka kn kc] ∧ Blk wx (X + 1) 73 [V cd, V tx, V rid, .slice da dn dc, .slice ra rn rc, V us] ∧ SpS wx lo M gp gf gl st ∧ Same w wx) from fun wx hx => ⟨Blk.same bF.out hx, eM.out.same hx, HX.out.same hx, HY.out.same hx, HS.out.same (ao.out.trans hx), ao.out.trans hx⟩);clear HX HY ao bF eM fW HS
 have gZ := (show Hid (∀ (c : Int) (wx : World), Calls Tryz.prog 52 #[.agg #[V cd, V tx, V rid, .slice da dn dc, .slice ra rn rc, V us], V c] wx fun e w' => e = .returned (.bool (Ue (cd, tx, rid, db, jZ9 qs, us) c)) ∧ Same wx w') from fun c wx => by
  have e : (decide (cd = c) && decide (tx = 0) && decide (rid = 0) && decide (dn = 0) && decide (rn = 0)) = Ue (cd, tx, rid, db, jZ9 qs, us) c := by unfold Ue; rw [← gm.out, ← jM.out]
  have h := Vq cd tx rid da dn dc ra rn rc us c wx;rw [e] at h
  exact h)
 clear gm jM;obtain ⟨fi, yL⟩ : ∃ f : Int → Bool, f = Ue (cd, tx, rid, db, jZ9 qs, us) := ⟨_, rfl⟩;rw [← yL] at gZ;have EC := hid yL
 have mR := (show Hid (∀ (b : Bool) (w' : World), Same w1 w' → RP = ifB b st → OutS lo M gp gf gl w w' (.returned (.bool b)) RP) from fun b w' hk e => by
  rw [e]
  exact ⟨by rw [Xj], fun cJ e => by rw [← (Ui e).2]; exact (HI.out w' hk).2.2.2.2.1, SpK.same (HI.out w' hk).2.2.2.2.2⟩)
 have ik := (show Hid (∀ {wx : World}, Blk wx (X + 1) 73 [V cd, V tx, V rid, .slice da dn dc, .slice ra rn rc, V us] → wx.cell? ⟨X + 1, 0, none⟩ = some (V cd) ∧ wx.cell? ⟨X + 1, 1, none⟩ = some (V tx) ∧ wx.cell? ⟨X + 1, 2, none⟩ = some (V rid) ∧ wx.cell? ⟨X + 1, 3, none⟩ = some (.slice da dn dc) ∧ wx.cell? ⟨X + 1, 4, none⟩ = some (.slice ra rn rc) ∧ wx.cell? ⟨X + 1, 5, none⟩ = some (V us)) from fun h => ⟨h.cell 0, h.cell 1, h.cell 2, h.cell 3, h.cell 4, h.cell 5⟩);have jH := (show Hid (∀ {wx : World}, Blk wx X 71 [V kd, V stx, V ah, V cnt, .slice sa sn sc, .slice ka kn kc] → wx.cell? ⟨X, 0, none⟩ = some (V kd) ∧ wx.cell? ⟨X, 1, none⟩ = some (V stx) ∧ wx.cell? ⟨X, 2, none⟩ = some (V ah) ∧ wx.cell? ⟨X, 3, none⟩ = some (V cnt) ∧ wx.cell? ⟨X, 4, none⟩ = some (.slice sa sn sc) ∧ wx.cell? ⟨X, 5, none⟩ = some (.slice ka kn kc)) from fun h => ⟨h.cell 0, h.cell 1, h.cell 2, h.cell 3, h.cell 4, h.cell 5⟩);obtain ⟨x0, x1, x2, x3, x4, x5⟩ := jH.out (HI.out w1 kZ0).2.2.1;obtain ⟨y0, y1, y2, y3, y4, y5⟩ := ik.out (HI.out w1 kZ0).2.2.2.1;have fw := (show Hid (∀ wx, Same w1 wx → _) from fun wx hx => jbB lo M gp gf gl st.up rv rs tv (.slice la ln lc) st.told hc cv cs wx (HI.out wx hx).1 ((HI.out wx hx).2.1.none (HI.out wx hx).2.1.cut) cO HE.out.2.2.2.2);have AX := (show Hid ((⟨false, jZ9 rs, [], [], 0, TU cs⟩ : PlS) = Vo st) from by rw [HE.out.1, HE.out.2.2.2.1]; rfl)
 by_cases k10 : kd = 10
 case pos =>
  as_aux_lemma =>
  have HP := (show Hid (RP = ifB (fi 0) (Vo st)) from by show RP = _; rw [← bj.out, EC.out]; unfold VD; rw [if_pos k10]);have kD := fw.out w1 kZ0;have kB := (show Hid (∀ wx : World, _) from gZ.out 0);obtain ⟨b0, bR⟩ : ∃ z, fi 0 = z := ⟨_, rfl⟩;rw [bR] at HP kB;clear bR yL;subst k10
  go_wp2_with fail
  refine kD.mono ?_;rintro e w2 ⟨rfl, dP, ae⟩;rw [AX.out] at dP;have iI := hid dP;have ap := hid ae;have i6 := hid ((HI.out w1 kZ0).2.2.2.1.onG (X6 (by decide) (by decide) (by decide)) ae.1);clear kD dP ae x0 x1 x2 x3 x4 x5 y0 y1 y2 y3 y4 y5;obtain ⟨y0, y1, y2, y3, y4, y5⟩ := ik.out i6.out
  go_wp2_with fail
  refine (kB.out w2).mono ?_;rintro e w3 ⟨rfl, ar⟩
  have HR := (show Hid (OutS lo M gp gf gl w w3 (.returned (.bool b0)) RP) from by
   rw [HP.out]
   exact ⟨by rw [Xj], fun cJ e => by rw [← (Ui e).2]; exact iI.out.same ar, ((SpK.same (HI.out w1 kZ0).2.2.2.2.2).trans ap.out).trans (SpK.same ar)⟩)
  clear kB ar;go_wp2;go_ret;exact HR.out
 have Ld : (kd == 10) = false := by simp [k10]
 by_cases k11 : kd = 11
 case pos =>
  as_aux_lemma =>
  have HP := (show Hid (RP = ifB (fi 0) st) from by show RP = _; rw [← bj.out, EC.out]; unfold VD; rw [if_neg k10, if_pos k11]);have kB := gZ.out 0 w1;obtain ⟨b0, bR⟩ : ∃ z, fi 0 = z := ⟨_, rfl⟩;rw [bR] at HP kB;clear bR yL;subst k11
  go_wp2_with fail
  refine kB.mono ?_;rintro e w2 ⟨rfl, ae⟩;have HR := hid (mR.out b0 w2 ae HP.out);clear kB ae;go_wp2;go_ret;exact HR.out
 have SD : (kd == 11) = false := by simp [k11]
 by_cases k9 : kd = 9
 case pos =>
  as_aux_lemma =>
  have kR := cM.out w1 (HI.out w1 kZ0).2.2.2.2.2
  have e : UH st (cd, tx, rid, db, jZ9 qs, us) = RP := by rw [← bj.out]; unfold VD; rw [if_neg k10, if_neg k11, if_pos k9]
  rw [e] at kR;clear e yL;subst k9
  go_wp2_with fail
  refine kR.mono ?_;rintro e w2 ⟨rfl, dP, ae⟩;have HR := (show Hid (OutS lo M gp gf gl w w2 (.returned (.bool RP.isSome)) RP) from ⟨rfl, dP, (SpK.same (HI.out w1 kZ0).2.2.2.2.2).trans ae⟩);clear kR dP ae;generalize RP.isSome = bz at HR ⊢;go_wp2;go_ret;exact HR.out
 have q9 : (kd == 9) = false := by simp [k9]
 have m3 := Blk.cell (HI.out w1 kZ0).1 3;simp only [List.getElem?_cons_zero, List.getElem?_cons_succ] at m3;have IK := (show Hid (kd ≤ 8) from by have := jO.out; show kd ≤ 8; omega);obtain ⟨up, cL⟩ : ∃ z, st.up = z := ⟨_, rfl⟩;rw [cL] at m3;have nu := hid cL;clear cL
 cases up
 case false =>
  as_aux_lemma =>
  have HP := (show Hid (RP = ifB (fi 1) st) from by show RP = _; rw [← bj.out, EC.out]; unfold VD; rw [if_neg k10, if_neg k11, if_neg k9, if_pos nu.out]);have kB := gZ.out 1 w1;obtain ⟨b0, bR⟩ : ∃ z, fi 1 = z := ⟨_, rfl⟩;rw [bR] at HP kB;clear bR yL
  go_wp2_with fail
  refine kB.mono ?_;rintro e w2 ⟨rfl, ae⟩;have HR := hid (mR.out b0 w2 ae HP.out);clear kB ae;go_wp2;go_ret;exact HR.out
 have kB := gZ.out 1 w1
 have HP := (show Hid (RP = if fi 1 = true then some (UC st (kd, stx, ah, cnt, sd, kb)) else X5 gp st (kd, stx, ah, cnt, sd, kb) (cd, tx, rid, db, jZ9 qs, us)) from by
  show RP = _
  rw [← bj.out, EC.out];unfold VD
  rw [if_neg k10, if_neg k11, if_neg k9, if_neg (by rw [nu.out]; decide)])
 obtain ⟨b1, cW⟩ : ∃ z, fi 1 = z := ⟨_, rfl⟩;rw [cW] at HP kB;clear cW yL bj EC
 go_wp2_with fail
 refine kB.mono ?_;rintro e w2 ⟨rfl, ae⟩;have ap := hid ae;clear kB ae x0 x1 x2 x3 x4 x5 y0 y1 y2 y3 y4 y5 m3;obtain ⟨x0, x1, x2, x3, x4, x5⟩ := jH.out (HI.out w2 ap.out).2.2.1;obtain ⟨y0, y1, y2, y3, y4, y5⟩ := ik.out (HI.out w2 ap.out).2.2.2.1
 cases b1
 case false =>
  as_aux_lemma =>
  have kC := pW.out w2 (HI.out w2 ap.out).2.2.2.2.2 IK.out
  have e : X5 gp st (kd, stx, ah, cnt, sd, kb) (cd, tx, rid, db, jZ9 qs, us) = RP := by rw [HP.out]; rfl
  rw [e] at kC;clear e
  go_wp2_with fail
  refine kC.mono ?_;rintro e w3 ⟨rfl, lF, ar⟩;have HR := (show Hid (OutS lo M gp gf gl w w3 (.returned (.bool RP.isSome)) RP) from ⟨rfl, lF, (SpK.same (HI.out w2 ap.out).2.2.2.2.2).trans ar⟩);clear kC lF ar;generalize RP.isSome = bz at HR ⊢;go_wp2;go_ret;exact HR.out
 have eJ := (show Hid (∀ w', SpS w' lo M gp gf gl (UC st (kd, stx, ah, cnt, sd, kb)) → SpK lo w w' → OutS lo M gp gf gl w w' (.returned (.bool true)) RP) from fun w' h1 h2 => by
  rw [HP.out]
  exact ⟨rfl, fun cJ e => by cases e; exact h1, h2⟩)
 have kF := jaq M tv ts stx w2 (Blk.cell (HI.out w2 ap.out).1 5) (YN (HI.out w2 ap.out).2.1.trow);have sq := hid (Yb stx ts 0);obtain ⟨fx, BV⟩ : ∃ z, Wm stx 0 ts = z := ⟨_, rfl⟩;rw [BV] at kF sq;clear BV HP pW cM
 go_wp2_with fail
 refine kF.mono ?_;rintro e w3 ⟨rfl, ar⟩;have ax := hid (ap.out.trans ar);clear kF ar x0 x1 x2 x3 x4 x5 y0 y1 y2 y3 y4 y5;obtain ⟨x0, x1, x2, x3, x4, x5⟩ := jH.out (HI.out w3 ax.out).2.2.1
 by_cases k6 : kd = 6
 case neg =>
  as_aux_lemma =>
  have q6 : (kd == 6) = false := by simp [k6]
  have m2 := (show Hid (Vo st = UC st (kd, stx, ah, cnt, sd, kb)) from by show Vo st = _; unfold UC; rw [if_neg k6]);have kD := fw.out w3 ax.out
  go_wp2_with fail
  refine kD.mono ?_;rintro e w4 ⟨rfl, jN, aM⟩;rw [AX.out, m2.out] at jN;have HR := hid (eJ.out w4 jN ((SpK.same (HI.out w3 ax.out).2.2.2.2.2).trans aM));clear kD jN aM;go_wp2;go_ret;exact HR.out
 rcases sq.out with ⟨l0, fp⟩ | ⟨k, hk, l0, fp, zX⟩
 ·have m2 := (show Hid (Vo st = UC st (kd, stx, ah, cnt, sd, kb)) from by
   unfold UC;rw [HE.out.2.1] at fp;rw [if_pos k6, fp]
   rfl)
  subst l0 k6;have kD := fw.out w3 ax.out;clear fp sq
  go_wp2_with fail
  refine kD.mono ?_;rintro e w4 ⟨rfl, jN, aM⟩;rw [AX.out, m2.out] at jN;have HR := hid (eJ.out w4 jN ((SpK.same (HI.out w3 ax.out).2.2.2.2.2).trans aM));clear kD jN aM;go_wp2;go_ret;exact HR.out
 have m2 := (show Hid ((⟨false, jZ9 rs, [], [], 0, TU ts[k].ps⟩ : PlS) = UC st (kd, stx, ah, cnt, sd, kb)) from by
  unfold UC;rw [HE.out.2.1] at zX;rw [if_pos k6, zX, HE.out.1]
  rfl)
 have GZ : fx = (k : Int) := by rw [l0]; simp
 subst GZ k6;clear l0 fp zX sq fw AX;have Cq := hid (HI.out w3 ax.out).2.1.trow;have tL := hid ((HI.out w3 ax.out).2.1.wr ts[k] (List.getElem_mem hk))
 obtain ⟨ta, n, c, rfl⟩ : ∃ ta n c, tv = .slice ta n c := by
  obtain ⟨a, c, e⟩ := (YN Cq.out).form;exact ⟨a, _, c, e⟩
 obtain ⟨tb, rfl, hn⟩ : ∃ tb, ta = some ⟨tb, 0, none⟩ ∧ n = ts.length := by
  rcases Cq.out.2 with ⟨e, h1⟩ | ⟨g, _, _, e, _⟩
  ·omega
  ·injection e with e e2 _
   exact ⟨g, e, e2⟩
 have IV : k < n := by omega
 have Ro : (k : Int) < (n : Int) := by omega
 obtain ⟨wv, xY⟩ : ∃ z, ts[k].v = z := ⟨_, rfl⟩
 have d1 : w3.cell? ⟨tb, k * 2 + 1, none⟩ = some wv := by
  rw [← xY];exact VE (K := kTx) Cq.out k 1 hk (by decide)
 obtain ⟨wa, wn, wc, cC⟩ : ∃ wa wn wc, wv = .slice wa wn wc := by
  obtain ⟨a, c, e⟩ := tL.out.form;exact ⟨a, _, c, by rw [← xY]; exact e⟩
 subst cC;have bR := (HI.out w3 ax.out).1;unfold SpB at bR;have c5 := bR.cell 5;have c8 := bR.cell 8;have c9 := bR.cell 9;simp only [List.getElem?_cons_zero, List.getElem?_cons_succ] at c5 c8 c9;have fz := bR.frozen
 have Qj : tb ≠ M := fun e => Un bR Cq.out (by decide) tb (by simp [Value.ownBlock]) e
 have SQ : M ≠ tb := fun e => Qj e.symm;have D3 := (show Hid (SpB ((w3.setCell ⟨M, 8, none⟩ (.bool true)).setCell ⟨M, 9, none⟩ (.slice wa wn wc)) M gp gf gl st.up rv (Q4 tb n c) (.slice la ln lc) st.told true (.slice wa wn wc)) from (bR.stored 8 (.bool true)).stored 9 (.slice wa wn wc));have aM : Kept (fun b => b = M) w3 ((w3.setCell ⟨M, 8, none⟩ (.bool true)).setCell ⟨M, 9, none⟩ (.slice wa wn wc)) := Kept.setCell (R := fun b => b = M) (Kept.setCell (R := fun b => b = M) kZ0 (p := ⟨M, 8, none⟩) (.inr rfl) _) (p := ⟨M, 9, none⟩) (.inr rfl) _;have zh := hid (((HI.out w3 ax.out).2.1.none (by have h := tL.out; rw [xY] at h; exact h)).box bR aM);have Ll := (show Hid (Kept (fun b => lo ≤ b) w3 ((w3.setCell ⟨M, 8, none⟩ (.bool true)).setCell ⟨M, 9, none⟩ (.slice wa wn wc))) from aM.mono (fun b _ e => by rw [e]; exact cO));clear bR aM xY tL Cq hn
 go_wp2_with fail
 generalize (w3.setCell ⟨M, 8, none⟩ (.bool true)).setCell ⟨M, 9, none⟩ (.slice wa wn wc) = w4 at D3 zh Ll ⊢;have kD := jbB lo M gp gf gl st.up rv rs _ _ st.told true _ ts[k].ps w4 D3.out zh.out.1 cO (fun h => by cases h);refine kD.mono ?_;rintro e w5 ⟨rfl, mN, aP⟩;rw [m2.out] at mN;have HR := hid (eJ.out w5 mN (((SpK.same (HI.out w3 ax.out).2.2.2.2.2).trans ⟨zh.out.2, Ll.out⟩).trans aP));clear kD mN aP;go_wp2;go_ret;exact HR.out
theorem jaN {P : Program} {o : Oper} {f : Operand → Value} {w : World} {ty : TypeId} (lp : List (Nat × Operand)) (lv : List (Nat × Value)) {v : Value} (ho : o.op = .build ty lp.toArray) (hv : lp.map (fun x => (x.1, f x.2)) = lv) (hr : (Instr.build ty lv.toArray).run P w = .ok v w) : (execOp f o).run P w = .ok (.value v) w := by
 have e : (lp.toArray.map fun x => (x.1, f x.2)) = lv.toArray := by rw [List.map_toArray, hv]
 unfold execOp;simp only [ho]
 show Sem.run P (do pure (Next.value (← Instr.build ty (lp.toArray.map fun x => (x.1, f x.2))))) w = _
 rw [e];simp only [Sem.run_bind, hr, Result.andThen_ok, Sem.run_pure]
structure EOu where
 cd : Int
 tx : Int
 rid : Int
 da : Option Addr
 dn : Nat
 dc : Nat
 db : List Int
 ra : Option Addr
 rn : Nat
 rc : Nat
 rs : List EHeapRecord
 fid : FuncId
 fb : List Value
 fc : List Value
 st : PlS
def EOu.cells (x : EOu) : List Value := [V x.cd, V x.tx, V x.rid, .slice x.da x.dn x.dc, .slice x.ra x.rn x.rc, V 0, .func (.func x.fid) x.fb.toArray x.fc.toArray]
def kOu : RowK EOu := ⟨7, EOu.cells, fun _ => rfl, fun _ => V0, fun _ => []⟩
def EOu.dat (x : EOu) : AnD × PlS := ((x.cd, x.tx, x.rid, x.db, jZ9 x.rs, 0), x.st)
def Go (o : Obj) : Prop := ∃ cs, o = .cells cs 124 (0, 0)
theorem jb7 {e : TypeId} (h1 : e ≠ 124) (cs : Array Value) : ¬ Go (.cells cs e (0, 0)) := fun ⟨Az, h⟩ => by injection h with _ h _; exact h1 h
def OuK (lo : Nat) (w w' : World) : Prop := KO Go w w' ∧ Kept (fun b => lo ≤ b) w w'
theorem OuK.refl (lo : Nat) (w : World) : OuK lo w w := ⟨KO.refl _ _, kZ0⟩
theorem OuK.same {lo : Nat} {w w' : World} (h : Same w w') : OuK lo w w' := ⟨KO.same h, h.mono (fun _ _ e => e.elim)⟩
theorem OuK.trans {lo : Nat} {w w1 w2 : World} (h : OuK lo w w1) (h2 : OuK lo w1 w2) : OuK lo w w2 := ⟨h.1.trans h2.1, h.2.trans h2.2⟩
theorem OuK.blk {lo : Nat} {w w' : World} {B : Nat} {e : TypeId} {xs : List Value} (hk : OuK lo w w') (h : Blk w B e xs) (h1 : e ≠ 124) : Blk w' B e xs := h.onG (jb7 h1) hk.1
theorem OuK.map {lo : Nat} {w w' : World} {B ck : Nat} {kv : List KV} (hk : OuK lo w w') (h : MapB w B kv ck) : MapB w' B kv ck := h.kept hk.1 (fun ⟨o, ho, cs, hg⟩ => by
 unfold MapB at h;rw [h] at ho
 injection ho with ho
 subst ho
 cases hg)
theorem PmN.onO {w w' : World} {lo : Nat} {x : PmX} (h : PmN w lo x) (hk : OuK lo w w') : PmN w' lo x := by
 have hP : ∀ {v : Value} {ps : List EWr}, OwP lo w v ps → OwP lo w' v ps := fun ho => ⟨Zt ho.row (jb7 (by decide)) hk.1, fun p hp => (ho.data p hp).onL hk.2⟩
 exact ⟨hk.map h.com, h.cok, fun e he => (h.cd e he).onL hk.2, hk.map h.txn, h.tok, fun t ht => hk.blk (h.tb t ht) (by decide), h.tg, fun t ht => hP (h.tw t ht), h.ta, ⟨hk.map h.lk.out, h.lk.ok, fun e he => hk.map (h.lk.inn e he), h.lk.iok, h.lk.low, h.lk.lows, h.lk.blks, h.lk.ne⟩, h.full, hP h.cut, h.cT, h.cB, h.tB, h.ne, h.loC, h.loT, h.lot, h.ucv⟩
theorem PmI.onO {w w' : World} {lo M : Nat} {gp gf gl : Int} {x : PmX} (h : PmI w lo M gp gf gl x) (hk : OuK lo w w') : PmI w' lo M gp gf gl x := ⟨hk.blk h.box (by decide), h.n.onO hk, h.loM⟩
def WM (w : World) (lo M : Nat) (gp gf gl : Int) (fid : FuncId) (args : Array Value) (st : PlS) : Prop := Ur fid ∧ ∀ wx, OuK lo w wx → Calls Tryz.prog fid args wx fun e w' => e = .returned (.tuple #[]) ∧ PmS w' lo M gp gf gl st ∧ PmK lo wx w'
structure OutI (w : World) (lo M : Nat) (gp gf gl : Int) (o : EOu) : Prop where
 data : RdL lo w (.slice o.da o.dn o.dc) o.db
 dlen : o.db.length = o.dn
 recs : OwnR kHeapRecord 0 79 5 w (.slice o.ra o.rn o.rc) o.rs
 thn : WM w lo M gp gf gl o.fid (o.fb.toArray ++ o.fc.toArray) o.st
theorem OutI.on {w w' : World} {lo M : Nat} {gp gf gl : Int} {o : EOu} (h : OutI w lo M gp gf gl o) (hk : OuK lo w w') : OutI w' lo M gp gf gl o :=
 ⟨h.data.onL hk.2, h.dlen, h.recs.onG (jb7 (by decide)) (jb7 (by decide)) hk.1, h.thn.1, fun wx hx => h.thn.2 wx (hk.trans hx)⟩
structure OuI (w0 w : World) (lo M : Nat) (gp gf gl : Int) (v : Value) (os : List EOu) : Prop where
 row : w.ownsRow 0 124 7 v os.length (kOu.all os)
 new : ∀ b, v.ownBlock = some b → w0.heap.size ≤ b
 each : ∀ o ∈ os, OutI w lo M gp gf gl o
 same : Same w0 w
def OuL (lo M : Nat) (gp gf gl : Int) (w w' : World) (e : Ending) (L : List (AnD × PlS)) : Prop := ∃ (a : Option Addr) (n c : Nat) (os : List EOu), e = .returned (.slice a n c) ∧ os.map EOu.dat = L ∧ OuI w w' lo M gp gf gl (.slice a n c) os
section
variable {w0 w w' : World} {lo M : Nat} {gp gf gl : Int}
theorem OuI.on {v : Value} {os : List EOu} (h : OuI w0 w lo M gp gf gl v os) (hk : Same w w') : OuI w0 w' lo M gp gf gl v os := ⟨hk.owns h.row (fun _ _ e => e), h.new, fun o ho => (h.each o ho).on (OuK.same hk), h.same.trans hk⟩
theorem OuI.nil (hk : Same w0 w) : OuI w0 w lo M gp gf gl (V0) [] := ⟨⟨by simp [RowK.all], .inl ⟨rfl, rfl⟩⟩, fun b hb => by simp [Value.ownBlock] at hb, fun o ho => by simp at ho, hk⟩
theorem OuI.made {Y : Nat} {os : List EOu} (hk : Same w0 w) (hY : w0.heap.size ≤ Y) (hb : Blk w Y 124 (kOu.all os)) (hl : os.length ≤ 1000) (he : ∀ o ∈ os, OutI w lo M gp gf gl o) : OuI w0 w lo M gp gf gl (Q4 Y os.length os.length) os := by
 have MV : (kOu.all os).length = os.length * 7 := kOu.all_length os;refine ⟨⟨MV, .inr ⟨Y, os.length, (kOu.all os).toArray, rfl, Nat.zero_le _, hb, Nat.le_refl _, by unfold maxLen; omega, by simp [MV], ?_⟩⟩, fun b hb => ?_, he, hk⟩
 ·rw [List.toList_toArray, List.take_of_length_le (by omega)]
 ·have e : Y = b := (by simpa [Value.ownBlock] using hb)
  omega
theorem OuI.app {v : Value} {os us : List EOu} {gF n cF : Nat} (h : OuI w0 w lo M gp gf gl v os) (hu : ∀ o ∈ us, OutI w lo M gp gf gl o) (cN : lo ≤ w0.heap.size) (aX : w'.ownsRow 0 124 7 (Q4 gF n cF) (os ++ us).length (kOu.all (os ++ us))) (hk : Kept (fun b => v.ownBlock = some b) w w') (bU : v.ownBlock = some gF ∨ w.heap.size ≤ gF) : OuI w0 w' lo M gp gf gl (Q4 gF n cF) (os ++ us) := by
 have hK : OuK lo w w' := ⟨KO.of hk (fun b _ e => by
  obtain ⟨c1, hc⟩ := UM h.row e
  exact ⟨_, hc, c1, rfl⟩), hk.mono (fun b _ e => by have := h.new b e; omega)⟩
 refine ⟨aX, fun b hb => ?_, fun o ho => ?_, h.same.next hk (fun i hi e => by have := h.new i e; omega)⟩
 ·have e : gF = b := (by simpa [Value.ownBlock] using hb)
  subst e
  rcases bU with e | e
  ·exact h.new _ e
  ·have := h.same.size
   omega
 ·rcases List.mem_append.1 ho with ho | ho
  ·exact (h.each o ho).on hK
  ·exact (hu o ho).on hK
end
theorem jbb (w : World) (ty : TypeId) (fa : Option Addr) (fn fc : Nat) (dW : fn ≤ fc) (xa : Option Addr) (cx : Nat) : (Builtin.append_ #[121, 121] ty #[.slice fa fn fc, .slice xa 0 cx]).run Tryz.prog w = .ok (.slice fa fn fc) w := by
 obtain ⟨i0, hi, br, aT, bv⟩ := info_parts Tryz.infoOu
 cases xa with
 | none => cases fa <;> simp [Builtin.append_, run_underlying Tryz.underlying121, Go.sizeOf, typeInfo, hi, dW, storeCells, Result.andThen, go_sem]
 | some ad =>
  have hs : Src Tryz.prog i0.size 121 (.slice (some ad) 0 cx) 0 [] w := Src.ofSlice w (size := i0.size) Tryz.underlying121 ad 0 cx [] (by simp) (fun j u hu => by simp at hu) (fun u hu => by simp at hu)
  cases fa <;> simp [Builtin.append_, run_underlying Tryz.underlying121, Go.sizeOf, typeInfo, hi, hs.len, dW, hs.cells, storeCells]
theorem jgg : ∀ {us : List EOu}, ∀ u ∈ kOu.all us, u.oneCell' = true
 | [], u, hu => by simp [RowK.all] at hu
 | t :: us, u, hu => by
  rcases List.mem_append.1 (show u ∈ kOu.cells t ++ kOu.all us from hu) with hu | hu
  ·simp [kOu, EOu.cells] at hu
   rcases hu with rfl | rfl | rfl | rfl | rfl | rfl | rfl <;> rfl
  ·exact jgg u hu
theorem XM {w0 w : World} {lo M : Nat} {gp gf gl : Int} {ops : Array Oper} {o : Oper} {a : Act} {K : Act → World → Prop} {Q : Exit → Act → World → Prop} {E : Prop} (dY : o.guard = none) (s x : Operand)
  (ho : o.op = .call { callee := .builtin .append, args := #[s, x], argTypes := #[121, 121] }) {fa : Option Addr} {fn fc : Nat} {os us : List EOu} {xa : Option Addr} {m cx : Nat} (hs : a.eval s = .slice fa fn fc) (hx : a.eval x = .slice xa m cx)
  (hO : OuI w0 w lo M gp gf gl (.slice fa fn fc) os) (hU : w.ownsRow 0 124 7 (.slice xa m cx) us.length (kOu.all us)) (hu : ∀ o ∈ us, OutI w lo M gp gf gl o) (cN : lo ≤ w0.heap.size) (hq : os.length + us.length ≤ 100000)
  (h : ∀ fq fe fh w', OuI w0 w' lo M gp gf gl (.slice fq fe fh) (os ++ us) → OuK lo w w' → K (a.put o.dst (.slice fq fe fh)) w') :
  if Region.wanted o (yielded ops a.tmps) = true then Oper.wp Tryz.prog o a w K Q else E := by
 obtain ⟨i0, hi, br, aT, bv⟩ := info_parts Tryz.infoOu
 have Nt : ∀ {v : Value} {a : Option Addr} {n c : Nat} {l : List EOu}, w.ownsRow 0 124 7 (.slice a n c) l.length (kOu.all l) → n = l.length ∧ n ≤ c := fun hW => by
  rcases hW.2 with ⟨e, h1⟩ | ⟨_, _, _, e, _, _, hc, _⟩
  ·injection e with _ e e2
   rw [e, h1];exact ⟨rfl, Nat.zero_le _⟩
  ·injection e with _ e e2
   exact ⟨e, by omega⟩
 have eS := Nt (v := V0) hO.row;have Km := Nt (v := V0) hU
 by_cases h0 : m = 0
 ·subst h0
  have rh : us = [] := List.length_eq_zero_iff.1 Km.1.symm;subst rh;refine Xn dY s x 121 121 ho _ _ hs hx _ _ (jbb w _ fa fn fc eS.2 xa cx) ?_;exact h fa fn fc w (by rw [List.append_nil]; exact hO) (OuK.refl _ _)
 have hW := hO.row;rw [← eS.1] at hW
 obtain ⟨g, rfl⟩ : ∃ g, xa = some ⟨g, 0, none⟩ := by
  rcases hU.2 with ⟨e, h1⟩ | ⟨g, _, _, e, _⟩
  ·injection e with _ e2 _
   omega
  ·injection e with e _ _
   exact ⟨g, e⟩
 have bE : ∀ j u, (kOu.all us)[j]? = some u → w.cell? ((⟨g, 0, none⟩ : Addr).add j) = some u := fun j u hu => by
  rcases hU.2 with ⟨e, _⟩ | ⟨g', cap, cur, hv, hb, lO, hc, hm, hs, ht⟩
  ·cases e
  ·injection hv with a1 a2 a3
   injection a1 with a1
   injection a1 with a1
   subst a1;rw [← ht, List.getElem?_take] at hu
   split at hu
   ·have h2 := World.news_of_block lO j u hu
    simpa [Addr.add_lit] using h2
   ·cases hu
 refine step_append_lies (P := Tryz.prog) w dY s x 121 ho 0 124 i0 _ 7 88 Tryz.underlying121 hi br aT bv rfl (by omega) (.slice fa fn fc) fn (kOu.all os) hs hW ⟨g, 0, none⟩ m cx (kOu.all us) hx (by rw [kOu.all_length us, Km.1]; rfl) bE jgg (by omega) (by unfold maxLen; omega) (by omega) (Nat.zero_le _) w.heap.size rfl ?_;intro gF cF w' bh hg bU aG;have hk : Kept (fun b => (Value.slice fa fn fc).ownBlock = some b) w w' := Kept.of_grown hg (fun k e => e)
 refine h _ _ cF w' (hO.app hu cN (by rw [kOu.all_append, List.length_append, ← eS.1, ← Km.1]; exact bh) hk ?_) ⟨KO.of hk (fun b _ e => by
  obtain ⟨c1, hc⟩ := UM hO.row e
  exact ⟨_, hc, c1, rfl⟩), hk.mono (fun b _ e => by have := hO.new b e; omega)⟩
 rcases bU with e | e
 ·exact .inl e
 ·exact .inr (by omega)
theorem jgh (w : World) : Calls Tryz.prog 95 #[] w fun e w' => e = .returned (.tuple #[]) ∧ w' = w := by
 go_enter Tryz.func95, Tryz.ntmps95
 go_wp2;exact bodyPost_end (results_none Tryz.results95 _ _ _) rfl ⟨rfl, rfl⟩
theorem jc1 : Ur 95 := fun args wx => by simp [callFunc, go_sem, Tryz.func95, Tryz.f95]
def Vy (c : Int) (st : PlS) : EOu := ⟨c, 0, 0, none, 0, 0, [], none, 0, 0, [], 95, [], [], st⟩
def Us (c : Int) (st : PlS) : AnD × PlS := ((c, 0, 0, [], [], 0), st)
theorem Vi {w : World} {lo M : Nat} {gp gf gl : Int} {x : PmX} {st : PlS} (h : PmI w lo M gp gf gl x) (hd : PmD x st) (c : Int) : OutI w lo M gp gf gl (Vy c st) :=
 ⟨Vx _ _, rfl, OwnR.nil _ _ _ _ _, jc1, fun wx hx => (jgh wx).mono (fun e w' ⟨h1, h2⟩ => ⟨h1, by rw [h2]; exact ⟨x, h.onO hx, hd⟩, by rw [h2]; exact PmK.refl _ _⟩)⟩
theorem U6 (c : Int) (w : World) : Calls Tryz.prog 97 #[V c] w fun e w' => e = .returned (.agg #[V c, V 0, V 0, V0, V0, V 0, .func (.func 95) #[] #[]]) ∧ Same w w' := by
 have hb := Blk.newL w [V 0, V 0, V 0, V0, V0, V 0, .nilFunc] 124;have hk : Same w (w.alloc (.cells #[V 0, V 0, V 0, V0, V0, V 0, .nilFunc] 124)) := kZ0.alloc _;obtain ⟨Z, hZ⟩ : ∃ Z, w.heap.size = Z := ⟨_, rfl⟩;rw [hZ] at hb;have HZ := (show Hid (w.heap.size ≤ Z) from Nat.le_of_eq hZ);have b2 := XL;have a0 := jac
 go_enter Tryz.func97, Tryz.ntmps97
 go_upto_region 1 with fail
 try rw [hZ]
 generalize w.alloc (.cells #[V 0, V 0, V 0, V0, V0, V 0, .nilFunc] 124) = w1 at hb hk ⊢;have HK := hid hk;refine wp_region_lit (l := [_, _, _, _]) ?_;refine UJ (v := V c) (w' := w1) rfl (by rfl) ?_;refine UJ (v := .agg #[V c, V 0, V 0, V0, V0, V 0]) (w' := w1) rfl (jaN [(0, .tmp 3)] [(0, V c)] rfl rfl (jac w1 c)) ?_;refine UJ (v := .agg #[V c, V 0, V 0, V0, V0, V 0, .func (.func 95) #[] #[]]) (w' := w1) rfl (jaN [(0, .tmp 4), (1, .func 95)] [(0, .agg #[V c, V 0, V 0, V0, V0, V 0]), (1, .func (.func 95) #[] #[])] rfl rfl (XL w1 _ _ _ _ _ _ _ _ _)) ?_;refine wpList_store_mid rfl 124 (.tmp 2) (.tmp 5) rfl Z 0 #[V c, V 0, V 0, V0, V0, V 0, .func (.func 95) #[] #[]] rfl rfl (hb.there 0 7 (by decide)) (by kernel_rfl) (by simp [Value.oneCell']) ?_;have aV := jc0 hb [V c, V 0, V 0, V0, V0, V 0, .func (.func 95) #[] #[]] rfl;have ae : Same w (w1.setCells Z 0 [V c, V 0, V 0, V0, V0, V 0, .func (.func 95) #[] #[]]) := Kept.setCells (.inl HZ.out) _ _ hk;clear hb hk hZ HK HZ;generalize w1.setCells Z 0 [V c, V 0, V 0, V0, V0, V 0, .func (.func 95) #[] #[]] = w9 at aV ae;have bK := hid aV;have ap := hid ae;clear aV ae;go_wp2;exact bodyPost_ret (v := .agg [V c, V 0, V 0, V0, V0, V 0, .func (.func 95) #[] #[]].toArray) (jhG Tryz.results97 rfl bK.out.rangeAll Tryz.underlying124 rfl (by kernel_rfl)) rfl ⟨rfl, ap.out⟩
end Go.Proofs.YtljfcdkhicffcaaGreat
