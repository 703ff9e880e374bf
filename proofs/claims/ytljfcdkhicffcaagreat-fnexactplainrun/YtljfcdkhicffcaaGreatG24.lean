import Derived.Test.YtljfcdkhicffcaaGreatG23
namespace Go.Proofs.YtljfcdkhicffcaaGreat
set_option maxRecDepth 100000
set_option maxHeartbeats 8000000
set_option linter.unusedVariables false
set_option linter.unusedSimpArgs false
open Go Go.RowKit Go.MapKept
theorem jd6 : Ur 136 := fun args wx => by simp [callFunc, go_sem, Tryz.func136, Tryz.f136]
theorem jd7 {w : World} {lo M : Nat} {gp gf gl : Int} {x : PmX} {st : PlS} {A B : Nat} {t : Int} (h : PmI w lo M gp gf gl x) (hd : PmD x st) (hA : Blk w A 83 [Q3 M 0]) (hB : Blk w B 2 [V t]) (hn : ∀ y ∈ x.te, y.id ≠ t) : WM w lo M gp gf gl 136 #[Q3 A 0, Q3 B 0] { st with told := t, txns := st.txns ++ [(t, [])] } := by
 refine ⟨jd6, fun wx hk => ?_⟩;have a0 := (hk.blk hA (by decide)).c0;have b0 := (hk.blk hB (by decide)).c0;have kB := jdU lo M gp gf gl x t wx (h.onO hk) hn;have HD := (show Hid (PmD { x with lt := t, te := x.te ++ [⟨t, wx.heap.size, V0, [], x.tk⟩], tk := x.tk + 1 } { st with told := t, txns := st.txns ++ [(t, [])] }) from ⟨hd.recs, by rw [List.map_append]; exact List.Perm.append hd.txns (List.Perm.refl _), hd.locks, hd.cut, hd.up, fun _ => rfl⟩);clear h hd hA hB hn hk
 go_enter Tryz.func136, Tryz.ntmps136
 go_wp2_with fail
 refine kB.mono ?_;rintro e w2 ⟨rfl, h2, ae⟩;have HR := (show Hid (PmS w2 lo M gp gf gl { st with told := t, txns := st.txns ++ [(t, [])] } ∧ PmK lo wx w2) from ⟨⟨_, h2, HD.out⟩, ae⟩);clear kB h2 ae HD;go_wp2;exact bodyPost_end (results_none Tryz.results136 _ _ _) rfl ⟨rfl, HR.out⟩
def Wh (st : PlS) (t : Int) : List (AnD × PlS) := if 8 ≤ st.txns.length then [Us 9 st] else if (decide (1 ≤ t) && decide (t ≤ 2147483647)) = false ∨ t ≤ st.told then [] else [((0, t, 0, [], [], 0), { st with told := t, txns := st.txns ++ [(t, [])] })]
theorem jbc (lo M : Nat) (gp gf gl : Int) (x : PmX) (st : PlS) (t : Int) (w : World) (h : PmI w lo M gp gf gl x) (hd : PmD x st) (cL : st.up = true) (I9 : ∀ y ∈ st.txns, y.1 ≤ st.told) (h8 : st.txns.length ≤ 8) :
  Calls Tryz.prog 120 #[Q3 M 0, V t] w fun e w' => OuL lo M gp gf gl w w' e (Wh st t) := by
 have az : (x.te.map ETp.kv).length = st.txns.length := by have := hd.txns.length_eq; simpa using this
 have aG := hd.lt cL
 have ks := (show Hid (st.told < t → ∀ y ∈ x.te, y.id ≠ t) from fun h1 y hy => by
  have := I9 y.dat (hd.txns.subset (List.mem_map_of_mem hy));have e : y.dat.1 = y.id := rfl
  omega)
 have H := hid h;have HD := hid hd;have fF := Blk.newA w [Q3 M 0] 83 [V t] 2;have Br := Blk.newB w [Q3 M 0] 83 [V t] 2;have bT : Same w ((w.alloc (.cells #[Q3 M 0] 83)).alloc (.cells #[V t] 2)) := (kZ0.alloc _).alloc _;obtain ⟨X, aQ⟩ : ∃ X, w.heap.size = X := ⟨_, rfl⟩;rw [aQ] at fF Br;obtain ⟨L, hL⟩ : ∃ n, st.txns.length = n := ⟨_, rfl⟩;obtain ⟨RP, bS⟩ : ∃ z, Wh st t = z := ⟨_, rfl⟩;rw [bS]
 have bj := (show Hid (RP = if 8 ≤ L then [Us 9 st] else if (decide (1 ≤ t) && decide (t ≤ 2147483647)) = false ∨ t ≤ st.told then [] else [((0, t, 0, [], [], 0), { st with told := t, txns := st.txns ++ [(t, [])] })]) from by
  show RP = _
  rw [← bS];unfold Wh
  rw [hL])
 rw [hL] at az h8;have bH := hid az;have cN := h.size;obtain ⟨tl, BA⟩ : ∃ z, st.told = z := ⟨_, rfl⟩;rw [BA] at aG ks bj;clear h hd az hL bS I9 BA
 go_enter Tryz.func120, Tryz.ntmps120
 go_upto_region 1 with fail
 try rw [aQ]
 try rw [World.size_alloc, aQ]
 generalize (w.alloc (.cells #[Q3 M 0] 83)).alloc (.cells #[V t] 2) = w1 at fF Br bT ⊢;have gh := hid fF;have gk := hid Br;have ao := hid bT;have H1 := hid (H.out.same bT);have PY := (show Hid (w.heap.size = X) from aQ);clear fF Br bT H aQ;have x0 := gh.out.c0;have m6 := H1.out.box.cell 6;simp only [PmC, List.getElem?_cons_zero, List.getElem?_cons_succ] at m6;have dW := run_len_map (P := Tryz.prog) (T := 88) (ty := 3) H1.out.n.txn Tryz.underlying88;rw [bH.out] at dW;have bs := VJ
 by_cases h1 : 8 ≤ L
 case pos =>
  have HE := (show Hid (RP = [Us 9 st]) from by show RP = _; rw [bj.out, if_pos h1])
  have hI : (8 : Int) ≤ (L : Int) := by omega
  have kR := U6 9 w1
  go_wp2_with fail
  refine kR.mono ?_;rintro e w2 ⟨rfl, ae⟩
  have HR := (show Hid (OuL lo M gp gf gl w (w2.alloc (.cells #[V 9, V 0, V 0, V0, V0, V 0, .func (.func 95) #[] #[]] 124)) (.returned (.slice (some ⟨w2.heap.size, 0, none⟩) 1 1)) RP) from by
   rw [HE.out];have ar : Same w2 (w2.alloc (.cells #[V 9, V 0, V 0, V0, V0, V 0, .func (.func 95) #[] #[]] 124)) := kZ0.alloc _
   exact ⟨_, 1, 1, [Vy 9 st], rfl, rfl, OuI.made (os := [Vy 9 st]) ((ao.out.trans ae).trans ar) (ao.out.trans ae).size (Blk.newL w2 (kOu.all [Vy 9 st]) 124) (by simp) (fun o ho => by rw [List.mem_singleton.1 ho]; exact Vi ((H1.out.same ae).same ar) HD.out 9)⟩)
  clear kR ae x0 m6 dW;go_wp2;go_ret;exact HR.out
 have HE := (show Hid (RP = if (decide (1 ≤ t) && decide (t ≤ 2147483647)) = false ∨ t ≤ tl then [] else [((0, t, 0, [], [], 0), { st with told := t, txns := st.txns ++ [(t, [])] })]) from by show RP = _; rw [bj.out, if_neg h1])
 have hI : ¬ (8 : Int) ≤ (L : Int) := by omega
 clear bj;have kT := fun wx => je1 t wx;rw [show jat t = (decide (1 ≤ t) && decide (t ≤ 2147483647)) from rfl] at kT;obtain ⟨tb, rR⟩ : ∃ z, (decide (1 ≤ t) && decide (t ≤ 2147483647)) = z := ⟨_, rfl⟩;rw [rR] at kT HE;have KT := hid kT;clear rR kT
 go_wp2_with fail
 clear dW m6 x0 hI
 go_cut [23] (fun z wx => z = .bool (!tb || decide (t ≤ tl)) ∧ Hid (Same w1 wx))
 case first =>
  let Y1 : World → Prop := fun wx : World => wx.cell? ⟨X + 1, 0, none⟩ = some (V t) ∧ wx.cell? ⟨X, 0, none⟩ = some (Q3 M 0) ∧ wx.cell? ⟨M, 4, none⟩ = some (V x.lt)
  refine TT Y1 99 11 rfl (by kernel_rfl) ?_;have ae : Same w1 (World.drew w1) := kZ0.drew;generalize World.drew w1 = w2 at ae ⊢;have ap := hid ae;have bL := (show Hid (∀ wx, Same w1 wx → Y1 wx) from fun wx hx => ⟨(gk.out.same hx).c0, (gh.out.same hx).c0, (H1.out.same hx).box.cell 4⟩);clear ae;have hS : Y1 w2 := bL.out w2 ap.out;refine tk 0 13 hS ?_;refine o1Q 1 (fun Kc ak => ?_);go_simp;refine (KT.out w2).mono ?_;rintro e w3 ⟨rfl, ar⟩;have ax := hid (ap.out.trans ar);clear ar hS ap;have hS : Y1 w3 := bL.out w3 ax.out
  go_wp2_with fail
  refine ak.out _ _ (fun _ => hS) ?_;clear ak Kc
  try simp only [Act.put, sA, s0, sS]
  cases tb
  case false =>
   refine tk 2 15 hS ?_;refine tk 3 16 hS ?_;refine tkS 4 17 hS ?_;refine tkS 5 18 hS ?_;refine tkS 6 19 hS ?_;refine tkS 7 20 hS ?_;refine tkS 8 21 hS ?_;refine tkS 9 22 hS ?_;refine tk 10 23 hS ?_;refine TS (by kernel_rfl) ?_
   try simp only [Act.put, sA, s0, sS]
   clear hS
   go_wp2_with fail
   go_meet
   case rel => exact ⟨by simp, ax⟩
  case true =>
   refine tk 2 15 hS ?_;refine tk 3 16 hS ?_;refine tk 4 17 hS ?_;refine tk 5 18 hS ?_;refine tk 6 19 hS ?_;refine tk 7 20 hS ?_;refine tk 8 21 hS ?_;refine tk 9 22 hS ?_;refine tk 10 23 hS ?_;refine TS (by kernel_rfl) ?_
   try simp only [Act.put, sA, s0, sS]
   clear hS
   go_wp2_with fail
   go_meet
   case rel => exact ⟨by simp [aG], ax⟩
 case rest =>
 obtain ⟨rfl, cf⟩ := hcut;generalize wc = w2 at cf ⊢;generalize bQ : (!tb || decide (t ≤ tl)) = bad
 have HB := (show Hid ((bad = true → RP = []) ∧ (bad = false → tl < t ∧ RP = [((0, t, 0, [], [], 0), { st with told := t, txns := st.txns ++ [(t, [])] })])) from by
  rw [HE.out, ← bQ];refine ⟨fun hb => if_pos ?_, fun hb => ?_⟩
  ·cases tb
   ·exact .inl rfl
   ·exact .inr (by simpa using hb)
  ·cases tb
   ·simp at hb
   ·have h2 : ¬ t ≤ tl := by simpa using hb
    exact ⟨by omega, if_neg (by rintro (h3 | h3); cases h3; exact h2 h3)⟩)
 clear bQ HE KT;have ap := hid (ao.out.trans cf.out)
 cases bad
 case true =>
  have HR := (show Hid (OuL lo M gp gf gl w w2 (.returned (V0)) RP) from ⟨none, 0, 0, [], rfl, by rw [HB.out.1 rfl]; rfl, OuI.nil ap.out⟩);go_wp2;go_ret;exact HR.out
 obtain ⟨MA, bS⟩ := HB.out.2 rfl;have RN := hid MA;have bj := hid bS;clear MA bS HB;have x1 := (gk.out.same cf.out).c0;have b2 := XL;have a1 := jgP;have kt : ∀ (fn : Fn) (first cap : Array Value) (w : World), (Instr.makeFunc fn first cap).run Tryz.prog w = .ok (.func fn first cap) w := fun _ _ _ _ => rfl
 have HR := (show Hid (OuL lo M gp gf gl w (w2.alloc (.cells #[V 0, V t, V 0, V0, V0, V 0, .func (.func 136) #[] #[Q3 X 0, Q3 (X + 1) 0]] 124)) (.returned (.slice (some ⟨w2.heap.size, 0, none⟩) 1 1)) RP) from by
  rw [bj.out];have ar : Same w2 (w2.alloc (.cells #[V 0, V t, V 0, V0, V0, V 0, .func (.func 136) #[] #[Q3 X 0, Q3 (X + 1) 0]] 124)) := kZ0.alloc _;have zv := cf.out.trans ar;refine ⟨_, 1, 1, [⟨0, t, 0, none, 0, 0, [], none, 0, 0, [], 136, [], [Q3 X 0, Q3 (X + 1) 0], { st with told := t, txns := st.txns ++ [(t, [])] }⟩], rfl, rfl, OuI.made (os := [⟨0, t, 0, none, 0, 0, [], none, 0, 0, [], 136, [], [Q3 X 0, Q3 (X + 1) 0], { st with told := t, txns := st.txns ++ [(t, [])] }⟩]) (ap.out.trans ar) ap.out.size (Blk.newL w2 (kOu.all [⟨0, t, 0, none, 0, 0, [], none, 0, 0, [], 136, [], [Q3 X 0, Q3 (X + 1) 0], { st with told := t, txns := st.txns ++ [(t, [])] }⟩]) 124) (by simp) (fun o ho => ?_)⟩;rw [List.mem_singleton.1 ho]
  exact ⟨Vx _ _, rfl, OwnR.nil _ _ _ _ _, jd7 (H1.out.same zv) HD.out (gh.out.same zv) (gk.out.same zv) (ks.out RN.out)⟩)
 go_wp2;go_ret;exact HR.out
theorem jfl : Ur 124 := fun args wx => by simp [callFunc, go_sem, Tryz.func124, Tryz.f124]
theorem jgT {w : World} {lo M : Nat} {gp gf gl : Int} {x : PmX} {st : PlS} {A S : Nat} {kd stx ah cnt : Int} {sa : Option Addr} {sn sc : Nat} {ka : Option Addr} {kn kc : Nat} (h : PmI w lo M gp gf gl x) (hd : PmD x st) (hA : Blk w A 83 [Q3 M 0]) (hS : Blk w S 71 [V kd, V stx, V ah, V cnt, .slice sa sn sc, .slice ka kn kc]) (hg : GoodL st.locks) (kx : Wd st.locks (ah, stx, if kd = 5 then 1 else 2) = 0) :
  WM w lo M gp gf gl 124 #[Q3 A 0, Q3 S 0] { st with locks := Vb st.locks stx ah (if kd = 5 then 1 else 2) } := by
 refine ⟨jfl, fun wx hk => ?_⟩;have h' := h.onO hk;have HA := hid (hk.blk hA (by decide));have HS := hid (hk.blk hS (by decide));have KM := (show Hid (∀ wy : World, _) from fun wy => jaH kd stx ah cnt sa sn sc ka kn kc wy);obtain ⟨md, rB⟩ : ∃ z, (if kd = 5 then (1 : Int) else 2) = z := ⟨_, rfl⟩;rw [rB] at kx KM ⊢;clear rB;have KB := (show Hid (∀ wy, Same wx wy → _) from fun wy hy => Zy lo M gp gf gl x st.locks stx ah md wy (h'.same hy) hd.locks hg kx);have HD := (show Hid (∀ aO bO, (Uh aO).Perm (Vb st.locks stx ah md) → PmD { x with tt := aO, bk := bO } { st with locks := Vb st.locks stx ah md }) from fun aO bO hp => ⟨hd.recs, hd.txns, hp, hd.cut, hd.up, hd.lt⟩)
 let Y1 : World → Prop := fun wx : World => wx.cell? ⟨A, 0, none⟩ = some (Q3 M 0) ∧ wx.cell? ⟨S, 0, none⟩ = some (V kd) ∧ wx.cell? ⟨S, 1, none⟩ = some (V stx) ∧ wx.cell? ⟨S, 2, none⟩ = some (V ah) ∧ wx.cell? ⟨S, 3, none⟩ = some (V cnt) ∧ wx.cell? ⟨S, 4, none⟩ = some (.slice sa sn sc) ∧ wx.cell? ⟨S, 5, none⟩ = some (.slice ka kn kc)
 have Np := (show Hid (∀ wy, PmK lo wx wy → Y1 wy) from fun wy hy => ⟨(hy.blk HA.out (by decide) (by decide) (by decide)).c0, (hy.blk HS.out (by decide) (by decide) (by decide)).all6⟩);have bL := (show Hid (∀ wy, Same wx wy → Y1 wy) from fun wy hy => Np.out wy (PmK.same hy));clear h hd h' hk hA hS hg kx HA HS
 go_enter Tryz.func124, Tryz.ntmps124
 refine TT Y1 99 8 rfl (by kernel_rfl) ?_;have ae : Same wx (World.drew wx) := kZ0.drew;generalize World.drew wx = w2 at ae ⊢;have ap := hid ae;clear ae;have hS : Y1 w2 := bL.out w2 ap.out;refine tk 0 2 hS ?_;refine tk 1 3 hS ?_;refine tk 2 4 hS ?_;refine tk 3 5 hS ?_;refine tk 4 6 hS ?_;refine tk 5 7 hS ?_;refine o1Q 6 (fun Kc ak => ?_);go_simp;refine (KM.out w2).mono ?_;rintro e w3 ⟨rfl, ar⟩;have ax := hid (ap.out.trans ar);clear ar hS ap;have hS : Y1 w3 := bL.out w3 ax.out
 go_wp2_with fail
 refine ak.out _ _ (fun _ => hS) ?_;clear ak Kc
 try simp only [Act.put, sA, s0, sS]
 refine o1Q 7 (fun Kc ak => ?_);go_simp;refine (KB.out w3 ax.out).mono ?_;rintro e w4 ⟨rfl, aO, bO, h2, fY, aM⟩;have HR := (show Hid (PmS w4 lo M gp gf gl { st with locks := Vb st.locks stx ah md } ∧ PmK lo wx w4) from ⟨⟨_, h2, HD.out aO bO fY⟩, PmK.trans (PmK.same ax.out) aM⟩);clear KB h2 fY aM HD hS
 go_wp2_with fail
 refine ak.out _ _ (fun _ => Np.out w4 HR.out.2) ?_;clear ak Kc;refine TS (by kernel_rfl) ?_;go_wp2;exact bodyPost_end (results_none Tryz.results124 _ _ _) rfl ⟨rfl, HR.out⟩
theorem jbC : Ur 138 := fun args wx => by simp [callFunc, go_sem, Tryz.func138, Tryz.f138]
theorem jfm : Ur 139 := fun args wx => by simp [callFunc, go_sem, Tryz.func139, Tryz.f139]
theorem jfn : Ur 140 := fun args wx => by simp [callFunc, go_sem, Tryz.func140, Tryz.f140]
theorem jfo : Ur 141 := fun args wx => by simp [callFunc, go_sem, Tryz.func141, Tryz.f141]
theorem jfp : Ur 144 := fun args wx => by simp [callFunc, go_sem, Tryz.func144, Tryz.f144]
theorem jc2 (G : Nat) (p : Option Addr) (w : World) (hG : Blk w G 130 [.pointer p]) : Calls Tryz.prog 138 #[Q3 G 0] w fun e w' => e = .returned (.bool (decide (p = none))) ∧ Same w w' := by
 have g0 := hG.c0;have HK := (show Hid (Same w w) from kZ0);clear hG
 cases p
 all_goals
  go_enter Tryz.func138, Tryz.ntmps138
  go_wp2;go_ret;exact ⟨rfl, HK.out⟩
theorem jgi (S : Nat) {kd stx ah cnt : Int} {sa : Option Addr} {sn sc : Nat} {ka : Option Addr} {kn kc : Nat} (w : World) (hS : Blk w S 71 [V kd, V stx, V ah, V cnt, .slice sa sn sc, .slice ka kn kc]) : Calls Tryz.prog 139 #[Q3 S 0] w fun e w' => e = .returned (.bool (decide ((1000 : Int) < (sn : Int)))) ∧ Same w w' := by
 obtain ⟨s0, s1, s2, s3, s4, s5⟩ := hS.all6;have HK := (show Hid (Same w w) from kZ0);clear hS
 go_enter Tryz.func139, Tryz.ntmps139
 go_wp2;go_ret;exact ⟨rfl, HK.out⟩
theorem jgj (lo M : Nat) (gp gf gl : Int) (x : PmX) (A S : Nat) {kd stx ah cnt : Int} {sa : Option Addr} {sn sc : Nat} {ka : Option Addr} {kn kc : Nat} (w : World) (h : PmI w lo M gp gf gl x) (hA : Blk w A 83 [Q3 M 0]) (hS : Blk w S 71 [V kd, V stx, V ah, V cnt, .slice sa sn sc, .slice ka kn kc]) (hg : 0 ≤ gp ∧ gp ≤ 1000) : Calls Tryz.prog 140 #[Q3 A 0, Q3 S 0] w fun e w' => e = .returned (.bool (!(decide (0 ≤ ah) && decide (ah < gp * 32)))) ∧ Same w w' := by
 let Y1 : World → Prop := fun wx : World => wx.cell? ⟨A, 0, none⟩ = some (Q3 M 0) ∧ wx.cell? ⟨M, 0, none⟩ = some (V gp) ∧ wx.cell? ⟨M, 1, none⟩ = some (V gf) ∧ wx.cell? ⟨M, 2, none⟩ = some (V gl) ∧ wx.cell? ⟨S, 0, none⟩ = some (V kd) ∧ wx.cell? ⟨S, 1, none⟩ = some (V stx) ∧ wx.cell? ⟨S, 2, none⟩ = some (V ah) ∧ wx.cell? ⟨S, 3, none⟩ = some (V cnt) ∧ wx.cell? ⟨S, 4, none⟩ = some (.slice sa sn sc) ∧ wx.cell? ⟨S, 5, none⟩ = some (.slice ka kn kc)
 have bL := (show Hid (∀ wy, Same w wy → Y1 wy) from fun wy hy => ⟨(hA.same hy).c0, (h.same hy).box.cell 0, (h.same hy).box.cell 1, (h.same hy).box.cell 2, (hS.same hy).all6⟩);have KR := (show Hid (∀ wy : World, _) from fun wy => ZE gp gf gl ah wy hg);obtain ⟨RB, sG⟩ : ∃ z, (decide (0 ≤ ah) && decide (ah < gp * 32)) = z := ⟨_, rfl⟩;rw [sG] at KR ⊢;clear h hA hS sG
 go_enter Tryz.func140, Tryz.ntmps140
 go_upto_region 1 with fail
 refine TT Y1 99 9 rfl (by kernel_rfl) ?_;have ae : Same w (World.drew w) := kZ0.drew;generalize World.drew w = w2 at ae ⊢;have ap := hid ae;clear ae;have hS : Y1 w2 := bL.out w2 ap.out;refine tk 0 3 hS ?_;refine tk 1 4 hS ?_;refine tk 2 5 hS ?_;refine tk 3 6 hS ?_;refine tk 4 7 hS ?_;refine tk 5 8 hS ?_;refine o1Q 6 (fun Kc ak => ?_);go_simp;refine (KR.out w2).mono ?_;rintro e w3 ⟨rfl, hk⟩;have ax := hid (ap.out.trans hk);clear hk hS ap;have hS : Y1 w3 := bL.out w3 ax.out
 go_wp2_with fail
 refine ak.out _ _ (fun _ => hS) ?_;clear ak Kc
 try simp only [Act.put, sA, s0, sS]
 refine tk 7 10 hS ?_;refine tk 8 2 hS ?_;refine TS (by kernel_rfl) ?_;clear hS;go_wp2;go_ret;exact ⟨rfl, ax.out⟩
theorem jgk (lo M : Nat) (gp gf gl : Int) (x : PmX) (A S : Nat) {kd stx ah cnt : Int} {sa : Option Addr} {sn sc : Nat} {ka : Option Addr} {kn kc : Nat} (ls : List T3) (w : World) (h : PmI w lo M gp gf gl x) (hA : Blk w A 83 [Q3 M 0]) (hS : Blk w S 71 [V kd, V stx, V ah, V cnt, .slice sa sn sc, .slice ka kn kc]) (hp : (Uh x.tt).Perm ls) (hg : GoodL ls) : Calls Tryz.prog 141 #[Q3 A 0, Q3 S 0] w fun e w' => e = .returned (.bool (!(WT (T9 stx ah 0 ls) (if kd = 5 then 1 else 2)))) ∧ Same w w' := by
 let Y1 : World → Prop := fun wx : World => wx.cell? ⟨A, 0, none⟩ = some (Q3 M 0) ∧ wx.cell? ⟨M, 7, none⟩ = some (.map (some x.B)) ∧ wx.cell? ⟨S, 0, none⟩ = some (V kd) ∧ wx.cell? ⟨S, 1, none⟩ = some (V stx) ∧ wx.cell? ⟨S, 2, none⟩ = some (V ah) ∧ wx.cell? ⟨S, 3, none⟩ = some (V cnt) ∧ wx.cell? ⟨S, 4, none⟩ = some (.slice sa sn sc) ∧ wx.cell? ⟨S, 5, none⟩ = some (.slice ka kn kc)
 have bL := (show Hid (∀ wy, Same w wy → Y1 wy) from fun wy hy => ⟨(hA.same hy).c0, (h.same hy).box.cell 7, (hS.same hy).all6⟩);have KO := (show Hid (∀ wx, Same w wx → _) from fun wx hx => Yd wx lo x.B x.bk x.tt ls stx ah (h.same hx).n.lk hp (fun l hl => (hg.fine l hl).2.2.1));have KM := (show Hid (∀ wy : World, _) from fun wy => jaH kd stx ah cnt sa sn sc ka kn kc wy);obtain ⟨md, rB⟩ : ∃ z, (if kd = 5 then (1 : Int) else 2) = z := ⟨_, rfl⟩;rw [rB] at KM ⊢;clear rB;obtain ⟨ot, BF⟩ : ∃ z, T9 stx ah 0 ls = z := ⟨_, rfl⟩;rw [BF] at KO ⊢;clear BF;have KT := (show Hid (∀ wy : World, _) from fun wy => Zf ot md wy);clear h hA hS hp hg
 go_enter Tryz.func141, Tryz.ntmps141
 go_upto_region 1 with fail
 refine TT Y1 99 14 rfl (by kernel_rfl) ?_;have ae : Same w (World.drew w) := kZ0.drew;generalize World.drew w = w2 at ae ⊢;have ap := hid ae;clear ae;have hS : Y1 w2 := bL.out w2 ap.out;refine tk 0 3 hS ?_;refine tk 1 4 hS ?_;refine tk 2 5 hS ?_;refine tk 3 6 hS ?_;refine tk 4 7 hS ?_;refine tk 5 8 hS ?_;refine tk 6 9 hS ?_;refine tk 7 10 hS ?_;refine tk 9 12 hS ?_;refine o1Q 8 (fun Kc ak => ?_);go_simp;refine (KO.out w2 ap.out).mono ?_;rintro e w3 ⟨rfl, hk⟩;have ax := hid (ap.out.trans hk);clear hk hS ap;have hS : Y1 w3 := bL.out w3 ax.out
 go_wp2_with fail
 refine ak.out _ _ (fun _ => hS) ?_;clear ak Kc
 try simp only [Act.put, sA, s0, sS]
 refine o1Q 10 (fun Kc ak => ?_);go_simp;refine (KM.out w3).mono ?_;rintro e w4 ⟨rfl, hk⟩;have aR := hid (ax.out.trans hk);clear hk hS ax;have hS : Y1 w4 := bL.out w4 aR.out
 go_wp2_with fail
 refine ak.out _ _ (fun _ => hS) ?_;clear ak Kc
 try simp only [Act.put, sA, s0, sS]
 refine o1Q 11 (fun Kc ak => ?_);go_simp;refine (KT.out w4).mono ?_;rintro e w5 ⟨rfl, hw⟩;have aH := (show Hid (Same w w5) from by rw [hw]; exact aR.out);clear hw hS aR;have hS : Y1 w5 := bL.out w5 aH.out
 go_wp2_with fail
 refine ak.out _ _ (fun _ => hS) ?_;clear ak Kc
 try simp only [Act.put, sA, s0, sS]
 refine tk 12 15 hS ?_;refine tk 13 2 hS ?_;refine TS (by kernel_rfl) ?_;clear hS;go_wp2;go_ret;exact ⟨rfl, aH.out⟩
theorem jgl (lo M : Nat) (gp gf gl : Int) (x : PmX) (A S : Nat) {kd stx ah cnt : Int} {sa : Option Addr} {sn sc : Nat} {ka : Option Addr} {kn kc : Nat} (G : Nat) (pre post : List ETp) (t : ETp) (D : List RcD) (w : World) (h : PmI w lo M gp gf gl x) (hA : Blk w A 83 [Q3 M 0]) (hS : Blk w S 71 [V kd, V stx, V ah, V cnt, .slice sa sn sc, .slice ka kn kc]) (hG : Blk w G 130 [.pointer (some ⟨t.g, 0, none⟩)]) (hx : x.te = pre ++ t :: post) (hD : (x.ce.map ERc.dat).Perm D) (az : t.ps.length ≤ 1048576) :
  Calls Tryz.prog 144 #[Q3 A 0, Q3 G 0, Q3 S 0] w fun e w' => e = .returned (.bool (!(V7 D (TU t.ps) ah).1)) ∧ Same w w' := by
 have kS := jbz lo M gp gf gl x pre post t D ah w h hx hD az;obtain ⟨DS, E5⟩ : ∃ z, V7 D (TU t.ps) ah = z := ⟨_, rfl⟩;rw [E5] at kS ⊢;have a0 := hA.c0;have g0 := hG.c0;obtain ⟨s0, s1, s2, s3, s4, s5⟩ := hS.all6
 have hf : ∀ (u : Bool) (a : Option Addr) (n c : Nat) (wx : World), (Instr.field 110 (.agg #[.bool u, .slice a n c]) 0).run Tryz.prog wx = .ok (.bool u) wx := fun u a n c wx => by kernel_rfl
 clear h hA hG hS hx hD az E5
 go_enter Tryz.func144, Tryz.ntmps144
 go_wp2_with fail
 refine kS.mono ?_;rintro e w6 ⟨u6, va, vn, vc, d6, rfl, sD, rP, rx, aN⟩;have HK := hid aN;subst rx;clear kS sD rP aN;go_wp2;go_ret;exact ⟨rfl, HK.out⟩
theorem Tryz.infoRu : (Tryz.prog.info? 180).map (fun i => (i.zero, i.size, i.bytes)) = some (some (.agg #[V 0, .nilFunc]), 2, 16) := by kernel_rfl
theorem jeI (w : World) (c0 f0 : Value) : (Instr.buildSlice 183 1 #[(0, .agg #[c0, f0])]).run Tryz.prog w = .ok (.slice (some ⟨w.heap.size, 0, none⟩) 1 1) (w.alloc (.cells #[c0, f0] 180)) := by
 obtain ⟨i0, hi, br, aT, bv⟩ := info_parts Tryz.infoRu;refine run_buildSlice w 183 180 1 _ _ i0 _ Tryz.underlying183 hi br (by rw [aT]; decide) (by rw [aT]; decide) ?_;rw [aT];generalize hZ : (Array.map _ (Array.range (1 * 2)) : Array Value) = Z
 have hs : Z.size = 2 := by rw [← hZ]; simp
 clear hZ;obtain ⟨Z⟩ := Z
 match Z, hs with
 | [z0, z1], _ => simp [Instr.fill, Value.cells]
theorem jgU (w : World) (c0 f0 c1 f1 : Value) : (Instr.buildSlice 183 2 #[(0, .agg #[c0, f0]), (1, .agg #[c1, f1])]).run Tryz.prog w = .ok (.slice (some ⟨w.heap.size, 0, none⟩) 2 2) (w.alloc (.cells #[c0, f0, c1, f1] 180)) := by
 obtain ⟨i0, hi, br, aT, bv⟩ := info_parts Tryz.infoRu;refine run_buildSlice w 183 180 2 _ _ i0 _ Tryz.underlying183 hi br (by rw [aT]; decide) (by rw [aT]; decide) ?_;rw [aT];generalize hZ : (Array.map _ (Array.range (2 * 2)) : Array Value) = Z
 have hs : Z.size = 4 := by rw [← hZ]; simp
 clear hZ;obtain ⟨Z⟩ := Z
 match Z, hs with
 | [z0, z1, z2, z3], _ => simp [Instr.fill, Value.cells]
theorem jeJ (w : World) (c0 f0 c1 f1 c2 f2 c3 f3 : Value) : (Instr.buildSlice 183 4 #[(0, .agg #[c0, f0]), (1, .agg #[c1, f1]), (2, .agg #[c2, f2]), (3, .agg #[c3, f3])]).run Tryz.prog w = .ok (.slice (some ⟨w.heap.size, 0, none⟩) 4 4) (w.alloc (.cells #[c0, f0, c1, f1, c2, f2, c3, f3] 180)) := by
 obtain ⟨i0, hi, br, aT, bv⟩ := info_parts Tryz.infoRu;refine run_buildSlice w 183 180 4 _ _ i0 _ Tryz.underlying183 hi br (by rw [aT]; decide) (by rw [aT]; decide) ?_;rw [aT];generalize hZ : (Array.map _ (Array.range (4 * 2)) : Array Value) = Z
 have hs : Z.size = 8 := by rw [← hZ]; simp
 clear hZ;obtain ⟨Z⟩ := Z
 match Z, hs with
 | [z0, z1, z2, z3, z4, z5, z6, z7], _ => simp [Instr.fill, Value.cells]
theorem jgV (w : World) (c0 f0 c1 f1 c2 f2 c3 f3 c4 f4 : Value) : (Instr.buildSlice 183 5 #[(0, .agg #[c0, f0]), (1, .agg #[c1, f1]), (2, .agg #[c2, f2]), (3, .agg #[c3, f3]), (4, .agg #[c4, f4])]).run Tryz.prog w = .ok (.slice (some ⟨w.heap.size, 0, none⟩) 5 5) (w.alloc (.cells #[c0, f0, c1, f1, c2, f2, c3, f3, c4, f4] 180)) := by
 obtain ⟨i0, hi, br, aT, bv⟩ := info_parts Tryz.infoRu;refine run_buildSlice w 183 180 5 _ _ i0 _ Tryz.underlying183 hi br (by rw [aT]; decide) (by rw [aT]; decide) ?_;rw [aT];generalize hZ : (Array.map _ (Array.range (5 * 2)) : Array Value) = Z
 have hs : Z.size = 10 := by rw [← hZ]; simp
 clear hZ;obtain ⟨Z⟩ := Z
 match Z, hs with
 | [z0, z1, z2, z3, z4, z5, z6, z7, z8, z9], _ => simp [Instr.fill, Value.cells]
theorem Xu {P : Program} {o : Oper} {f : Operand → Value} {w w' : World} {ty : TypeId} {n : Nat} (lp : List (Nat × Operand)) (lv : List (Nat × Value)) {v : Value} (ho : o.op = .buildSlice ty n lp.toArray) (hv : lp.map (fun x => (x.1, f x.2)) = lv) (hr : (Instr.buildSlice ty n lv.toArray).run P w = .ok v w') : (execOp f o).run P w = .ok (.value v) w' := by
 have e : (lp.toArray.map fun x => (x.1, f x.2)) = lv.toArray := by rw [List.map_toArray, hv]
 unfold execOp;simp only [ho]
 show Sem.run P (do pure (Next.value (← Instr.buildSlice ty n (lp.toArray.map fun x => (x.1, f x.2))))) w = _
 rw [e];simp only [Sem.run_bind, hr, Result.andThen_ok, Sem.run_pure]
theorem jgW (parts : List (Nat × Value)) : Tryz.prog.built 184 parts = Instr.fill (fun i => some (i * 1, 1)) #[V0, V0, V0, V0, V0, V0, V0, V0] parts := by kernel_rfl
theorem jgX (w : World) (a2 a3 a4 a5 a6 a7 : Option Addr) (n2 n3 n4 n5 n6 n7 c2 c3 c4 c5 c6 c7 : Nat) : (Instr.build 184 #[(2, .slice a2 n2 c2), (3, .slice a3 n3 c3), (4, .slice a4 n4 c4), (5, .slice a5 n5 c5), (6, .slice a6 n6 c6), (7, .slice a7 n7 c7)]).run Tryz.prog w = .ok (.agg #[V0, V0, .slice a2 n2 c2, .slice a3 n3 c3, .slice a4 n4 c4, .slice a5 n5 c5, .slice a6 n6 c6, .slice a7 n7 c7]) w :=
 run_build w _ _ _ (by rw [jgW]; simp [Instr.fill, Value.cells])
end Go.Proofs.YtljfcdkhicffcaaGreat
