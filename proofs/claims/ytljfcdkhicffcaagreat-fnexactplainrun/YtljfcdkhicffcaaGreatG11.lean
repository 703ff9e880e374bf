import Derived.Test.YtljfcdkhicffcaaGreatG10
namespace Go.Proofs.YtljfcdkhicffcaaGreat
set_option maxRecDepth 100000
set_option maxHeartbeats 8000000
set_option linter.unusedVariables false
set_option linter.unusedSimpArgs false
open Go.RowKit Go
theorem X7 (u : Bool) (dv : Value) (d : List Int) (w : World) (hd : d.length ≤ 1099511627776) (hr : Rd .u8 w dv d) :
  Calls Tryz.prog 56 #[.agg #[.bool u, dv]] w fun e w' => ∃ a n c, e = .returned (.agg #[.bool u, .slice a n c]) ∧ Own 0 5 .u8 w' (.slice a n c) d ∧ (∀ b, (Value.slice a n c).ownBlock = some b → w.heap.size ≤ b) ∧ Same w w' := by
 obtain ⟨da, dc, rfl⟩ := hr.form;have HR := hid hr;clear hr;obtain ⟨ay, HA, HB⟩ := new2 w [.bool u, .slice da d.length dc] 110 [.bool false, V0] 110
 go_enter Tryz.func56, Tryz.ntmps56
 go_wp2_with fail
 let Y1 : World → Prop := fun wx : World => wx.cell? ⟨w.heap.size, 0, none⟩ = some (.bool u) ∧ wx.cell? ⟨w.heap.size, 1, none⟩ = some (.slice da d.length dc)
 have hS : Y1 ((w.alloc (.cells #[.bool u, .slice da d.length dc] 110)).alloc (.cells #[.bool false, V0] 110)).drew := by exact ⟨HA.out.cell 0, HA.out.cell 1⟩
 refine TT Y1 6 7 rfl (by kernel_rfl) ?_;refine tk 0 3 hS ?_;refine tk 1 4 hS ?_;refine tk 2 5 hS ?_;refine tk 3 6 hS ?_;refine o1Q 4 (fun K hK => ?_);go_simp;refine (Xz _ d _ hd (HR.out.same ay.out.drew)).mono ?_;rintro e w1 ⟨a1, n1, c1, rfl, bh, hf, af⟩;have gY := hid bh;have oY := hid hf;have ao := hid af;have A1 := HA.out.drew.same af;have B1 := HB.out.drew.same af;have d0 := B1.c0;have d1 := B1.c1;have f0 := B1.frozen 0;have f1 := B1.frozen 1;clear bh hf af
 have hS : Y1 w1 := by exact ⟨A1.cell 0, A1.cell 1⟩
 refine hK.out _ _ (fun _ => hS) ?_;clear hK K
 try simp only [Act.put, sA, s0, sS]
 refine tk 5 8 hS ?_;refine o1Q 6 (fun K hK => ?_);go_simp;refine hK.out _ _ (fun h => absurd rfl h) ?_;clear hK K;refine TS (by kernel_rfl) ?_
 try simp only [Act.put, sA, s0, sS]
 go_wp2;have br := ay.out.size;have aT := ao.out.size;have bv := HB.out.lt;simp only [World.size_drew] at aT;refine bodyPost_ret (v := .agg #[.bool u, .slice a1 n1 c1]) (by simp [results, Tryz.results56, go_sem, d0, d1]) rfl ⟨a1, n1, c1, rfl, gY.out.kept (R := fun b => b = w.heap.size + 1) (((Kept.refl (fun b => b = w.heap.size + 1) _).setCell (p := ⟨w.heap.size + 1, 0, none⟩) (.inr rfl) _).setCell (p := ⟨w.heap.size + 1, 1, none⟩) (.inr rfl) _) (fun b hb e => ?_), fun b hb => ?_, ((ay.out.drew.trans ao.out).setCell (p := ⟨w.heap.size + 1, 0, none⟩) (.inl (Nat.le_add_right _ _)) _).setCell (p := ⟨w.heap.size + 1, 1, none⟩) (.inl (Nat.le_add_right _ _)) _⟩
 ·have := oY.out b hb
  simp only [World.size_drew] at this;omega
 ·have := oY.out b hb
  simp only [World.size_drew] at this;omega
theorem Tryz.infoHW : (Tryz.prog.info? 112).map (fun i => (i.zero, i.size, i.bytes)) = some (some (.agg #[V 0, .bool false, V0]), 3, 40) := by kernel_rfl
theorem je3 {G : Obj → Prop} {w : World} {ops : Array Oper} {o : Oper} {a : Act} {K : Act → World → Prop} {Q : Exit → Act → World → Prop} {E : Prop} (dY : o.guard = none) (s x : Operand)
  (ho : o.op = .call { callee := .builtin .append, args := #[s, x], argTypes := #[67, 67] }) {fa : Option Addr} {fn fc B : Nat} {ps : List EWr} {id : Int} {u : Bool} {v : Value} {bs : List Int} (hs : a.eval s = .slice fa fn fc) (hx : a.eval x = Q4 B 1 1)
  (hB : Blk w B 112 [V id, .bool u, v]) (dj : v.oneCell' = true) (hW : OwW G w (.slice fa fn fc) ps) (hd : RdG G w v bs) (hG : ∀ cs, G (.cells cs 112 (0, 0))) (hq : ps.length ≤ 100000000)
  (h : ∀ gF cF w', OwW G w' (Q4 gF (fn + 1) cF) (ps ++ [⟨id, u, v, bs⟩]) → (∀ b, (Value.slice (some ⟨gF, 0, none⟩) (fn + 1) cF).ownBlock = some b → (Value.slice fa fn fc).ownBlock = some b ∨ w.heap.size ≤ b) → Kept (fun b => (Value.slice fa fn fc).ownBlock = some b) w w' → K (a.put o.dst (Q4 gF (fn + 1) cF)) w') :
  if Region.wanted o (yielded ops a.tmps) = true then Oper.wp Tryz.prog o a w K Q else E := by
 obtain ⟨i0, hi, br, aT, bv⟩ := info_parts Tryz.infoHW
 have eS : fn = ps.length := by
  obtain ⟨_, _, h⟩ := hW.form;simp only [Value.slice.injEq] at h;exact h.2.1
 have aX := hW.row;rw [← eS] at aX;refine step_append_lies (P := Tryz.prog) w dY s x 67 ho 0 112 i0 _ 3 40 Tryz.underlying67 hi br aT bv rfl (by omega) (.slice fa fn fc) fn (kWr.all ps) hs aX ⟨B, 0, none⟩ 1 1 [V id, .bool u, v] hx rfl (fun j u hu => ?_) (fun u hu => ?_) (by omega) (by unfold maxLen; omega) (by omega) (Nat.zero_le _) w.heap.size rfl ?_
 ·have h1 := hB.cell j
  rw [hu] at h1
  simpa [Addr.add_lit] using h1
 ·simp only [List.mem_cons, List.not_mem_nil, or_false] at hu
  rcases hu with rfl | rfl | rfl
  ·rfl
  ·rfl
  ·exact dj
 ·intro gF cF w' bh hg bU aG
  have hk : Kept (fun b => (Value.slice fa fn fc).ownBlock = some b) w w' := Kept.of_grown hg (fun k e => e)
  have nh : KO G w w' := KO.of hk (fun b _ e => by
   obtain ⟨cs, hc⟩ := UM hW.row e
   exact ⟨_, hc, hG cs⟩)
  have e1 : kWr.all (ps ++ [⟨id, u, v, bs⟩]) = kWr.all ps ++ [V id, .bool u, v] := by rw [kWr.all_append]; simp [RowK.all, kWr]
  refine h gF cF w' ⟨by rw [e1, List.length_append, ← eS]; exact bh, fun p hp => ?_⟩ (fun b hb => ?_) hk
  ·rcases List.mem_append.1 hp with hp | hp
   ·exact (hW.data p hp).on nh
   ·rw [List.mem_singleton.1 hp]
    exact hd.on nh
  ·have e2 : gF = b := (by simpa [Value.ownBlock] using hb)
   subst e2
   rcases bU with e | e
   ·exact .inl e
   ·exact .inr (by omega)
theorem jbT {ts : List ETx} (h : (ts.map ETx.v).Pairwise Apart) {i k : Nat} (hi : i < ts.length) (hk : k < ts.length) (bl : i ≠ k) : Apart ts[i].v ts[k].v := by
 rw [List.pairwise_map, List.pairwise_iff_getElem] at h
 rcases Nat.lt_or_ge i k with hl | hl
 ·exact h i k hi hk hl
 ·intro c h1 h2
  exact h k i hk hi (by omega) c h2 h1
theorem gsW (cs : Array Value) : Gs (.cells cs 112 (0, 0)) := ⟨cs, .inr (.inr rfl)⟩
theorem gsT (cs : Array Value) : Gs (.cells cs 75 (0, 0)) := ⟨cs, .inr (.inl rfl)⟩
theorem SpN.note {w w1 : World} {lo : Nat} {rv : Value} {rs : List EHeapRecord} {tb n c : Nat} {ts : List ETx} {la : Option Addr} {ln lc : Nat} {ls : List Int} {cv : Value} {cs : List EWr} (h : SpN w lo rv rs (Q4 tb n c) ts la ln lc ls cv cs) (cN : lo ≤ w.heap.size) (k : Nat) (hk : k < ts.length) {nv : Value} {Gi : List EWr} (hW : OwW Gs w1 nv Gi) (hK : Kept (fun b => ts[k].v.ownBlock = some b) w w1) (bU : ∀ b, nv.ownBlock = some b → ts[k].v.ownBlock = some b ∨ w.heap.size ≤ b) :
  SpN (w1.setCell ⟨tb, k * 2 + 1, none⟩ nv) lo rv rs (Q4 tb n c) (ts.set k ⟨ts[k].id, nv, Gi⟩) la ln lc ls cv cs ∧ SpK lo w (w1.setCell ⟨tb, k * 2 + 1, none⟩ nv) := by
 have hn : n = ts.length := by
  rcases h.trow.2 with ⟨e, _⟩ | ⟨_, _, _, e, _⟩
  ·cases e
  ·injection e
 have sR : ts[k] ∈ ts := List.getElem_mem hk
 have zd : KO Gs w w1 := KO.of hK (fun b _ e => by
  obtain ⟨cs, hc⟩ := UM (h.wr ts[k] sR).row e
  exact ⟨_, hc, gsW cs⟩)
 have Et : w1.ownsRow 0 75 2 (Q4 tb n c) ts.length (kTx.all ts) := hK.owns h.trow (fun b hb e => by
  obtain ⟨c1, h1⟩ := UM h.trow hb;obtain ⟨c2, h2⟩ := UM (h.wr ts[k] sR).row e;rw [h1] at h2
  injection h2 with h2
  injection h2 with _ h2 _
  exact absurd h2 (by decide))
 have ae : Kept (fun b => b = tb) w1 (w1.setCell ⟨tb, k * 2 + 1, none⟩ nv) := Kept.setCell (R := fun b => b = tb) kZ0 (p := ⟨tb, k * 2 + 1, none⟩) (.inr rfl) _;obtain ⟨PD, Co⟩ := UM Et (b := tb) (by simp [Value.ownBlock]);have rJ : KO Gs w1 (w1.setCell ⟨tb, k * 2 + 1, none⟩ nv) := KO.of ae (fun b _ e => ⟨_, by rw [e]; exact Co, gsT PD⟩);have nh := zd.trans rJ
 have lY : ∀ {m x : Nat} {v : Value} {xs : List Value}, w1.ownsRow 0 112 m v x xs → ∀ b, v.ownBlock = some b → ¬ b = tb := fun ho b hb e => by
  subst e;obtain ⟨c1, h1⟩ := UM ho hb;rw [Co] at h1
  injection h1 with h1
  injection h1 with _ h1 _
  exact absurd h1 (by decide)
 have sT : OwnR kTx 0 75 5 w1 (Q4 tb n c) ts := ⟨Et, fun p _ => Own.nil 0 _ .u8 w1, fun u hu b hb e => by
  obtain ⟨p, _, rfl⟩ := List.mem_map.1 hu
  simp [kTx, Value.ownBlock] at e, by
  refine List.pairwise_map.2 (List.pairwise_of_forall (fun a b => fun c hc => ?_))
  simp [kTx, Value.ownBlock] at hc⟩
 have Ic := sT.setAt (p' := ⟨ts[k].id, nv, Gi⟩) hn hk 1 nv (by decide) rfl rfl rfl (k * 2 + 1) rfl
 have zT : ∀ i, (hi : i < ts.length) → i ≠ k → OwW Gs (w1.setCell ⟨tb, k * 2 + 1, none⟩ nv) ts[i].v ts[i].ps := fun i hi bl => by
  have h1 := (h.wr ts[i] (List.getElem_mem hi)).kept hK (fun b hb e => jbT h.each hi hk bl b hb e) zd;exact h1.kept ae (lY h1.row) rJ
 have tf := h.cut.kept hK (fun b hb e => h.ca ts[k] sR b hb e) zd;have az : (ts.set k ⟨ts[k].id, nv, Gi⟩).length = ts.length := List.length_set;have aG : ∀ i, (hi : i < ts.length) → ∀ b, ts[i].v.ownBlock = some b → b < w.heap.size := fun i hi b hb => (World.ownsRow.lt (h.wr ts[i] (List.getElem_mem hi)).row b hb).2
 have Eg : ∀ i, (hi : i < ts.length) → i ≠ k → Apart nv ts[i].v := fun i hi bl b hb e => by
  rcases bU b hb with h1 | h1
  ·exact jbT h.each hk hi (Ne.symm bl) b h1 e
  ·have := aG i hi b e
   omega
 refine ⟨⟨h.recs.onG (X6 (by decide) (by decide) (by decide)) (X6 (by decide) (by decide) (by decide)) nh, by have h1 := Ic.row; rw [az] at h1 ⊢; exact h1, fun t ht => ?_, ?_, Zt h.lk (X6 (by decide) (by decide) (by decide)) nh, tf.kept ae (lY tf.row) rJ, fun t ht => ?_, h.loR, h.loT, fun t ht => ?_⟩, nh, ?_⟩
 ·obtain ⟨i, hi, rfl⟩ := List.getElem_of_mem ht
  rw [az] at hi
  by_cases e : i = k
  ·subst e
   rw [List.getElem_set_self];exact hW.kept ae (lY hW.row) rJ
  ·rw [List.getElem_set_ne (Ne.symm e)]
   exact zT i hi e
 ·rw [List.pairwise_map, List.pairwise_iff_getElem]
  intro i j hi hj Gk
  have iG : i < ts.length := by rw [← az]; exact hi
  have pd : j < ts.length := by rw [← az]; exact hj
  by_cases ei : i = k
  ·subst ei
   rw [List.getElem_set_self, List.getElem_set_ne (by omega)];exact Eg j pd (by omega)
  ·rw [List.getElem_set_ne (Ne.symm ei)]
   by_cases ej : j = k
   ·subst ej
    rw [List.getElem_set_self];exact fun b h1 h2 => Eg i iG ei b h2 h1
   ·rw [List.getElem_set_ne (Ne.symm ej)]
    exact jbT h.each iG pd (by omega)
 ·obtain ⟨i, hi, rfl⟩ := List.getElem_of_mem ht
  rw [az] at hi
  by_cases e : i = k
  ·subst e
   rw [List.getElem_set_self];intro b h1 h2
   rcases bU b h2 with h3 | h3
   ·exact h.ca _ sR b h1 h3
   ·have := (World.ownsRow.lt h.cut.row b h1).2
    omega
  ·rw [List.getElem_set_ne (Ne.symm e)]
   exact h.ca _ (List.getElem_mem hi)
 ·obtain ⟨i, hi, rfl⟩ := List.getElem_of_mem ht
  rw [az] at hi
  by_cases e : i = k
  ·subst e
   rw [List.getElem_set_self];intro b h2
   rcases bU b h2 with h3 | h3
   ·exact h.loW _ sR b h3
   ·omega
  ·rw [List.getElem_set_ne (Ne.symm e)]
   exact h.loW _ (List.getElem_mem hi)
 ·exact (hK.mono (fun b _ e => h.loW _ sR b e)).next (ae.mono (fun b _ e => e)) (fun i hi e => by
   have e2 : i = tb := e;subst e2
   exact h.loT _ (by simp [Value.ownBlock]))
theorem SpN.lock {w : World} {lo : Nat} {rv : Value} {rs : List EHeapRecord} {tv : Value} {ts : List ETx} {la : Option Addr} {ln lc : Nat} {ls : List Int} {cv : Value} {cs : List EWr} (h : SpN w lo rv rs tv ts la ln lc ls cv cs) {Lp : Option Addr} {JG KU : Nat} {AO : List Int} (hl : w.ownsRow 0 160 3 (.slice Lp JG KU) JG (vals .i64 AO)) : SpN w lo rv rs tv ts Lp JG KU AO cv cs :=
 ⟨h.recs, h.trow, h.wr, h.each, hl, h.cut, h.ca, h.loR, h.loT, h.loW⟩
theorem jau (lo M : Nat) (gp gf gl : Int) (st : PlS) (k : Nat) (id : Int) (u : Bool) (dv : Value) (d : List Int) (w : World) (h : SpS w lo M gp gf gl st) (cN : lo ≤ w.heap.size) (hk : k < st.txns.length) (eU : ∀ i j, (hi : i < st.txns.length) → (hj : j < st.txns.length) → st.txns[i].1 = st.txns[j].1 → i = j) (bD : d.length ≤ 1099511627776) (gE : ∀ t ∈ st.txns, t.2.length ≤ 10000000) (hd : RdL lo w dv d) :
  Calls Tryz.prog 87 #[Q3 M 0, V (k : Int), V id, .agg #[.bool u, dv]] w fun e w' => e = .returned (.tuple #[]) ∧ SpS w' lo M gp gf gl (UL st st.txns[k].1 id (u, d)) ∧ SpK lo w w' := by
 obtain ⟨rv, rs, tv, ts, la, ln, lc, ls, hc, cv, cs, hb, hn, cO, e1, e2, e3, e4, e5⟩ := h
 have nc : ts.length = st.txns.length := by rw [← e2]; simp [Uo]
 have gP : k < ts.length := by rw [nc]; exact hk
 obtain ⟨da, dc, rfl⟩ := hd.here.form;obtain ⟨dn, dM⟩ : ∃ n, d.length = n := ⟨_, rfl⟩;rw [dM] at hd bD;rw [dM]
 have eI : ∀ i, (hi : i < ts.length) → st.txns[i]'(by rw [← nc]; exact hi) = (ts[i].id, TU ts[i].ps) := fun i hi => by
  have h1 : st.txns = ts.map ETx.dat := e2.symm;simp only [h1, List.getElem_map];rfl
 rcases hn.trow.2 with ⟨_, h0⟩ | ⟨tb, c, cur, Ar, _⟩
 ·rw [h0] at gP; exact absurd gP (Nat.not_lt_zero _)
 obtain ⟨n, mE⟩ : ∃ n, ts.length = n := ⟨_, rfl⟩;rw [mE] at Ar;subst Ar;obtain ⟨wa, a8, cC⟩ := (hn.wr ts[k] (List.getElem_mem gP)).form;obtain ⟨wn, wF⟩ : ∃ n, ts[k].ps.length = n := ⟨_, rfl⟩;rw [wF] at cC;obtain ⟨ti, Hm⟩ : ∃ z, ts[k].id = z := ⟨_, rfl⟩
 have IV : (k : Int) < (n : Int) := by omega
 have Ti : wn ≤ 10000000 := by
  have h1 := gE _ (List.getElem_mem hk);rw [eI k gP] at h1
  have h2 : (TU ts[k].ps).length = wn := by rw [← wF]; simp [TU]
  rw [← h2];exact h1
 have Ex := (show Hid (∀ wx, SpN wx lo rv rs (Q4 tb n c) ts la ln lc ls cv cs → wx.cell? ⟨tb, k * 2, none⟩ = some (V ti) ∧ wx.cell? ⟨tb, k * 2 + 1, none⟩ = some (.slice wa wn a8)) from fun wx h => ⟨by rw [← Hm]; exact VE (K := kTx) h.trow k 0 gP (by decide), by rw [← cC]; exact VE (K := kTx) h.trow k 1 gP (by decide)⟩);have ri := (show Hid (∀ wx la ln lc ls, SpN wx lo rv rs (Q4 tb n c) ts la ln lc ls cv cs → wx.cell? ⟨tb, k * 2 + 1, none⟩ = some (.slice wa wn a8)) from fun wx la ln lc ls h => by rw [← cC]; exact VE (K := kTx) h.trow k 1 gP (by decide))
 have eo := (show Hid (∀ (W : World) (nv : Value) (AO : List Int) (p : EWr), p.dat = (id, u, d) → tri AO = Vb st.locks ti id 2 → Uo (ts.set k ⟨ts[k].id, nv, ts[k].ps ++ [p]⟩) = (UL st st.txns[k].1 id (u, d)).txns ∧ tri AO = (UL st st.txns[k].1 id (u, d)).locks) from fun W nv AO p hp Sj => by
  have JX : st.txns[k].1 = ti := by rw [eI k gP, ← Hm]
  refine ⟨?_, by rw [Sj]; unfold UL; rw [JX]⟩;unfold UL jap Uo;dsimp only;refine List.ext_getElem (by simp [nc]) (fun i h1 h2 => ?_)
  have hi : i < ts.length := by simpa using h1
  rw [List.getElem_map, List.getElem_map]
  by_cases e : i = k
  ·subst e
   rw [List.getElem_set_self, if_pos rfl, eI i hi];simp [ETx.dat, TU, hp]
  ·rw [List.getElem_set_ne (Ne.symm e), if_neg (fun h3 => e (eU i k (by rw [← nc]; exact hi) hk h3)), eI i hi]
   rfl)
 have uR := (show Hid (∀ wx la ln lc ls, SpN wx lo rv rs (Q4 tb n c) ts la ln lc ls cv cs → OwW Gs wx (.slice wa wn a8) ts[k].ps) from fun wx la ln lc ls h => by rw [← cC]; exact h.wr ts[k] (List.getElem_mem gP));have oB := hid cC;have M7 := hid wF;have fw := hid dM;have HB := hid hb;have HN := hid hn;have HD := hid hd;have g9 := hid e3;have HE := (show Hid (jZ9 rs = st.recs ∧ TU cs = st.cut ∧ (hc = false → cs = [])) from ⟨e1, e4, e5⟩);have hX := Blk.newL w [.bool u, .slice da dn dc] 110;have bT : Same w (w.alloc (.cells #[.bool u, .slice da dn dc] 110)) := kZ0.alloc _;obtain ⟨X, aQ⟩ : ∃ X, w.heap.size = X := ⟨_, rfl⟩;rw [aQ] at hX;clear hb hn hd e1 e2 e3 e4 e5 dM wF cC Hm eI nc eU gE
 go_enter Tryz.func87, Tryz.ntmps87
 go_upto_region 1 with fail
 try rw [aQ]
 generalize w.alloc (.cells #[.bool u, .slice da dn dc] 110) = w1 at hX bT ⊢;have HX := hid hX;have bF := hid (Blk.same HB.out bT);have eM := hid (HN.out.same bT);have ao := (show Hid (SpK lo w w1) from SpK.same bT)
 have fW : lo ≤ w1.heap.size := by have := bT.size; omega
 clear hX bT aQ HB HN;refine TT (fun wx : World => wx.cell? ⟨M, 6, none⟩ = some (.slice la ln lc) ∧ wx.cell? ⟨M, 5, none⟩ = some (Q4 tb n c) ∧ wx.cell? ⟨tb, k * 2, none⟩ = some (V ti)) 18 19 rfl (by kernel_rfl) ?_;have ae : Same w1 (World.drew w1) := kZ0.drew;generalize World.drew w1 = w2 at ae ⊢;have eP := hid (HX.out.same ae);have bK := hid (Blk.same bF.out ae);have iY := hid (eM.out.same ae);have ap := hid (ao.out.trans (SpK.same ae))
 have kP : lo ≤ w2.heap.size := by have := ae.size; omega
 clear ae HX bF eM ao fW;have hS : (fun wx : World => wx.cell? ⟨M, 6, none⟩ = some (.slice la ln lc) ∧ wx.cell? ⟨M, 5, none⟩ = some (Q4 tb n c) ∧ wx.cell? ⟨tb, k * 2, none⟩ = some (V ti)) w2 := ⟨Blk.cell bK.out 6, Blk.cell bK.out 5, (Ex.out w2 iY.out).1⟩;refine tk 0 8 hS ?_;refine tk 1 9 hS ?_;refine tk 2 10 hS ?_;refine tk 3 11 hS ?_;refine tk 4 12 hS ?_;refine tk 5 13 hS ?_;refine tk 6 14 hS ?_;refine tk 7 15 hS ?_;refine tk 8 16 hS ?_;refine tk 9 17 hS ?_;refine tk 10 18 hS ?_;refine tk 11 19 hS ?_;refine tk 12 20 hS ?_;refine tk 13 21 hS ?_;refine o1Q 14 (fun Kc ak => ?_);go_simp;have kA := V4 ⟨160, la, ln, lc, ls⟩ ti id 2 w2 iY.out.rdF;refine kA.mono ?_;rintro e w3 ⟨y, rfl, gX, ms, _, iq, ar⟩;obtain ⟨yc, ⟨ye, ya, yn, bf, yb⟩⟩ := y;have kY : ye = 160 := ms;subst kY;dsimp only [StLockResult.val, FR.v];have dL := (show Hid (w3.ownsRow 0 160 3 (.slice ya yn bf) yn (vals .i64 yb)) from iq.own _ List.mem_cons_self)
 have EX := (show Hid (tri yb = Vb st.locks ti id 2) from by
  have h1 : (VI (tri ls) ti id 2).2 = yb := (congrArg Prod.snd gX).symm
  show tri yb = tri (VI st.locks ti id 2).2
  rw [← g9.out, h1])
 have gM := hid (eP.out.same ar);have bX := hid (Blk.same bK.out ar);have qT := hid (iY.out.same ar);have ax := hid (ap.out.trans (SpK.same ar))
 have mr : lo ≤ w3.heap.size := by have := ar.size; omega
 clear kA gX ms iq ar hS eP bK iY ap kP;have hS : (fun wx : World => wx.cell? ⟨M, 6, none⟩ = some (.slice la ln lc) ∧ wx.cell? ⟨M, 5, none⟩ = some (Q4 tb n c) ∧ wx.cell? ⟨tb, k * 2, none⟩ = some (V ti)) w3 := ⟨Blk.cell bX.out 6, Blk.cell bX.out 5, (Ex.out w3 qT.out).1⟩
 go_wp2_with fail
 refine ak.out _ _ (fun _ => hS) ?_;clear ak Kc
 try simp only [Act.put, sA, s0, sS]
 refine o1Q 15 (fun Kc ak => ?_);go_simp;refine ak.out _ _ (fun _ => hS) ?_;clear ak Kc
 try simp only [Act.put, sA, s0, sS]
 refine o1Q 16 (fun Kc ak => ?_);go_simp;refine ak.out _ _ (fun _ => hS) ?_;clear ak Kc
 try simp only [Act.put, sA, s0, sS]
 refine o1Q 17 (fun Kc ak => ?_);go_simp;refine ak.out _ _ (fun _ => hS) ?_;clear ak Kc
 try simp only [Act.put, sA, s0, sS]
 have c6 := Blk.cell bX.out 6;simp only [List.getElem?_cons_zero, List.getElem?_cons_succ] at c6;have f6 := Blk.frozen bX.out 6;refine o1Q 18 (fun Kc ak => ?_);go_simp;refine ak.out _ _ (fun h => absurd rfl h) ?_;clear ak Kc;refine TS (by kernel_rfl) ?_
 try simp only [Act.put, sA, s0, sS]
 have aM : Kept (fun b => b = M) w3 (w3.setCell ⟨M, 6, none⟩ (.slice ya yn bf)) := Kept.setCell (R := fun b => b = M) kZ0 (p := ⟨M, 6, none⟩) (.inr rfl) _;have ij := (show Hid (SpB (w3.setCell ⟨M, 6, none⟩ (.slice ya yn bf)) M gp gf gl st.up rv (Q4 tb n c) (.slice ya yn bf) st.told hc cv) from Blk.stored bX.out 6 (.slice ya yn bf));have cA := qT.out.box bX.out aM;have Iw := (show Hid (SpN (w3.setCell ⟨M, 6, none⟩ (.slice ya yn bf)) lo rv rs (Q4 tb n c) ts ya yn bf yb cv cs) from cA.1.lock (aM.owns dL.out (Un bX.out dL.out (by decide))))
 have l6 := hid (gM.out.kept aM (fun e => by
  subst e;have h2 := gM.out;have h3 := bX.out;unfold SpB at h3;unfold Blk at h2 h3;rw [h2] at h3
  injection h3 with h3
  injection h3 with _ h3 _
  exact absurd h3 (by decide)))
 have aR := hid (ax.out.trans ⟨cA.2, aM.mono (fun b _ e => by rw [e]; exact cO)⟩)
 have sC : lo ≤ (w3.setCell ⟨M, 6, none⟩ (.slice ya yn bf)).heap.size := by have := aM.size; omega
 clear hS c6 f6 cA aM bX qT gM ax mr dL;generalize w3.setCell ⟨M, 6, none⟩ (.slice ya yn bf) = w4 at ij Iw l6 aR sC ⊢
 go_wp2_with fail
 refine TT (fun wx : World => wx.cell? ⟨M, 5, none⟩ = some (Q4 tb n c) ∧ wx.cell? ⟨tb, k * 2 + 1, none⟩ = some (.slice wa wn a8) ∧ wx.cell? ⟨X, 0, none⟩ = some (.bool u) ∧ wx.cell? ⟨X, 1, none⟩ = some (.slice da dn dc)) 21 22 rfl (by kernel_rfl) ?_;have aP : Same w4 (World.drew w4) := kZ0.drew;generalize World.drew w4 = w5 at aP ⊢;have gw := hid (l6.out.same aP);have cP := hid (Blk.same ij.out aP);have fk := hid (Iw.out.same aP);have aH := hid (aR.out.trans (SpK.same aP))
 have jr : lo ≤ w5.heap.size := by have := aP.size; omega
 clear aP l6 ij Iw aR sC;have hS : (fun wx : World => wx.cell? ⟨M, 5, none⟩ = some (Q4 tb n c) ∧ wx.cell? ⟨tb, k * 2 + 1, none⟩ = some (.slice wa wn a8) ∧ wx.cell? ⟨X, 0, none⟩ = some (.bool u) ∧ wx.cell? ⟨X, 1, none⟩ = some (.slice da dn dc)) w5 := ⟨Blk.cell cP.out 5, ri.out _ _ _ _ _ fk.out, gw.out.cell 0, gw.out.cell 1⟩;refine tk 0 26 hS ?_;refine tk 1 27 hS ?_;refine tk 2 28 hS ?_;refine tk 3 29 hS ?_;refine tk 4 30 hS ?_;refine tk 5 31 hS ?_;refine tk 6 32 hS ?_;refine tk 7 33 hS ?_;refine tk 8 34 hS ?_;refine tk 9 35 hS ?_;refine tk 10 36 hS ?_;refine tk 11 37 hS ?_;refine tk 12 38 hS ?_;refine tk 13 39 hS ?_;refine tk 14 40 hS ?_;refine o1Q 15 (fun Kc ak => ?_);go_simp;have kC := X7 u (.slice da dn dc) d w5 (by rw [fw.out]; exact bD) (HD.out w5 aH.out.2);refine kC.mono ?_;rintro e w6 ⟨a6, n6, c6, rfl, MR, P7, aN⟩;have iK := (show Hid (RdG Gs w6 (.slice a6 n6 c6) d) from Own.rdG MR (X6 (by decide) (by decide) (by decide)));have yG := hid (gw.out.same aN);have eF := hid (Blk.same cP.out aN);have kg := hid (fk.out.same aN);have bI := hid (aH.out.trans (SpK.same aN))
 have yC : lo ≤ w6.heap.size := by have := aN.size; omega
 clear kC MR P7 aN hS gw cP fk aH jr;have hS : (fun wx : World => wx.cell? ⟨M, 5, none⟩ = some (Q4 tb n c) ∧ wx.cell? ⟨tb, k * 2 + 1, none⟩ = some (.slice wa wn a8) ∧ wx.cell? ⟨X, 0, none⟩ = some (.bool u) ∧ wx.cell? ⟨X, 1, none⟩ = some (.slice da dn dc)) w6 := ⟨Blk.cell eF.out 5, ri.out _ _ _ _ _ kg.out, yG.out.cell 0, yG.out.cell 1⟩
 go_wp2_with fail
 refine ak.out _ _ (fun _ => hS) ?_;clear ak Kc
 try simp only [Act.put, sA, s0, sS]
 refine tk 16 42 hS ?_;refine o1Q 17 (fun Kc ak => ?_);go_simp;have eY := Blk.newL w6 [V id, .bool u, .slice a6 n6 c6] 112;have bN : Same w6 (w6.alloc (.cells #[V id, .bool u, .slice a6 n6 c6] 112)) := kZ0.alloc _;obtain ⟨Y, hY⟩ : ∃ Y, w6.heap.size = Y := ⟨_, rfl⟩;rw [hY] at eY
 try rw [hY]
 generalize w6.alloc (.cells #[V id, .bool u, .slice a6 n6 c6] 112) = w7 at eY bN ⊢;have iM := hid eY;have mV := hid (iK.out.same bN);have qN := hid (yG.out.same bN);have fR := hid (Blk.same eF.out bN);have fE := hid (kg.out.same bN);have aZ := hid (bI.out.trans (SpK.same bN))
 have kq : lo ≤ w7.heap.size := by have := bN.size; omega
 clear eY bN hY hS yG eF kg bI iK yC;have hS : (fun wx : World => wx.cell? ⟨M, 5, none⟩ = some (Q4 tb n c) ∧ wx.cell? ⟨tb, k * 2 + 1, none⟩ = some (.slice wa wn a8) ∧ wx.cell? ⟨X, 0, none⟩ = some (.bool u) ∧ wx.cell? ⟨X, 1, none⟩ = some (.slice da dn dc)) w7 := ⟨Blk.cell fR.out 5, ri.out _ _ _ _ _ fE.out, qN.out.cell 0, qN.out.cell 1⟩;refine ak.out _ _ (fun _ => hS) ?_;clear ak Kc
 try simp only [Act.put, sA, s0, sS]
 refine o1Q 18 (fun Kc ak => ?_);refine je3 (G := Gs) rfl (.tmp 38) (.tmp 43) (by rfl) (by rfl) (by rfl) iM.out rfl (uR.out _ _ _ _ _ fE.out) mV.out gsW (by rw [M7.out]; omega) ?_;intro gF cF w8 KY C6 oN;have eA := hid (fE.out.note kq k gP (nv := Q4 gF (wn + 1) cF) KY (by rw [oB.out]; exact oN) (fun b hb => by rw [oB.out]; exact C6 b hb));have rR := UM fE.out.trow (b := tb) (by simp [Value.ownBlock])
 have Jm : ¬ (Value.slice wa wn a8).ownBlock = some tb := fun e => by
  obtain ⟨c1, h1⟩ := rR;obtain ⟨c2, h2⟩ := UM (uR.out _ _ _ _ _ fE.out).row e;rw [h1] at h2
  injection h2 with h2
  injection h2 with _ h2 _
  exact absurd h2 (by decide)
 have DD : ¬ (Value.slice wa wn a8).ownBlock = some M := fun e => Un fR.out (uR.out _ _ _ _ _ fE.out).row (by decide) M e rfl
 have ES : ¬ (Value.slice wa wn a8).ownBlock = some X := fun e => Un qN.out (uR.out _ _ _ _ _ fE.out).row (by decide) X e rfl
 have qV := hid (Blk.kept fR.out oN DD);have AZ := hid (qN.out.kept oN ES);have t8 : w8.cell? ⟨tb, k * 2 + 1, none⟩ = some (.slice wa wn a8) := oN.cellOf (ri.out _ _ _ _ _ fE.out) Jm
 have f8 : w8.frozen? ⟨tb, k * 2 + 1, none⟩ = false := by
  have h1 := oN.owns fE.out.trow (fun b hb e => by
   have e2 : tb = b := (by simpa [Value.ownBlock] using hb);subst e2
   exact Jm e)
  exact World.ownsRow.frozenAt (by have h2 := h1; rw [mE] at h2; exact h2) _
 have PP := (show Hid (¬ M = tb) from fun e => by
  subst e;obtain ⟨c1, h1⟩ := rR;have h2 := fR.out;unfold SpB Blk at h2;rw [h1] at h2
  injection h2 with h2
  injection h2 with _ h2 _
  exact absurd h2 (by decide))
 clear hS KY C6 oN rR Jm DD ES fE mV iM qN fR kq;have hS : (fun wx : World => wx.cell? ⟨M, 5, none⟩ = some (Q4 tb n c) ∧ wx.cell? ⟨tb, k * 2 + 1, none⟩ = some (.slice wa wn a8) ∧ wx.cell? ⟨X, 0, none⟩ = some (.bool u) ∧ wx.cell? ⟨X, 1, none⟩ = some (.slice da dn dc)) w8 := ⟨Blk.cell qV.out 5, t8, AZ.out.cell 0, AZ.out.cell 1⟩;refine ak.out _ _ (fun _ => hS) ?_;clear ak Kc
 try simp only [List.getElem_toArray, List.getElem_cons_succ, List.getElem_cons_zero]
 try simp only [Act.put, sA, s0, sS]
 refine o1Q 19 (fun Kc ak => ?_);go_simp;refine ak.out _ _ (fun _ => hS) ?_;clear ak Kc
 try simp only [Act.put, sA, s0, sS]
 refine o1Q 20 (fun Kc ak => ?_);go_simp;refine ak.out _ _ (fun _ => hS) ?_;clear ak Kc
 try simp only [Act.put, sA, s0, sS]
 refine o1Q 21 (fun Kc ak => ?_);go_simp;refine ak.out _ _ (fun h => absurd rfl h) ?_;clear ak Kc hS;refine TS (by kernel_rfl) ?_
 try simp only [Act.put, sA, s0, sS]
 have Ef := (show Hid (SpB (w8.setCell ⟨tb, k * 2 + 1, none⟩ (Q4 gF (wn + 1) cF)) M gp gf gl st.up rv (Q4 tb n c) (.slice ya yn bf) st.told hc cv) from Blk.kept qV.out (Kept.setCell (R := fun b => b = tb) kZ0 (p := ⟨tb, k * 2 + 1, none⟩) (.inr rfl) _) PP.out);clear t8 f8 qV AZ;generalize w8.setCell ⟨tb, k * 2 + 1, none⟩ (Q4 gF (wn + 1) cF) = w9 at eA Ef ⊢;go_wp2;refine bodyPost_end (results_none Tryz.results87 _ _ _) rfl ⟨rfl, ?_, aZ.out.trans eA.out.2⟩;have dm := eo.out w9 (Q4 gF (wn + 1) cF) yb ⟨id, u, .slice a6 n6 c6, d⟩ rfl EX.out;exact ⟨rv, rs, _, _, ya, yn, bf, yb, hc, cv, cs, Ef.out, eA.out.1, cO, HE.out.1, dm.1, dm.2, HE.out.2.1, HE.out.2.2⟩
structure UwW (w0 w : World) (v : Value) (qs : List EWr) : Prop where
 own : OwnR kWr 0 112 5 w v qs
 foot : ∀ b, Uc kWr v qs b → w0.heap.size ≤ b
 same : Same w0 w
theorem UwW.on {w0 w w' : World} {v : Value} {qs : List EWr} (h : UwW w0 w v qs) (hk : Same w w') : UwW w0 w' v qs := ⟨h.own.same hk, h.foot, h.same.trans hk⟩
theorem UwW.none {w0 w : World} {Y : Nat} (hk : Same w0 w) (hY : w0.heap.size ≤ Y) (h : Blk w Y 112 []) : UwW w0 w (Q4 Y 0 0) [] :=
 ⟨⟨⟨by simp [RowK.all], .inr ⟨Y, 0, #[], rfl, Nat.zero_le _, h, Nat.le_refl _, Nat.zero_le _, by simp, by simp [RowK.all]⟩⟩, fun p hp => by simp at hp, fun u hu => by simp at hu, by simp⟩, fun b hb => by
  rcases hb with hb | ⟨p, hp, _⟩
  ·have e : Y = b := (by simpa [Value.ownBlock] using hb)
   omega
  ·simp at hp, hk⟩
theorem X8 {w0 w : World} {ops : Array Oper} {rest : List Oper} {o : Oper} {a : Act} {Q : Exit → Act → World → Prop} (dY : o.guard = none) (s x : Operand)
  (ho : o.op = .call { callee := .builtin .append, args := #[s, x], argTypes := #[67, 67] }) {fa : Option Addr} {fn fc B : Nat} {qs : List EWr} {id : Int} {u : Bool} {v : Value} {bs : List Int} (hs : a.eval s = .slice fa fn fc) (hx : a.eval x = Q4 B 1 1)
  (hB : Blk w B 112 [V id, .bool u, v]) (dj : v.oneCell' = true) (hU : UwW w0 w (.slice fa fn fc) qs) (hd : Own 0 5 .u8 w v bs) (uh : ∀ b, v.ownBlock = some b → w0.heap.size ≤ b ∧ ¬ Uc kWr (.slice fa fn fc) qs b) (hq : qs.length ≤ 100000000)
  (h : ∀ gF cF w', UwW w0 w' (Q4 gF (fn + 1) cF) (qs ++ [⟨id, u, v, bs⟩]) → (∀ b, (Value.slice (some ⟨gF, 0, none⟩) (fn + 1) cF).ownBlock = some b → (Value.slice fa fn fc).ownBlock = some b ∨ w.heap.size ≤ b) → Kept (fun b => (Value.slice fa fn fc).ownBlock = some b) w w' → wpList Tryz.prog ops Q rest (a.put o.dst (Q4 gF (fn + 1) cF)) w') : wpList Tryz.prog ops Q (o :: rest) a w := by
 obtain ⟨i0, hi, br, aT, bv⟩ := info_parts Tryz.infoHW
 have eS : fn = qs.length := by
  obtain ⟨_, _, h⟩ := hU.own.rd.form;simp only [Value.slice.injEq] at h;exact h.2.1
 have aX := hU.own.row;rw [← eS] at aX;refine wpList_append_lies (P := Tryz.prog) w dY s x 67 ho 0 112 i0 _ 3 40 Tryz.underlying67 hi br aT bv rfl (by omega) (.slice fa fn fc) fn (kWr.all qs) hs aX ⟨B, 0, none⟩ 1 1 [V id, .bool u, v] hx rfl (fun j u hu => ?_) (fun u hu => ?_) (by omega) (by unfold maxLen; omega) (by omega) (Nat.zero_le _) w.heap.size rfl ?_
 ·have h1 := hB.cell j
  rw [hu] at h1
  simpa [Addr.add_lit] using h1
 ·simp only [List.mem_cons, List.not_mem_nil, or_false] at hu
  rcases hu with rfl | rfl | rfl
  ·rfl
  ·rfl
  ·exact dj
 ·intro gF cF w' bh hg bU aG
  have hk : Kept (fun b => (Value.slice fa fn fc).ownBlock = some b) w w' := Kept.of_grown hg (fun k e => e);have Cm := OwnR.snoc (K := kWr) (⟨id, u, v, bs⟩ : EWr) hU.own hd (fun b hb hf => (uh b hb).2 hf) hg bh eS bU;refine h gF cF w' ⟨Cm, fun b hb => ?_, hU.same.next hk (fun i hi e => by have := hU.foot i (.inl e); omega)⟩ (fun b hb => ?_) hk
  ·rcases YI (v := .slice fa fn fc) b hb with rfl | hx | hx
   ·rcases bU with e | e
    ·exact hU.foot _ (.inl e)
    ·have := hU.same.size
     omega
   ·exact hU.foot b hx
   ·exact (uh b hx).1
  ·have e2 : gF = b := (by simpa [Value.ownBlock] using hb)
   subst e2
   rcases bU with e | e
   ·exact .inl e
   ·exact .inr (by omega)
def NwW (w w' : World) (e : Ending) (D : List WrD) : Prop := ∃ (a : Option Addr) (n c : Nat) (qs : List EWr), e = .returned (.slice a n c) ∧ TU qs = D ∧ UwW w w' (.slice a n c) qs
theorem jcB (l : List WrD) (id : Int) (k : Nat) (h : k < l.length) : U9 (l.take (k + 1)) id = if l[k].1 = id then some l[k].2 else U9 (l.take k) id := by
 unfold U9;rw [List.take_succ_eq_append_getElem h, List.foldl_append];rfl
def LsA (ws : List EWr) (id : Int) (q : Nat) (m : Int) : Prop := (m = -1 ∧ U9 ((TU ws).take q) id = none) ∨ ∃ j, ∃ h : j < ws.length, m = (j : Int) ∧ U9 ((TU ws).take q) id = some (ws[j].us, ws[j].bs)
theorem LsA.start (ws : List EWr) (id : Int) : LsA ws id 0 (-1) := .inl ⟨rfl, rfl⟩
theorem LsA.on {ws : List EWr} {id : Int} {q : Nat} {m : Int} (h : LsA ws id q m) (hq : q < ws.length) : LsA ws id (q + 1) (if ws[q].id = id then (q : Int) else m) := by
 have Kd : q < (TU ws).length := by simp [TU]; exact hq
 have e := jcB (TU ws) id q Kd
 have e2 : (TU ws)[q] = ws[q].dat := by simp [TU]
 rw [e2] at e;unfold LsA;rw [e]
 by_cases h1 : ws[q].id = id
 ·rw [if_pos h1, if_pos (show ws[q].dat.1 = id from h1)]
  exact .inr ⟨q, hq, rfl, rfl⟩
 ·rw [if_neg h1, if_neg (show ¬ ws[q].dat.1 = id from h1)]
  exact h
theorem jdI (va : Value) (ws : List EWr) (w : World) (hn : ws.length ≤ 4000000) (hs : ∀ p ∈ ws, p.bs.length ≤ 1099511627776) (ha : RdR kWr w va ws) :
  Calls Tryz.prog 28 #[va] w fun e w' => NwW w w' e (UG (TU ws) 512) := by
 obtain ⟨L, hL⟩ : ∃ n, ws.length = n := ⟨_, rfl⟩;have HL := hid hL;have HA := hid ha;have HS := hid hs;obtain ⟨a0, c0, rfl⟩ := ha.form;rw [hL] at hn;rw [hL] at HA ⊢;have bR := Blk.newL w [] 112;have jG := (show Hid (UwW w (w.alloc (.cells #[] 112)) (.slice (some ⟨w.heap.size, 0, none⟩) 0 0) []) from UwW.none (kZ0.alloc _) (Nat.le_refl _) bR);obtain ⟨N, hN⟩ : ∃ N : Nat, 512 = N := ⟨_, rfl⟩;have HN := hid hN;clear ha hs hL bR hN
 go_enter Tryz.func28, Tryz.ntmps28
 go_wp2_with fail
 go_loopw [3, 4] (fun z i wr => ∃ (k : Nat) (a : Option Addr) (n c : Nat) (qs : List EWr), k ≤ 512 ∧ i = V k ∧ z = .slice a n c ∧ Hid (TU qs = UG (TU ws) k) ∧ Hid (UwW w wr (.slice a n c) qs) ∧ Hid (qs.length ≤ k)) (fun _ i _ => 512 - (intOf i).toNat)
 case atStart => exact ⟨0, _, _, _, [], Nat.zero_le _, rfl, rfl, rfl, jG, Nat.le_refl _⟩
 case round =>
  clear jG;obtain ⟨k, fa, fn, fc, qs, hk, rfl, rfl, HD, HU, HQ⟩ := hrel
  by_cases aG : k < 512
  case neg =>
   have HE := (show Hid (TU qs = UG (TU ws) 512) from by
    show TU qs = UG (TU ws) 512
    rw [HD.out]
    congr 1
    omega)
   have S0 : ¬ ((k : Int) < 512) := by omega
   go_wp2;go_ret;exact ⟨_, _, _, qs, rfl, HE.out, HU.out⟩
  have Qb : (k : Int) < 512 := by omega
  go_wp2_with fail
  go_loopw [5, 6] (fun m i wx => ∃ (q : Nat) (z : Int), q ≤ L ∧ i = V q ∧ m = V z ∧ Hid (LsA ws k q z) ∧ wr = wx) (fun _ i _ => L - (intOf i).toNat)
  case atStart => exact ⟨0, _, Nat.zero_le _, rfl, rfl, LsA.start _ _, rfl⟩
  case round =>
   obtain ⟨q, z, hq, rfl, rfl, HZ, rfl⟩ := hrel
   by_cases nj : q < L
   case pos =>
    have h1 : q < ws.length := by rw [HL.out]; exact nj
    rcases HA.out.row with ⟨h, _⟩ | ⟨b, off, c, he, hc⟩
    ·rw [h] at h1; simp at h1
    injection he with e1 e2 e3
    subst e1 e3;obtain ⟨id, eB⟩ : ∃ x, ws[q].id = x := ⟨_, rfl⟩
    have d0 : wr.cell? ⟨b, off + q * 3, none⟩ = some (V id) := by rw [← eB]; exact HU.out.same.cellOf (hc q 0 h1 (by decide)) (fun e => e)
    have jq := hid (HZ.out.on h1);rw [eB] at jq;clear hc e2 eB
    by_cases jF : id = (k : Int)
    ·rw [if_pos jF] at jq
     have q1 : (id == (k : Int)) = true := by simp [jF]
     have HH := hid jF;clear jF;go_wp2;go_roundw
     case rel => exact ⟨q + 1, _, by omega, by go_num, rfl, jq, trivial⟩
     case measure => simp [intOf]; omega
    ·rw [if_neg jF] at jq
     have q1 : (id == (k : Int)) = false := by simp [jF]
     have HH := hid jF;clear jF;go_wp2;go_roundw
     case rel => exact ⟨q + 1, _, by omega, by go_num, rfl, jq, trivial⟩
     case measure => simp [intOf]; omega
   obtain rfl : L = q := by omega
   have rY := (show Hid ((z = -1 ∧ U9 (TU ws) k = none) ∨ ∃ j, ∃ h : j < ws.length, z = (j : Int) ∧ U9 (TU ws) k = some (ws[j].us, ws[j].bs)) from by
    have h := HZ.out;unfold LsA at h;rw [List.take_of_length_le (by simp [TU]; exact Nat.le_of_eq HL.out)] at h
    exact h)
   clear HZ
   rcases rY.out with ⟨aT, bv⟩ | ⟨j, hj, aT, bv⟩
   ·have HE := (show Hid (TU qs = UG (TU ws) (k + 1)) from by
     show TU qs = UG (TU ws) k ++ _
     rw [bv, HD.out]
     simp)
    clear bv rY;subst aT;go_wp2;go_roundw
    case rel => exact ⟨k + 1, _, _, _, qs, by omega, by go_num, rfl, HE, HU, by have := HQ.out; show qs.length ≤ k + 1; omega⟩
    case measure => simp [intOf]; omega
   have HE := (show Hid (∀ v, TU (qs ++ [⟨(k : Int), ws[j].us, v, ws[j].bs⟩]) = UG (TU ws) (k + 1)) from fun v => by
    show TU (qs ++ [⟨(k : Int), ws[j].us, v, ws[j].bs⟩]) = UG (TU ws) k ++ _
    rw [bv, ← HD.out]
    simp [TU, EWr.dat])
   rcases HA.out.row with ⟨h, _⟩ | ⟨b, off, c, he, hc⟩
   ·rw [h] at hj; simp at hj
   injection he with e1 e2 e3
   subst e1 e3;obtain ⟨u1, yy⟩ : ∃ x, ws[j].us = x := ⟨_, rfl⟩;obtain ⟨v1, dj⟩ : ∃ x, ws[j].v = x := ⟨_, rfl⟩;obtain ⟨y1, iB⟩ : ∃ x, ws[j].bs = x := ⟨_, rfl⟩
   have TF : j < L := by rw [← HL.out]; exact hj
   have eT := (show Hid (Rd .u8 wr v1 y1) from by rw [← dj, ← iB]; exact (HA.out.data ws[j] (List.getElem_mem hj)).same HU.out.same);have bD := HS.out ws[j] (List.getElem_mem hj);rw [iB] at bD HE;rw [yy] at HE
   have d1 : wr.cell? ⟨b, off + j * 3 + 1, none⟩ = some (.bool u1) := by rw [← yy]; exact HU.out.same.cellOf (hc j 1 hj (by decide)) (fun e => e)
   have d2 : wr.cell? ⟨b, off + j * 3 + 1 + 1, none⟩ = some v1 := by rw [← dj]; exact HU.out.same.cellOf (hc j 2 hj (by decide)) (fun e => e)
   have kC := X7 u1 v1 y1 wr bD eT.out;obtain ⟨a1, c1, gd⟩ := eT.out.form;subst gd;have qS := hid bD;clear hc e2 yy dj iB bv rY bD;subst aT;generalize eX : y1.length = n1 at kC d2;have eM := hid eX;clear eX
   go_wp2_with fail
   refine kC.mono ?_;rintro e w2 ⟨a2, n2, c2, rfl, bh, hf, ae⟩;have cY := hid bh;have gO := hid hf;have lf := hid (HU.out.on ae);have gU := (show Hid (∀ b, Uc kWr (.slice fa fn fc) qs b → b < wr.heap.size) from fun b hb => (HU.out.own.lt b hb).2);have Ct : wr.heap.size ≤ w2.heap.size := ae.size;have yo : w.heap.size ≤ wr.heap.size := HU.out.same.size;clear kC bh hf ae d1 d2 HU
   go_wp2_with (at_builtin; go_loud (refine X8 (w0 := w) (qs := qs) (id := (k : Int)) (u := u1) (v := .slice a2 n2 c2) (bs := y1) rfl (.tmp 28) (.tmp 37) rfl rfl rfl (Blk.newL w2 [V (k : Int), .bool u1, .slice a2 n2 c2] 112) rfl (lf.out.on (kZ0.alloc _)) (cY.out.same (kZ0.alloc _)) (fun b' bw => ⟨by have := gO.out b' bw; omega, fun hf => by have := gO.out b' bw; have := gU.out b' hf; omega⟩) (by have := HQ.out; omega) ?_); intro gF cF w5 oR FL mU; have js := hid oR; clear oR FL mU)
   go_roundw
   case rel => exact ⟨k + 1, _, _, _, _, by omega, by go_num, rfl, HE.out _, js, by have := HQ.out; show List.length _ ≤ k + 1; rw [List.length_append]; simp; omega⟩
   case measure => simp [intOf]; omega
end Go.Proofs.YtljfcdkhicffcaaGreat
