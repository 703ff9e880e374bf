import Derived.Test.YtljfcdkhicffcaaGreatG19
import Derived.Shelf.SlMaps.Clone
namespace Go.Proofs.YtljfcdkhicffcaaGreat
set_option maxRecDepth 100000
set_option maxHeartbeats 8000000
set_option linter.unusedVariables false
set_option linter.unusedSimpArgs false
open Go Go.RowKit Go.MapKept
theorem jff {ls : List T3} (hg : GoodL ls) {txn id aw : Int} (hA : Wd ls (id, txn, aw) = 0) {l : List T3} (h : l.Perm (jcK ls (id, txn, aw) :: ls.filter (fun x => !VT (jcK ls (id, txn, aw)) x))) : l.Perm (Vb ls txn id aw) := by
 unfold Vb;rw [jdT hg, if_pos hA, Xk];exact h.trans (jbu _ ls).1.symm
def LkR (w w' : World) (e : Ending) (lo M : Nat) (gp gf gl : Int) (x : PmX) (ls : List T3) : Prop := e = .returned (.tuple #[]) ∧ ∃ aO bO, PmI w' lo M gp gf gl { x with tt := aO, bk := bO } ∧ (Uh aO).Perm ls ∧ PmK lo w w'
theorem Zy (lo M : Nat) (gp gf gl : Int) (x : PmX) (ls : List T3) (txn id aw : Int) (w : World) (h : PmI w lo M gp gf gl x) (hp : (Uh x.tt).Perm ls) (hg : GoodL ls) (hA : Wd ls (id, txn, aw) = 0) :
  Calls Tryz.prog 125 #[Q3 M 0, V txn, V id, V aw] w fun e w' => LkR w w' e lo M gp gf gl x (Vb ls txn id aw) := by
 have kA := jgd w lo x.B x.bk x.tt ls id txn aw h.n.lk hp hg h.n.full hA;have c7 := h.box.cell 7;simp only [PmC, List.getElem?_cons_zero, List.getElem?_cons_succ] at c7;have H := hid h;have HG := hid hg;have HA := hid hA;clear h hp hg hA
 go_enter Tryz.func125, Tryz.ntmps125
 go_wp2_with fail
 refine kA.mono ?_;rintro e w2 ⟨rfl, aO, ⟨bO, hT⟩, hP, hF, hK⟩;have HR := hid (H.out.locks hT hF hK);have HP := hid (jff HG.out HA.out hP);clear kA hT hP hF hK;go_wp2;exact bodyPost_end (results_none Tryz.results125 _ _ _) rfl ⟨rfl, aO, bO, HR.out.1, HP.out, HR.out.2⟩
theorem PmN.begun {w w' : World} {lo : Nat} {x : PmX} (h : PmN w lo x) {t : Int} {g : Nat} (hg : Blk w g 78 [V t, V0]) (Rq : lo ≤ g) (hn : ∀ y ∈ x.te, y.id ≠ t) (QT : ∀ y ∈ x.te, y.g ≠ g) (hm : MapB w' x.T (x.te.map ETp.kv ++ [(t, Q3 g 0, x.tk)]) (x.tk + 1)) (hk : Kept (fun b => b = x.T) w w') (lt : Int) :
  PmN w' lo { x with lt := lt, te := x.te ++ [⟨t, g, V0, [], x.tk⟩], tk := x.tk + 1 } := by
 have hL : Kept (fun b => lo ≤ b) w w' := hk.mono (fun b _ e => by rw [e]; exact h.loT)
 have e : (x.te ++ [(⟨t, g, V0, [], x.tk⟩ : ETp)]).map ETp.kv = x.te.map ETp.kv ++ [(t, Q3 g 0, x.tk)] := by rw [List.map_append]; rfl
 have cU : ∀ {y : ETp}, y ∈ x.te ++ [(⟨t, g, V0, [], x.tk⟩ : ETp)] → y ∈ x.te ∨ y = ⟨t, g, V0, [], x.tk⟩ := fun hy => by
  rcases List.mem_append.1 hy with hy | hy
  ·exact .inl hy
  ·exact .inr (List.mem_singleton.1 hy)
 refine ⟨h.com.kept hk h.cT, h.cok, fun e he => (h.cd e he).onL hL, ?_, ?_, fun y hy => ?_, ?_, fun y hy => ?_, ?_, h.lk.kept hk (fun e => h.tB e.symm) (fun e he e2 => (h.ne e he).2 e2), h.full, h.cut.kept hk (fun b hb e2 => jfd h.cut.row h.txn b hb e2) hL, h.cT, h.cB, h.tB, h.ne, h.loC, h.loT, fun y hy => ?_, h.ucv⟩
 ·show MapB w' x.T _ _
  rw [e];exact hm
 ·show KVok _ _
  rw [e]
  exact h.tok.snoc (fun y hy => by
   obtain ⟨z, hz, rfl⟩ := List.mem_map.1 hy
   exact hn z hz)
 ·rcases cU hy with hy | rfl
  ·exact (h.tb y hy).kept hk (fun e2 => YR (h.tb y hy) h.txn e2)
  ·exact hg.kept hk (fun e2 => YR hg h.txn e2)
 ·show ((x.te ++ [(⟨t, g, V0, [], x.tk⟩ : ETp)]).map ETp.g).Nodup
  rw [List.map_append];refine List.nodup_append.2 ⟨h.tg, by simp, fun a ha b hb => ?_⟩;obtain ⟨z, hz, rfl⟩ := List.mem_map.1 ha
  have hb : b = g := by simpa using hb
  rw [hb];exact QT z hz
 ·rcases cU hy with hy | rfl
  ·exact (h.tw y hy).kept hk (fun b hb e2 => jfd (h.tw y hy).row h.txn b hb e2) hL
  ·exact OwP.nil _ _
 ·show ((x.te ++ [(⟨t, g, V0, [], x.tk⟩ : ETp)]).map ETp.v).Pairwise Apart
  rw [List.map_append];refine List.pairwise_append.2 ⟨h.ta, by simp, fun a ha b hb => ?_⟩
  have hb : b = V0 := by simpa using hb
  rw [hb];intro c hc e2;simp [Value.ownBlock] at e2
 ·rcases cU hy with hy | rfl
  ·exact h.lot y hy
  ·exact ⟨Rq, fun b hb => by simp [Value.ownBlock] at hb⟩
theorem jdU (lo M : Nat) (gp gf gl : Int) (x : PmX) (t : Int) (w : World) (h : PmI w lo M gp gf gl x) (hn : ∀ y ∈ x.te, y.id ≠ t) :
  Calls Tryz.prog 137 #[Q3 M 0, V t] w fun e w' => e = .returned (.tuple #[]) ∧ PmI w' lo M gp gf gl { x with lt := t, te := x.te ++ [⟨t, w.heap.size, V0, [], x.tk⟩], tk := x.tk + 1 } ∧ PmK lo w w' := by
 have NF := h.box.lt;have c4 := h.box.cell 4;simp only [PmC, List.getElem?_cons_zero, List.getElem?_cons_succ] at c4;have fz := h.box.frozen;obtain ⟨w1, df⟩ : ∃ w1, w1 = (w.setCell ⟨M, 4, none⟩ (V t)) := ⟨_, rfl⟩
 have af : Kept (fun b => b = M) w w1 := by rw [df]; exact Kept.setCell (R := fun b => b = M) kZ0 (p := ⟨M, 4, none⟩) (.inr rfl) _
 have cW : Blk w1 M 92 (PmC gp gf gl { x with lt := t }) := by rw [df]; exact h.box.stored 4 _
 have eX : PmN w1 lo x := h.n.other h.box h.loM af (by decide) (by decide)
 have e7 : w1.heap.size = w.heap.size := by rw [df]; simp [World.setCell]
 have zG := Blk.newL w1 [V t, V0] 78;have ae : Same w1 (w1.alloc (.cells #[V t, V0] 78)) := kZ0.alloc _;rw [e7] at zG;have ly := eX.same ae;have aV := cW.same ae;obtain ⟨w2, iC⟩ : ∃ w2, w2 = w1.alloc (.cells #[V t, V0] 78) := ⟨_, rfl⟩;rw [← iC] at zG ae ly aV;obtain ⟨w3, gN⟩ : ∃ w3, w3 = setM w2 x.T (x.te.map ETp.kv ++ [(t, .pointer (some ⟨w.heap.size, 0, none⟩), x.tk)]) (x.tk + 1) := ⟨_, rfl⟩
 have td : ∀ e ∈ x.te.map ETp.kv, e.1 ≠ t := fun e he => by
  obtain ⟨z, hz, rfl⟩ := List.mem_map.1 he;exact hn z hz
 have r3 : (Instr.mapUpdate 88 (.map (some x.T)) (V t) (.pointer (some ⟨w.heap.size, 0, none⟩))).run Tryz.prog w2 = .ok () w3 := by
  rw [gN];exact Vf Tryz.underlying88 Tryz.underlying2 ly.txn td
 have ar : Kept (fun b => b = x.T) w2 w3 := by rw [gN]; exact Kept.setM _ _
 have iA : MapB w3 x.T (x.te.map ETp.kv ++ [(t, .pointer (some ⟨w.heap.size, 0, none⟩), x.tk)]) (x.tk + 1) := by rw [gN]; exact MapB.set ly.txn
 have HR := (show Hid (PmI w3 lo M gp gf gl { x with lt := t, te := x.te ++ [⟨t, w.heap.size, V0, [], x.tk⟩], tk := x.tk + 1 } ∧ PmK lo w w3) from ⟨⟨aV.kept ar (fun e => YR aV ly.txn e), ly.begun zG (by have := h.loM; omega) hn (fun y hy e => by have := (h.n.tb y hy).lt; omega) iA ar t, h.loM⟩, ((jfe h.box h.loM af).trans (PmK.same ae)).trans (PmK.of ar (fun b _ e => by subst e; exact ⟨ly.loT, _, ly.txn, .inl ⟨_, _, rfl⟩⟩))⟩);have c6 := cW.cell 6;simp only [PmC, List.getElem?_cons_zero, List.getElem?_cons_succ] at c6;have R3 := hid r3;clear af cW eX zG ae ly aV gN td r3 ar iA h;subst iC;have r3 := R3.out
 go_enter Tryz.func137, Tryz.ntmps137
 go_upto_region 1 with fail
 rw [← df];rw [← e7] at r3;clear df e7 c4 fz hn;go_wp2;exact bodyPost_end (results_none Tryz.results137 _ _ _) rfl ⟨rfl, HR.out⟩
theorem Yk (lo M : Nat) (gp gf gl : Int) (x : PmX) (u : Bool) (w : World) (hb : Blk w M 92 (PmC gp gf gl { x with up := u })) (hn : PmN w lo x) (hu : x.up = false) (hM : lo ≤ M) :
  Calls Tryz.prog 67 #[Q3 M 0] w fun e w' => e = .returned (.tuple #[]) ∧ PmI w' lo M gp gf gl { x with T := w.heap.size, tk := 0, te := [], B := w.heap.size + 1, bk := 0, tt := [] } ∧ PmK lo w w' := by
 have NF := hb.lt;have c3 := hb.cell 3;have c6 := hb.cell 6;have c7 := hb.cell 7;simp only [PmC, List.getElem?_cons_zero, List.getElem?_cons_succ] at c3 c6 c7;have fz := hb.frozen;obtain ⟨w1, df⟩ : ∃ w1, w1 = (w.setCell ⟨M, 3, none⟩ (.bool false)) := ⟨_, rfl⟩
 have af : Kept (fun b => b = M) w w1 := by rw [df]; exact Kept.setCell (R := fun b => b = M) kZ0 (p := ⟨M, 3, none⟩) (.inr rfl) _
 have cW : Blk w1 M 92 (PmC gp gf gl x) := by
  have h1 : Blk w1 M 92 ((PmC gp gf gl { x with up := u }).set 3 (.bool false)) := by rw [df]; exact hb.stored 3 _
  have e : (PmC gp gf gl { x with up := u }).set 3 (.bool false) = PmC gp gf gl x := by simp [PmC, hu]
  rw [e] at h1;exact h1
 have eX : PmN w1 lo x := hn.other hb hM af (by decide) (by decide)
 have e7 : w1.heap.size = w.heap.size := by rw [df]; simp [World.setCell]
 have hT := MapB.new w1;rw [e7] at hT;have nR : Same w1 (w1.alloc (.map #[] 0)) := kZ0.alloc _;obtain ⟨w2, iC⟩ : ∃ w2, w2 = w1.alloc (.map #[] 0) := ⟨_, rfl⟩;rw [← iC] at hT nR
 have dP : w2.heap.size = w.heap.size + 1 := by rw [iC, World.size_alloc, e7]
 have hB := Tab.new w2;rw [dP] at hB;have l9 : Same w2 (w2.alloc (.map #[] 0)) := kZ0.alloc _;obtain ⟨w3, gN⟩ : ∃ w3, w3 = w2.alloc (.map #[] 0) := ⟨_, rfl⟩;rw [← gN] at hB l9;have zN := eX.same (nR.trans l9);have bP := cW.same (nR.trans l9);have Cu := hT.same l9;obtain ⟨w4, dX⟩ : ∃ w4, w4 = ((w3.setCell ⟨M, 6, none⟩ (.map (some w.heap.size))).setCell ⟨M, 7, none⟩ (.map (some (w.heap.size + 1)))) := ⟨_, rfl⟩
 have aM : Kept (fun b => b = M) w3 w4 := by rw [dX]; exact Kept.setCell (R := fun b => b = M) (Kept.setCell (R := fun b => b = M) kZ0 (p := ⟨M, 6, none⟩) (.inr rfl) _) (p := ⟨M, 7, none⟩) (.inr rfl) _
 have eE : Blk w4 M 92 (PmC gp gf gl { x with T := w.heap.size, tk := 0, te := [], B := w.heap.size + 1, bk := 0, tt := [] }) := by rw [dX]; exact (bP.stored 6 _).stored 7 _
 have Jj := hn.com.lt
 have yd : PmN w4 lo { x with T := w.heap.size, tk := 0, te := [], B := w.heap.size + 1, bk := 0, tt := [] } := by
  have rL : PmN w3 lo { x with T := w.heap.size, tk := 0, te := [], B := w.heap.size + 1, bk := 0, tt := [] } :=
   ⟨zN.com, zN.cok, zN.cd, Cu, KVok.nil 0, fun t ht => by simp at ht, by simp, fun t ht => by simp at ht, by simp, ⟨hB.out, hB.ok, fun _ h => by simp at h, fun _ h => by simp at h, by show lo ≤ w.heap.size + 1; omega, fun _ h => by simp at h, by simp, fun _ h => by simp at h⟩, fun _ h => by simp at h, zN.cut, fun e => by have e : x.C = w.heap.size := e; omega, fun e => by have e : x.C = w.heap.size + 1 := e; omega, fun e => by have e : w.heap.size = w.heap.size + 1 := e; omega, fun _ h => by simp at h, zN.loC, by show lo ≤ w.heap.size; omega, fun t ht => by simp at ht, zN.ucv⟩
  exact rL.other bP hM aM (by decide) (by decide)
 have HR := (show Hid (PmI w4 lo M gp gf gl { x with T := w.heap.size, tk := 0, te := [], B := w.heap.size + 1, bk := 0, tt := [] } ∧ PmK lo w w4) from ⟨⟨eE, yd, hM⟩, ((jfe hb hM af).trans (PmK.same (nR.trans l9))).trans (jfe bP hM aM)⟩);clear hb af cW eX hT nR hB l9 zN Cu aM eE yd hn Jj hM hu;have JL := bP.cell 6;have KA := bP.cell 7;simp only [PmC, List.getElem?_cons_zero, List.getElem?_cons_succ] at JL KA;have Qi := bP.frozen;have P2 := bP.lt;have l8 := hid dX
 have r9 : (Instr.makeMap 88 none).run Tryz.prog w1 = .ok (.map (some w.heap.size)) w2 := by rw [iC, ← e7]; exact run_makeMap _ _
 have Sn : (Instr.makeMap 90 none).run Tryz.prog w2 = .ok (.map (some (w.heap.size + 1))) w3 := by rw [gN, ← dP]; exact run_makeMap _ _
 clear iC gN dX e7 dP bP
 go_enter Tryz.func67, Tryz.ntmps67
 go_upto_region 1 with fail
 rw [← df];clear df c3 c6 c7 fz;go_wp2;rw [← l8.out];exact bodyPost_end (results_none Tryz.results67 _ _ _) rfl ⟨rfl, HR.out⟩
theorem jcL (lo M : Nat) (gp gf gl : Int) (x : PmX) (C ck : Nat) (ce : List ERc) (w : World) (h : PmI w lo M gp gf gl x) (hm : MapB w C (ce.map ERc.kv) ck) (bd : KVok (ce.map ERc.kv) ck) (hd : ∀ e ∈ ce, RdL lo w e.v e.bs) (cN : lo ≤ C) (hT : C ≠ x.T) (hB : C ≠ x.B) (hi : ∀ e ∈ x.tt, e.blk ≠ C) :
  Calls Tryz.prog 119 #[Q3 M 0, .map (some C)] w fun e w' => e = .returned (.tuple #[]) ∧ PmI w' lo M gp gf gl { x with up := true, lt := 0, C := C, ck := ck, ce := ce, cv := V0, cs := [] } ∧ PmK lo w w' := by
 have c3 := h.box.cell 3;have c4 := h.box.cell 4;have c5 := h.box.cell 5;have c8 := h.box.cell 8;simp only [PmC, List.getElem?_cons_zero, List.getElem?_cons_succ] at c3 c4 c5 c8;have fz := h.box.frozen
 have HR := (show Hid (PmI ((((w.setCell ⟨M, 3, none⟩ (.bool true)).setCell ⟨M, 4, none⟩ (V 0)).setCell ⟨M, 5, none⟩ (.map (some C))).setCell ⟨M, 8, none⟩ (V0)) lo M gp gf gl { x with up := true, lt := 0, C := C, ck := ck, ce := ce, cv := V0, cs := [] } ∧ PmK lo w ((((w.setCell ⟨M, 3, none⟩ (.bool true)).setCell ⟨M, 4, none⟩ (V 0)).setCell ⟨M, 5, none⟩ (.map (some C))).setCell ⟨M, 8, none⟩ (V0))) from by
  have hk : Kept (fun b => b = M) w ((((w.setCell ⟨M, 3, none⟩ (.bool true)).setCell ⟨M, 4, none⟩ (V 0)).setCell ⟨M, 5, none⟩ (.map (some C))).setCell ⟨M, 8, none⟩ (V0)) := Kept.setCell (R := fun b => b = M) (Kept.setCell (R := fun b => b = M) (Kept.setCell (R := fun b => b = M) (Kept.setCell (R := fun b => b = M) kZ0 (p := ⟨M, 3, none⟩) (.inr rfl) _) (p := ⟨M, 4, none⟩) (.inr rfl) _) (p := ⟨M, 5, none⟩) (.inr rfl) _) (p := ⟨M, 8, none⟩) (.inr rfl) _;have n := h.n;have hn : PmN w lo { x with up := true, lt := 0, C := C, ck := ck, ce := ce, cv := V0, cs := [] } := ⟨hm, bd, hd, n.txn, n.tok, n.tb, n.tg, n.tw, n.ta, n.lk, n.full, OwP.nil _ _, hT, hB, n.tB, fun e he => ⟨hi e he, (n.ne e he).2⟩, cN, n.loT, n.lot, fun _ => ⟨rfl, rfl⟩⟩
  exact ⟨⟨(((h.box.stored 3 _).stored 4 _).stored 5 _).stored 8 _, hn.other h.box h.loM hk (by decide) (by decide), h.loM⟩, jfe h.box h.loM hk⟩)
 clear h hm bd hd cN hT hB hi
 go_enter Tryz.func119, Tryz.ntmps119
 go_wp2;exact bodyPost_end (results_none Tryz.results119 _ _ _) rfl ⟨rfl, HR.out⟩
theorem jb0 {P : Program} {o : Oper} {ev : Operand → Value} {T : TypeId} {m k y : Operand} {vm vk u : Value} {w w' : World} (ho : o.op = .mapUpdate T m k y) (hm : ev m = vm) (hk : ev k = vk) (hy : ev y = u) (hr : (Instr.mapUpdate T vm vk u).run P w = .ok () w') : (execOp ev o).run P w = .ok .skip w' := by
 simp only [execOp, ho, hm, hk, hy, Sem.run_bind, hr, Result.andThen, Sem.run_pure]
theorem jb1 {P : Program} {o : Oper} {ev : Operand → Value} {T K : TypeId} {m k : Operand} {vm vk : Value} {w w' : World} (ho : o.op = Op.call { callee := Callee.builtin Builtin.delete, args := #[m, k], argTypes := #[T, K] }) (hm : ev m = vm) (hk : ev k = vk) (hr : (Builtin.delete_ #[T, K] o.type #[vm, vk]).run P w = .ok (.tuple #[]) w') : (execOp ev o).run P w = .ok (.value (.tuple #[])) w' := by
 simp [execOp, ho, resolve, invoke, builtin, hm, hk, hr, Result.andThen]
theorem jdV {P : Program} {ops : Array Oper} {o : Oper} {a : Act} {w : World} {K : Act → World → Prop} {Q : Exit → Act → World → Prop} {E : Prop} {v : Value} {w' : World} (dY : o.guard = none) (hr : (execOp a.eval o).run P w = .ok (.value v) w') (h : K (a.put o.dst v) w') : if Region.wanted o (yielded ops a.tmps) = true then Oper.wp P o a w K Q else E := by
 have hw : Region.wanted o (yielded ops a.tmps) = true := by simp [Region.wanted, dY]
 rw [if_pos hw];unfold Oper.wp;rw [hr];exact h
theorem jdW {P : Program} {ops : Array Oper} {o : Oper} {a : Act} {w : World} {K : Act → World → Prop} {Q : Exit → Act → World → Prop} {E : Prop} {w' : World} (dY : o.guard = none) (hr : (execOp a.eval o).run P w = .ok .skip w') (h : K (a.put o.dst undef) w') : if Region.wanted o (yielded ops a.tmps) = true then Oper.wp P o a w K Q else E := by
 have hw : Region.wanted o (yielded ops a.tmps) = true := by simp [Region.wanted, dY]
 rw [if_pos hw];unfold Oper.wp;rw [hr];exact h
theorem jfg {w : World} {ops : Array Oper} {o : Oper} {a : Act} {K : Act → World → Prop} {Q : Exit → Act → World → Prop} {E : Prop} (dY : o.guard = none) (s x : Operand)
  (ho : o.op = .call { callee := .builtin .append, args := #[s, x], argTypes := #[67, 67] }) {fa : Option Addr} {fn fc B : Nat} {ps : List EWr} {p : EWr} (hs : a.eval s = .slice fa fn fc) (hx : a.eval x = Q4 B 1 1)
  (hB : Blk w B 112 (kWr.cells p)) (dj : p.v.oneCell' = true) (hW : w.ownsRow 0 112 3 (.slice fa fn fc) ps.length (kWr.all ps)) (hq : ps.length ≤ 100000000)
  (h : ∀ gF cF w', w'.ownsRow 0 112 3 (Q4 gF (fn + 1) cF) (ps ++ [p]).length (kWr.all (ps ++ [p])) → (∀ b, (Value.slice (some ⟨gF, 0, none⟩) (fn + 1) cF).ownBlock = some b → (Value.slice fa fn fc).ownBlock = some b ∨ w.heap.size ≤ b) → Kept (fun b => (Value.slice fa fn fc).ownBlock = some b) w w' → K (a.put o.dst (Q4 gF (fn + 1) cF)) w') :
  if Region.wanted o (yielded ops a.tmps) = true then Oper.wp Tryz.prog o a w K Q else E := by
 obtain ⟨i0, hi, br, aT, bv⟩ := info_parts Tryz.infoHW
 have eS : fn = ps.length := by
  rcases hW.2 with ⟨e, h1⟩ | ⟨_, _, _, e, _⟩
  ·injection e with _ e _
   rw [e, h1]
  ·injection e
 rw [← eS] at hW;refine step_append_lies (P := Tryz.prog) w dY s x 67 ho 0 112 i0 _ 3 40 Tryz.underlying67 hi br aT bv rfl (by omega) (.slice fa fn fc) fn (kWr.all ps) hs hW ⟨B, 0, none⟩ 1 1 (kWr.cells p) hx rfl (fun j u hu => ?_) (fun u hu => ?_) (by omega) (by unfold maxLen; omega) (by omega) (Nat.zero_le _) w.heap.size rfl ?_
 ·have h1 := hB.cell j
  rw [hu] at h1
  simpa [Addr.add_lit] using h1
 ·simp only [kWr, List.mem_cons, List.not_mem_nil, or_false] at hu
  rcases hu with rfl | rfl | rfl
  ·rfl
  ·rfl
  ·exact dj
 ·intro gF cF w' bh hg bU aG
  have e1 : kWr.all (ps ++ [p]) = kWr.all ps ++ kWr.cells p := by rw [kWr.all_append]; simp [RowK.all]
  refine h gF cF w' (by rw [e1, List.length_append, ← eS]; exact bh) (fun b hb => ?_) (Kept.of_grown hg (fun k e => e));have e2 : gF = b := (by simpa [Value.ownBlock] using hb);subst e2
  rcases bU with e | e
  ·exact .inl e
  ·exact .inr (by omega)
section
variable {w w' : World} {lo M : Nat} {gp gf gl : Int} {x : PmX} {pre post : List ETp} {t : ETp}
theorem PmN.mem (h : PmN w lo x) (hx : x.te = pre ++ t :: post) : t ∈ x.te := by rw [hx]; exact List.mem_append_right _ List.mem_cons_self
theorem PmN.rest (h : PmN w lo x) (hx : x.te = pre ++ t :: post) : (∀ y ∈ pre ++ post, y ∈ x.te ∧ y.id ≠ t.id ∧ y.g ≠ t.g ∧ Apart y.v t.v ∧ Apart t.v y.v) := fun y hy => by
 have Ae : y ∈ x.te := by
  rw [hx]
  rcases List.mem_append.1 hy with hy | hy
  ·exact List.mem_append_left _ hy
  ·exact List.mem_append_right _ (List.mem_cons_of_mem _ hy)
 have hk := h.tok;have hg := h.tg;have ha := h.ta;rw [hx] at hk hg ha;rw [List.map_append, List.map_cons] at hk hg ha;refine ⟨Ae, hk.others y.kv (by rw [← List.map_append]; exact List.mem_map_of_mem hy), ?_, ?_⟩
 ·obtain ⟨h1, h2, h3⟩ := List.nodup_append.1 hg
  rcases List.mem_append.1 hy with hy | hy
  ·exact h3 y.g (List.mem_map_of_mem hy) t.g List.mem_cons_self
  ·intro e'
   exact (List.nodup_cons.1 h2).1 (by rw [← e']; exact List.mem_map_of_mem hy)
 ·obtain ⟨h1, h2, h3⟩ := List.pairwise_append.1 ha
  rcases List.mem_append.1 hy with hy | hy
  ·have h4 := h3 y.v (List.mem_map_of_mem hy) t.v List.mem_cons_self
   exact ⟨h4, fun c hc e => h4 c e hc⟩
  ·have h4 := (List.pairwise_cons.1 h2).1 y.v (List.mem_map_of_mem hy)
   exact ⟨fun c hc e => h4 c e hc, h4⟩
theorem PmN.ended (h : PmN w lo x) (hx : x.te = pre ++ t :: post) (hm : MapB w' x.T ((pre ++ post).map ETp.kv) x.tk) (hk : Kept (fun b => b = x.T) w w') : PmN w' lo { x with te := pre ++ post } := by
 have hL : Kept (fun b => lo ≤ b) w w' := hk.mono (fun b _ e => by rw [e]; exact h.loT);have hr := h.rest hx
 have hs : (pre ++ post).Sublist x.te := by rw [hx]; exact List.Sublist.append_left (List.sublist_cons_self _ _) _
 have bd := h.tok;rw [hx, List.map_append, List.map_cons] at bd;refine ⟨h.com.kept hk h.cT, h.cok, fun e he => (h.cd e he).onL hL, hm, ?_, fun y hy => (h.tb y (hr y hy).1).kept hk (fun e2 => YR (h.tb y (hr y hy).1) h.txn e2), List.Nodup.sublist (hs.map _) h.tg, fun y hy => (h.tw y (hr y hy).1).kept hk (fun b hb e2 => jfd (h.tw y (hr y hy).1).row h.txn b hb e2) hL, List.Pairwise.sublist (hs.map _) h.ta, h.lk.kept hk (fun e => h.tB e.symm) (fun e he e2 => (h.ne e he).2 e2), h.full, h.cut.kept hk (fun b hb e2 => jfd h.cut.row h.txn b hb e2) hL, h.cT, h.cB, h.tB, h.ne, h.loC, h.loT, fun y hy => h.lot y (hr y hy).1, h.ucv⟩
 show KVok ((pre ++ post).map ETp.kv) x.tk
 rw [List.map_append];exact KVok.drop bd
theorem PmN.wrote (h : PmN w lo x) (hx : x.te = pre ++ t :: post) (cL : x.up = true) {nv : Value} {p : EWr} (aX : w'.ownsRow 0 112 3 nv (t.ps ++ [p]).length (kWr.all (t.ps ++ [p]))) (hp : RdL lo w p.v p.bs) (hb : Blk w' t.g 78 [V t.id, nv]) (hk : Kept (fun b => b = t.g ∨ t.v.ownBlock = some b) w w') (bU : ∀ b, nv.ownBlock = some b → t.v.ownBlock = some b ∨ w.heap.size ≤ b) : PmN w' lo { x with te := pre ++ ⟨t.id, t.g, nv, t.ps ++ [p], t.st⟩ :: post } ∧ PmK lo w w' := by
 have hm := h.mem hx;have hr := h.rest hx
 have cN : ∀ {b : Nat}, (b = t.g ∨ t.v.ownBlock = some b) → lo ≤ b := fun hh => by
  rcases hh with rfl | hh
  ·exact (h.lot t hm).1
  ·exact (h.lot t hm).2 _ hh
 have hL : Kept (fun b => lo ≤ b) w w' := hk.mono (fun b _ e => cN e)
 have hM : ∀ {C ck : Nat} {kv : List KV}, MapB w C kv ck → ¬ (C = t.g ∨ t.v.ownBlock = some C) := fun hc hh => by
  rcases hh with hh | hh
  ·exact YR (h.tb t hm) hc hh.symm
  ·exact jfd (h.tw t hm).row hc _ hh rfl
 have dK : ∀ {y : ETp}, y ∈ pre ++ ⟨t.id, t.g, nv, t.ps ++ [p], t.st⟩ :: post → y ∈ pre ++ post ∨ y = ⟨t.id, t.g, nv, t.ps ++ [p], t.st⟩ := fun hy => by
  rcases List.mem_append.1 hy with hy | hy
  ·exact .inl (List.mem_append_left _ hy)
  ·rcases List.mem_cons.1 hy with hy | hy
   ·exact .inr hy
   ·exact .inl (List.mem_append_right _ hy)
 have e1 : (pre ++ (⟨t.id, t.g, nv, t.ps ++ [p], t.st⟩ : ETp) :: post).map ETp.kv = x.te.map ETp.kv := by rw [hx]; simp [ETp.kv]
 have e2 : (pre ++ (⟨t.id, t.g, nv, t.ps ++ [p], t.st⟩ : ETp) :: post).map ETp.g = x.te.map ETp.g := by rw [hx]; simp
 have nF : ∀ {y : ETp}, y ∈ pre ++ post → ∀ b, y.v.ownBlock = some b → ¬ nv.ownBlock = some b := fun hy b hb e => by
  rcases bU b e with h1 | h1
  ·exact (hr _ hy).2.2.2.1 b hb h1
  ·obtain ⟨cs, hc⟩ := UM (h.tw _ (hr _ hy).1).row hb
   have := (Array.getElem?_eq_some_iff.1 hc).1;omega
 have AY := (h.ucv cL).1;refine ⟨⟨h.com.kept hk (hM h.com), h.cok, fun e he => (h.cd e he).onL hL, ?_, ?_, fun y hy => ?_, ?_, fun y hy => ?_, ?_, h.lk.kept hk (hM h.lk.out) (fun e he => hM (h.lk.inn e he)), h.full, h.cut.kept hk (fun b hb => by rw [AY] at hb; simp [Value.ownBlock] at hb) hL, h.cT, h.cB, h.tB, h.ne, h.loC, h.loT, fun y hy => ?_, h.ucv⟩, PmK.of hk (fun b hb hh => ⟨cN hh, ?_⟩)⟩
 ·show MapB w' x.T _ _
  rw [e1];exact h.txn.kept hk (hM h.txn)
 ·show KVok _ _
  rw [e1];exact h.tok
 ·rcases dK hy with hy | rfl
  ·exact (h.tb y (hr y hy).1).kept hk (fun hh => by
    rcases hh with hh | hh
    ·exact (hr y hy).2.2.1 hh
    ·exact Un (h.tb y (hr y hy).1) (h.tw t hm).row (by decide) _ hh rfl)
  ·exact hb
 ·show List.Nodup _
  rw [e2];exact h.tg
 ·rcases dK hy with hy | rfl
  ·exact (h.tw y (hr y hy).1).kept hk (fun b hb hh => by
    rcases hh with hh | hh
    ·exact Un (h.tb t hm) (h.tw y (hr y hy).1).row (by decide) b hb hh
    ·exact (hr y hy).2.2.2.1 b hb hh) hL
  ·exact ⟨aX, fun q hq => by
    rcases List.mem_append.1 hq with hq | hq
    ·exact ((h.tw t hm).data q hq).onL hL
    ·rw [List.mem_singleton.1 hq]
     exact hp.onL hL⟩
 ·show ((pre ++ (⟨t.id, t.g, nv, t.ps ++ [p], t.st⟩ : ETp) :: post).map ETp.v).Pairwise Apart
  have ha := h.ta;rw [hx, List.map_append, List.map_cons] at ha;rw [List.map_append, List.map_cons];obtain ⟨h1, h2, h3⟩ := List.pairwise_append.1 ha;refine List.pairwise_append.2 ⟨h1, List.pairwise_cons.2 ⟨fun b hb => ?_, (List.pairwise_cons.1 h2).2⟩, fun a ha b hb => ?_⟩
  ·obtain ⟨y, hy, rfl⟩ := List.mem_map.1 hb
   exact fun c hc e => nF (List.mem_append_right _ hy) c e hc
  ·obtain ⟨y, hy, rfl⟩ := List.mem_map.1 ha
   rcases List.mem_cons.1 hb with rfl | hb
   ·exact nF (List.mem_append_left _ hy)
   ·exact h3 y.v (List.mem_map_of_mem hy) b (List.mem_cons_of_mem _ hb)
 ·rcases dK hy with hy | rfl
  ·exact h.lot y (hr y hy).1
  ·refine ⟨(h.lot t hm).1, fun b hb => ?_⟩
   rcases bU b hb with h1 | h1
   ·exact (h.lot t hm).2 b h1
   ·have := h.txn.lt
    have := h.loT;omega
 ·rcases hh with rfl | hh
  ·exact ⟨_, h.tb t hm, .inr (.inr ⟨_, .inr (.inl rfl)⟩)⟩
  ·obtain ⟨cs, hc⟩ := UM (h.tw t hm).row hh
   exact ⟨_, hc, .inr (.inr ⟨_, .inr (.inr rfl)⟩)⟩
end
def jhw (w w' : World) (e : Ending) (lo M : Nat) (gp gf gl : Int) (x : PmX) (te : List ETp) (ls : List T3) : Prop := e = .returned (.tuple #[]) ∧ ∃ aO bO, PmI w' lo M gp gf gl { x with tt := aO, bk := bO, te := te } ∧ (Uh aO).Perm ls ∧ PmK lo w w'
theorem jcM (lo M : Nat) (gp gf gl : Int) (x : PmX) (pre post : List ETp) (t : ETp) (w : World) (h : PmI w lo M gp gf gl x) (hx : x.te = pre ++ t :: post) :
  Calls Tryz.prog 156 #[Q3 M 0, .pointer (some ⟨t.g, 0, none⟩)] w fun e w' => jhw w w' e lo M gp gf gl x (pre ++ post) ((Uh x.tt).filter (Yr t.id)) := by
 have H := hid h;have HX := hid hx;have HB := (show Hid (∀ wx x', PmI wx lo M gp gf gl x' → x'.te = pre ++ t :: post → wx.cell? ⟨M, 6, none⟩ = some (.map (some x'.T)) ∧ wx.cell? ⟨M, 7, none⟩ = some (.map (some x'.B)) ∧ wx.cell? ⟨t.g, 0, none⟩ = some (V t.id)) from fun wx x' h' dT => ⟨h'.box.cell 6, h'.box.cell 7, (h'.n.tb t (h'.n.mem dT)).cell 0⟩);clear h hx
 go_enter Tryz.func156, Tryz.ntmps156
 go_wp2_with fail
 refine TT (fun wx : World => wx.cell? ⟨M, 7, none⟩ = some (.map (some x.B)) ∧ wx.cell? ⟨t.g, 0, none⟩ = some (V t.id)) 99 9 rfl (by kernel_rfl) ?_;have af : Same w (World.drew w) := kZ0.drew;generalize World.drew w = w1 at af ⊢;have H1 := hid (H.out.same af);have ao := (show Hid (PmK lo w w1) from PmK.same af);clear af H;have hS : (fun wx : World => wx.cell? ⟨M, 7, none⟩ = some (.map (some x.B)) ∧ wx.cell? ⟨t.g, 0, none⟩ = some (V t.id)) w1 := (HB.out w1 x H1.out HX.out).2;refine tk 0 4 hS ?_;refine tk 1 5 hS ?_;refine tk 2 6 hS ?_;refine tk 3 7 hS ?_;refine tk 4 8 hS ?_;refine tk 5 9 hS ?_;refine tk 6 10 hS ?_;refine tk 7 11 hS ?_;refine o1Q 8 (fun Kc ak => ?_);go_simp;refine (jfc w1 lo x.B x.bk x.tt t.id H1.out.n.lk).mono ?_;rintro e w2 ⟨rfl, aO, ⟨bO, hT⟩, hP, hK, hF⟩;have hl := H1.out.locks hT (hF H1.out.n.full) hK;have H2 := hid hl.1;have HP := hid hP;have ap := hid (ao.out.trans hl.2);clear hT hP hK hF hl hS;have aV := HB.out w2 { x with tt := aO, bk := bO } H2.out HX.out;have hS : (fun wx : World => wx.cell? ⟨M, 7, none⟩ = some (.map (some x.B)) ∧ wx.cell? ⟨t.g, 0, none⟩ = some (V t.id)) w2 := aV.2
 go_wp2_with fail
 refine ak.out _ _ (fun _ => hS) ?_;clear ak Kc
 try simp only [Act.put, sA, s0, sS]
 refine TS (by kernel_rfl) ?_
 try simp only [Act.put, sA, s0, sS]
 clear hS aV ao H1
 go_wp2_with fail
 refine TT (fun wx : World => wx.cell? ⟨M, 6, none⟩ = some (.map (some x.T)) ∧ wx.cell? ⟨t.g, 0, none⟩ = some (V t.id)) 99 9 rfl (by kernel_rfl) ?_;have ar : Same w2 (World.drew w2) := kZ0.drew;generalize World.drew w2 = w3 at ar ⊢;have H3 := hid (H2.out.same ar);have ax := hid (ap.out.trans (PmK.same ar));clear ar H2 ap;have bP := HB.out w3 { x with tt := aO, bk := bO } H3.out HX.out;have hS : (fun wx : World => wx.cell? ⟨M, 6, none⟩ = some (.map (some x.T)) ∧ wx.cell? ⟨t.g, 0, none⟩ = some (V t.id)) w3 := ⟨bP.1, bP.2.2⟩;clear bP;refine tk 0 13 hS ?_;refine tk 1 14 hS ?_;refine tk 2 15 hS ?_;refine tk 3 16 hS ?_;refine tk 4 17 hS ?_;refine tk 5 18 hS ?_;refine tk 6 19 hS ?_;refine tk 7 20 hS ?_;obtain ⟨w4, dX⟩ : ∃ w4, w4 = setM w3 x.T ((pre ++ post).map ETp.kv) x.tk := ⟨_, rfl⟩
 have bJ : MapB w3 x.T (pre.map ETp.kv ++ (t.id, .pointer (some ⟨t.g, 0, none⟩), t.st) :: post.map ETp.kv) x.tk := by
  have h := H3.out.n.txn
  have e : x.te.map ETp.kv = pre.map ETp.kv ++ (t.id, .pointer (some ⟨t.g, 0, none⟩), t.st) :: post.map ETp.kv := by rw [HX.out, List.map_append, List.map_cons]; rfl
  rw [← e];exact h
 have DV : ∀ ty, (Builtin.delete_ #[88, 2] ty #[.map (some x.T), V t.id]).run Tryz.prog w3 = .ok (.tuple #[]) w4 := fun ty => by
  rw [dX, List.map_append]
  exact VS Tryz.underlying88 Tryz.underlying2 bJ (fun e he => by
   obtain ⟨y, hy, rfl⟩ := List.mem_map.1 he
   exact (H3.out.n.rest HX.out y (List.mem_append_left _ hy)).2.1)
 have aM : Kept (fun b => b = x.T) w3 w4 := by rw [dX]; exact Kept.setM _ _
 have HR := (show Hid (jhw w w4 (.returned (.tuple #[])) lo M gp gf gl x (pre ++ post) ((Uh x.tt).filter (Yr t.id))) from ⟨rfl, aO, bO, ⟨H3.out.box.kept aM (fun e => YR H3.out.box H3.out.n.txn e), H3.out.n.ended HX.out (by rw [dX]; exact MapB.set H3.out.n.txn) aM, H3.out.loM⟩, HP.out, ax.out.trans (PmK.of aM (fun b _ e => by subst e; exact ⟨H3.out.n.loT, _, H3.out.n.txn, .inl ⟨_, _, rfl⟩⟩))⟩);have mF := (show Hid (w4.cell? ⟨M, 6, none⟩ = some (.map (some x.T)) ∧ w4.cell? ⟨t.g, 0, none⟩ = some (V t.id)) from ⟨(H3.out.box.kept aM (fun e => YR H3.out.box H3.out.n.txn e)).cell 6, ((H3.out.n.tb t (H3.out.n.mem HX.out)).kept aM (fun e => YR (H3.out.n.tb t (H3.out.n.mem HX.out)) H3.out.n.txn e)).cell 0⟩);clear bJ aM dX;refine o1Q 8 (fun Kc ak => ?_);refine jdV rfl (jb1 (vm := .map (some x.T)) (vk := V t.id) (by rfl) (by rfl) (by rfl) (DV _)) ?_;have Ed : (fun wx : World => wx.cell? ⟨M, 6, none⟩ = some (.map (some x.T)) ∧ wx.cell? ⟨t.g, 0, none⟩ = some (V t.id)) w4 := ⟨mF.out.1, mF.out.2⟩;refine ak.out _ _ (fun _ => Ed) ?_;clear ak Kc hS Ed DV
 try simp only [List.getElem_toArray, List.getElem_cons_succ, List.getElem_cons_zero]
 refine TS (by kernel_rfl) ?_
 try simp only [Act.put, sA, s0, sS]
 go_wp2;exact bodyPost_end (results_none Tryz.results156 _ _ _) rfl HR.out
def WrR (w w' : World) (e : Ending) (lo M : Nat) (gp gf gl : Int) (x : PmX) (pre post : List ETp) (t : ETp) (p : EWr) (ls : List T3) : Prop := e = .returned (.tuple #[]) ∧ ∃ aO bO nv, PmI w' lo M gp gf gl { x with tt := aO, bk := bO, te := pre ++ ⟨t.id, t.g, nv, t.ps ++ [p], t.st⟩ :: post } ∧ (Uh aO).Perm ls ∧ PmK lo w w'
theorem YS (lo M : Nat) (gp gf gl : Int) (x : PmX) (pre post : List ETp) (t : ETp) (ls : List T3) (id : Int) (u : Bool) (da : Option Addr) (dn dc : Nat) (d : List Int) (w : World) (h : PmI w lo M gp gf gl x) (hx : x.te = pre ++ t :: post) (cL : x.up = true) (hp : (Uh x.tt).Perm ls) (hg : GoodL ls) (hA : Wd ls (id, t.id, 2) = 0) (hd : RdL lo w (.slice da dn dc) d) (az : t.ps.length ≤ 100000000) :
  Calls Tryz.prog 149 #[Q3 M 0, .pointer (some ⟨t.g, 0, none⟩), V id, .agg #[.bool u, .slice da dn dc]] w fun e w' => WrR w w' e lo M gp gf gl x pre post t ⟨id, u, .slice da dn dc, d⟩ (Vb ls t.id id 2) := by
 have fF := Blk.newL w [.bool u, .slice da dn dc] 110;have bT : Same w (w.alloc (.cells #[.bool u, .slice da dn dc] 110)) := kZ0.alloc _;obtain ⟨X, aQ⟩ : ∃ X, w.heap.size = X := ⟨_, rfl⟩;rw [aQ] at fF
 obtain ⟨wa, wn, wc, cC⟩ : ∃ wa wn wc, t.v = .slice wa wn wc := by
  obtain ⟨a, c, e⟩ := (h.n.tw t (h.n.mem hx)).form;exact ⟨a, _, c, e⟩
 have oB := hid cC;have H := hid h;have HX := hid hx;have HL := (show Hid (∀ wx, PmI wx lo M gp gf gl x → _) from fun wx h' => Zy lo M gp gf gl x ls t.id id 2 wx h' hp hg hA);have HD := hid hd;clear h hx hp hg hA hd cC
 go_enter Tryz.func149, Tryz.ntmps149
 go_upto_region 1 with fail
 try rw [aQ]
 generalize w.alloc (.cells #[.bool u, .slice da dn dc] 110) = w1 at fF bT ⊢;have gk := hid fF;have H1 := hid (H.out.same bT);have ao := (show Hid (PmK lo w w1) from PmK.same bT);have t0 := (H1.out.n.tb t (H1.out.n.mem HX.out)).cell 0;simp only [List.getElem?_cons_zero] at t0;have kL := HL.out w1 H1.out;clear fF bT aQ H HL
 go_wp2_with fail
 refine kL.mono ?_;rintro e w2 ⟨rfl, aO, bO, h2, hP, ae⟩;have H2 := hid h2;have HP := hid hP;have ap := hid (ao.out.trans ae);have eP := hid (ae.blk gk.out (by decide) (by decide) (by decide));clear kL h2 hP ae t0 H1 ao gk
 go_wp2_with fail
 refine TT (fun wx : World => wx.cell? ⟨t.g, 1, none⟩ = some (.slice wa wn wc) ∧ wx.cell? ⟨X, 0, none⟩ = some (.bool u) ∧ wx.cell? ⟨X, 1, none⟩ = some (.slice da dn dc)) 12 13 rfl (by kernel_rfl) ?_;have ar : Same w2 (World.drew w2) := kZ0.drew;generalize World.drew w2 = w3 at ar ⊢;have H3 := hid (H2.out.same ar);have gM := hid (eP.out.same ar);have ax := hid (ap.out.trans (PmK.same ar));clear ar H2 eP ap
 have qU := (show Hid (Blk w3 t.g 78 [V t.id, .slice wa wn wc] ∧ w3.ownsRow 0 112 3 (.slice wa wn wc) t.ps.length (kWr.all t.ps)) from by
  have h1 := H3.out.n.tb t (H3.out.n.mem HX.out);have h2 := (H3.out.n.tw t (H3.out.n.mem HX.out)).row;rw [oB.out] at h1 h2
  exact ⟨h1, h2⟩)
 have hS : (fun wx : World => wx.cell? ⟨t.g, 1, none⟩ = some (.slice wa wn wc) ∧ wx.cell? ⟨X, 0, none⟩ = some (.bool u) ∧ wx.cell? ⟨X, 1, none⟩ = some (.slice da dn dc)) w3 := ⟨qU.out.1.cell 1, gM.out.cell 0, gM.out.cell 1⟩;refine tk 0 15 hS ?_;refine tk 1 16 hS ?_;refine tk 2 17 hS ?_;refine tk 3 18 hS ?_;refine tk 4 19 hS ?_;refine tk 5 20 hS ?_;refine tk 6 21 hS ?_;refine tk 7 22 hS ?_;refine o1Q 8 (fun Kc ak => ?_);go_simp;have eE := Blk.newL w3 [V id, .bool u, .slice da dn dc] 112;have aM : Same w3 (w3.alloc (.cells #[V id, .bool u, .slice da dn dc] 112)) := kZ0.alloc _;obtain ⟨Y, hY⟩ : ∃ Y, w3.heap.size = Y := ⟨_, rfl⟩;rw [hY] at eE
 try rw [hY]
 generalize w3.alloc (.cells #[V id, .bool u, .slice da dn dc] 112) = w4 at eE aM ⊢;have iM := hid eE;have H4 := hid (H3.out.same aM);have l6 := hid (gM.out.same aM);have aR := hid (ax.out.trans (PmK.same aM));have iU := (show Hid (Blk w4 t.g 78 [V t.id, .slice wa wn wc] ∧ w4.ownsRow 0 112 3 (.slice wa wn wc) t.ps.length (kWr.all t.ps)) from ⟨qU.out.1.same aM, aM.owns qU.out.2 (fun _ _ h => h)⟩);clear eE aM hY hS H3 gM ax qU;have hS : (fun wx : World => wx.cell? ⟨t.g, 1, none⟩ = some (.slice wa wn wc) ∧ wx.cell? ⟨X, 0, none⟩ = some (.bool u) ∧ wx.cell? ⟨X, 1, none⟩ = some (.slice da dn dc)) w4 := ⟨iU.out.1.cell 1, l6.out.cell 0, l6.out.cell 1⟩;refine ak.out _ _ (fun _ => hS) ?_;clear ak Kc
 try simp only [Act.put, sA, s0, sS]
 refine o1Q 9 (fun Kc ak => ?_);refine jfg rfl (.tmp 19) (.tmp 23) (by rfl) (p := ⟨id, u, .slice da dn dc, d⟩) (by rfl) (by rfl) iM.out rfl iU.out.2 az ?_;intro gF cF w5 NH b9 mU;have mK := hid NH;have N5 := hid b9;have aH := hid mU;have cP := (show Hid (Blk w5 t.g 78 [V t.id, .slice wa wn wc]) from iU.out.1.kept mU (fun e => Un iU.out.1 iU.out.2 (by decide) t.g e rfl));have gw := hid (l6.out.kept mU (fun e => Un l6.out iU.out.2 (by decide) X e rfl));clear NH b9 mU hS iM;have hS : (fun wx : World => wx.cell? ⟨t.g, 1, none⟩ = some (.slice wa wn wc) ∧ wx.cell? ⟨X, 0, none⟩ = some (.bool u) ∧ wx.cell? ⟨X, 1, none⟩ = some (.slice da dn dc)) w5 := ⟨cP.out.cell 1, gw.out.cell 0, gw.out.cell 1⟩;refine ak.out _ _ (fun _ => hS) ?_;clear ak Kc
 try simp only [List.getElem_toArray, List.getElem_cons_succ, List.getElem_cons_zero]
 try simp only [Act.put, sA, s0, sS]
 have c1 := cP.out.cell 1;simp only [List.getElem?_cons_zero, List.getElem?_cons_succ] at c1;have f1 := cP.out.frozen 1;refine o1Q 10 (fun Kc ak => ?_);go_simp;refine ak.out _ _ (fun _ => hS) ?_;clear ak Kc
 try simp only [Act.put, sA, s0, sS]
 refine o1Q 11 (fun Kc ak => ?_);go_simp;refine ak.out _ _ (fun _ => hS) ?_;clear ak Kc
 try simp only [Act.put, sA, s0, sS]
 refine o1Q 12 (fun Kc ak => ?_);go_simp;refine ak.out _ _ (fun h => absurd rfl h) ?_;clear ak Kc hS;refine TS (by kernel_rfl) ?_
 try simp only [Act.put, sA, s0, sS]
 have HR := (show Hid (WrR w (w5.setCell ⟨t.g, 1, none⟩ (Q4 gF (wn + 1) cF)) (.returned (.tuple #[])) lo M gp gf gl x pre post t ⟨id, u, .slice da dn dc, d⟩ (Vb ls t.id id 2)) from by
  have aN : Kept (fun b => b = t.g) w5 (w5.setCell ⟨t.g, 1, none⟩ (Q4 gF (wn + 1) cF)) := Kept.setCell (R := fun b => b = t.g) kZ0 (p := ⟨t.g, 1, none⟩) (.inr rfl) _;have gP : Kept (fun b => b = t.g ∨ t.v.ownBlock = some b) w4 (w5.setCell ⟨t.g, 1, none⟩ (Q4 gF (wn + 1) cF)) := (aH.out.mono (fun b _ e => .inr (by rw [oB.out]; exact e))).next aN (fun i _ e => .inl e);have QI : Blk (w5.setCell ⟨t.g, 1, none⟩ (Q4 gF (wn + 1) cF)) t.g 78 [V t.id, Q4 gF (wn + 1) cF] := cP.out.stored 1 _;have Sg := aN.owns mK.out (Un cP.out mK.out (by decide))
  have hm : t ∈ x.te := by rw [HX.out]; exact List.mem_append_right _ List.mem_cons_self
  have h7 := H4.out.n.wrote (x := { x with tt := aO, bk := bO }) (p := ⟨id, u, .slice da dn dc, d⟩) HX.out cL Sg (HD.out.onL aR.out.2) QI gP (fun b hb => by rw [oB.out]; exact N5.out b hb);refine ⟨rfl, aO, bO, _, ⟨H4.out.box.kept gP (fun hh => ?_), h7.1, H4.out.loM⟩, HP.out, aR.out.trans h7.2⟩
  rcases hh with hh | hh
  ·exact jhv H4.out.box (H4.out.n.tb t hm) (by decide) hh
  ·rw [oB.out] at hh
   exact Un H4.out.box iU.out.2 (by decide) M hh rfl)
 clear c1 f1 mK N5 aH cP gw H4 l6 aR iU;generalize w5.setCell ⟨t.g, 1, none⟩ (Q4 gF (wn + 1) cF) = w6 at HR ⊢;go_wp2;exact bodyPost_end (results_none Tryz.results149 _ _ _) rfl HR.out
theorem jcN (b : Nat) (kv : List KV) (ck : Nat) (w : World) (hb : MapB w b kv ck) :
  Calls Tryz.prog 134 #[.map (some b)] w fun e w' => e = .returned (.map (some w.heap.size)) ∧ w' = w.alloc (.map (UA kv).toArray ck) := by
 have hq := fun w => run_eql_map_nil_sl (P := Tryz.prog) w 87 _ _ (some b) Tryz.underlying87
 go_enter Tryz.func134, Tryz.ntmps134
 go_wp2;rw [run_callFunc_extern Tryz.func170 (by kernel_rfl) (by kernel_rfl) (by kernel_rfl) (e := Extern.MapsClone.clone) (by kernel_rfl), run_maps_clone_sl w 87 hb];simp only [Result.andThen];rw [Oper.upon_value];go_wp2;rw [run_typeAssert_map_sl _ 87 20 _ _ _ Tryz.underlying87];simp only [Result.andThen];rw [Oper.upon_value];go_wp2;go_ret;exact ⟨rfl, rfl⟩
theorem Zz (id : Int) (d : List Int) : ∀ rs : List RcD, Vj id d true rs = rs.filter (fun r => decide (r.1 ≠ id))
 | [] => rfl
 | r :: rs => by
  rw [VZ]
  show ([] ++ (if decide (r.1 ≠ id) then [r] else []) ++ Vj id d true rs) = _
  rw [Zz id d rs, List.nil_append, List.filter_cons]
  split <;> rfl
theorem ZA (id : Int) (d : List Int) : ∀ rs : List RcD, (Vj id d false rs).Perm ((id, d) :: rs.filter (fun r => decide (r.1 ≠ id)))
 | [] => List.Perm.refl _
 | r :: rs => by
  rw [VZ]
  by_cases h : id < r.1
  ·have e : (if !false && decide (id < r.1) then [(id, d)] else []) ++ (if decide (r.1 ≠ id) then [r] else []) ++ Vj id d (false || decide (id < r.1)) rs = (id, d) :: ((if decide (r.1 ≠ id) then [r] else []) ++ Vj id d true rs) := by simp [h]
   rw [e, Zz, List.filter_cons]
   split <;> exact List.Perm.refl _
  ·have e : (if !false && decide (id < r.1) then [(id, d)] else []) ++ (if decide (r.1 ≠ id) then [r] else []) ++ Vj id d (false || decide (id < r.1)) rs = (if decide (r.1 ≠ id) then [r] else []) ++ Vj id d false rs := by simp [h]
   rw [e, List.filter_cons];have ih := ZA id d rs
   split
   ·exact (ih.cons r).trans (List.Perm.swap _ _ _)
   ·exact ih
theorem ZB (id : Int) (ce : List ERc) : (∀ e ∈ ce, e.id ≠ id) ∨ ∃ pre e post, ce = pre ++ e :: post ∧ e.id = id ∧ ∀ y ∈ pre, y.id ≠ id := by
 induction ce with
 | nil => exact .inl (fun _ h => by simp at h)
 | cons e r ih =>
  by_cases h : e.id = id
  ·exact .inr ⟨[], e, r, rfl, h, fun _ h => by simp at h⟩
  ·rcases ih with ih | ⟨pre, e', post, rfl, he, hp⟩
   ·exact .inl (fun y hy => by rcases List.mem_cons.1 hy with rfl | hy; exact h; exact ih y hy)
   ·exact .inr ⟨e :: pre, e', post, rfl, he, fun y hy => by rcases List.mem_cons.1 hy with rfl | hy; exact h; exact hp y hy⟩
theorem WL {ce : List ERc} {id : Int} (h : ∀ e ∈ ce, e.id ≠ id) : ∀ e ∈ ce.map ERc.kv, e.1 ≠ id := fun e he => by
 obtain ⟨y, hy, rfl⟩ := List.mem_map.1 he;exact h y hy
theorem XJ (pre post : List ERc) (e : ERc) : (pre ++ e :: post).map ERc.kv = pre.map ERc.kv ++ (e.id, .agg #[.bool true, e.v], e.st) :: post.map ERc.kv := by
 rw [List.map_append, List.map_cons]; rfl
theorem YT {pre post : List ERc} {e : ERc} {ck : Nat} (h : KVok ((pre ++ e :: post).map ERc.kv) ck) : ∀ y ∈ pre ++ post, y.id ≠ e.id := fun y hy => by
 rw [XJ] at h;exact h.others y.kv (by rw [← List.map_append]; exact List.mem_map_of_mem hy)
theorem YU {ce : List ERc} {id : Int} (h : ∀ e ∈ ce, e.id ≠ id) : (ce.map ERc.dat).filter (fun r => decide (r.1 ≠ id)) = ce.map ERc.dat := List.filter_eq_self.2 (fun r hr => by
 obtain ⟨y, hy, rfl⟩ := List.mem_map.1 hr
 exact decide_eq_true (h y hy))
theorem ZV {pre post : List ERc} {e : ERc} (h : ∀ y ∈ pre ++ post, y.id ≠ e.id) : ((pre ++ e :: post).map ERc.dat).filter (fun r => decide (r.1 ≠ e.id)) = (pre ++ post).map ERc.dat := by
 rw [List.map_append, List.map_cons, List.filter_append, List.filter_cons_of_neg (by simp [ERc.dat]), ← List.filter_append, ← List.map_append];exact YU h
structure RcM (lo : Nat) (w : World) (C ck : Nat) (ce : List ERc) : Prop where
 map : MapB w C (ce.map ERc.kv) ck
 ok : KVok (ce.map ERc.kv) ck
 data : ∀ e ∈ ce, RdL lo w e.v e.bs
theorem RcM.same {lo : Nat} {w w' : World} {C ck : Nat} {ce : List ERc} (h : RcM lo w C ck ce) (hk : Same w w') : RcM lo w' C ck ce := ⟨h.map.same hk, h.ok, fun e he => (h.data e he).onL (hk.mono (fun _ _ e => e.elim))⟩
theorem RcM.put {lo : Nat} {w : World} {C ck : Nat} {ce : List ERc} (h : RcM lo w C ck ce) (hC : lo ≤ C) (id : Int) {v : Value} {bs : List Int} (hv : RdL lo w v bs) {D : List RcD} (hD : (ce.map ERc.dat).Perm D) :
  ∃ w' ck' mj, (Instr.mapUpdate 87 (.map (some C)) (V id) (.agg #[.bool true, v])).run Tryz.prog w = .ok () w' ∧ RcM lo w' C ck' mj ∧ (mj.map ERc.dat).Perm (ja2 D (id, true, bs)) ∧ Kept (fun b => b = C) w w' := by
 have hp : ∀ {l : List RcD}, l.Perm ((id, bs) :: (ce.map ERc.dat).filter (fun r => decide (r.1 ≠ id))) → l.Perm (ja2 D (id, true, bs)) := fun hl => hl.trans (((hD.filter _).cons _).trans (ZA id bs D).symm)
 rcases ZB id ce with hm | ⟨pre, e, post, rfl, rfl, cG⟩
 ·refine ⟨_, ck + 1, ce ++ [⟨id, v, bs, ck⟩], Vf Tryz.underlying87 Tryz.underlying2 h.map (WL hm), ⟨?_, ?_, fun y hy => ?_⟩, ?_, Kept.setM _ _⟩
  ·rw [List.map_append]
   exact MapB.set h.map
  ·rw [List.map_append]
   exact h.ok.snoc (WL hm)
  ·have hL : Kept (fun b => lo ≤ b) w (setM w C (ce.map ERc.kv ++ [(id, .agg #[.bool true, v], ck)]) (ck + 1)) := (Kept.setM _ _).mono (fun b _ e => by rw [e]; exact hC)
   rcases List.mem_append.1 hy with hy | hy
   ·exact (h.data y hy).onL hL
   ·rw [List.mem_singleton.1 hy]
    exact hv.onL hL
  ·apply hp
   rw [YU hm, List.map_append];exact List.perm_append_comm
 ·have ho := YT h.ok
  have bJ := h.map;rw [XJ] at bJ;refine ⟨_, ck, pre ++ ⟨e.id, v, bs, e.st⟩ :: post, WJ Tryz.underlying87 Tryz.underlying2 bJ (WL cG), ⟨?_, ?_, fun y hy => ?_⟩, ?_, Kept.setM _ _⟩
  ·rw [XJ]
   exact MapB.set bJ
  ·have hk := h.ok
   rw [XJ] at hk ⊢;exact hk.store
  ·have hL : Kept (fun b => lo ≤ b) w (setM w C (pre.map ERc.kv ++ (e.id, .agg #[.bool true, v], e.st) :: post.map ERc.kv) ck) := (Kept.setM _ _).mono (fun b _ e => by rw [e]; exact hC)
   rcases List.mem_append.1 hy with hy | hy
   ·exact (h.data y (List.mem_append_left _ hy)).onL hL
   ·rcases List.mem_cons.1 hy with rfl | hy
    ·exact hv.onL hL
    ·exact (h.data y (List.mem_append_right _ (List.mem_cons_of_mem _ hy))).onL hL
  ·apply hp
   rw [ZV ho, List.map_append, List.map_append, List.map_cons];exact List.perm_middle
theorem RcM.del {lo : Nat} {w : World} {C ck : Nat} {ce : List ERc} (h : RcM lo w C ck ce) (hC : lo ≤ C) (id : Int) (bs : List Int) {D : List RcD} (hD : (ce.map ERc.dat).Perm D) (ty : TypeId) :
  ∃ w' mj, (Builtin.delete_ #[87, 2] ty #[.map (some C), V id]).run Tryz.prog w = .ok (.tuple #[]) w' ∧ RcM lo w' C ck mj ∧ (mj.map ERc.dat).Perm (ja2 D (id, false, bs)) ∧ Kept (fun b => b = C) w w' := by
 have hp : ∀ {l : List RcD}, l = (ce.map ERc.dat).filter (fun r => decide (r.1 ≠ id)) → l.Perm (ja2 D (id, false, bs)) := fun hl => by
  rw [hl]
  show List.Perm _ (Vj id bs true D)
  rw [Zz];exact hD.filter _
 rcases ZB id ce with hm | ⟨pre, e, post, rfl, rfl, cG⟩
 ·refine ⟨_, ce, XR Tryz.underlying87 Tryz.underlying2 h.map (WL hm), ⟨MapB.set h.map, h.ok, fun y hy => (h.data y hy).onL ((Kept.setM _ _).mono (fun b _ e => by rw [e]; exact hC))⟩, hp (YU hm).symm, Kept.setM _ _⟩
 ·have ho := YT h.ok
  have bJ := h.map;rw [XJ] at bJ;refine ⟨_, pre ++ post, VS Tryz.underlying87 Tryz.underlying2 bJ (WL cG), ⟨?_, ?_, fun y hy => ?_⟩, hp (ZV ho).symm, Kept.setM _ _⟩
  ·rw [List.map_append]
   exact MapB.set bJ
  ·have hk := h.ok
   rw [XJ] at hk;rw [List.map_append];exact hk.drop
  ·refine (h.data y ?_).onL ((Kept.setM _ _).mono (fun b _ e => by rw [e]; exact hC))
   rcases List.mem_append.1 hy with hy | hy
   ·exact List.mem_append_left _ hy
   ·exact List.mem_append_right _ (List.mem_cons_of_mem _ hy)
def WtR (lo : Nat) (w w' : World) (e : Ending) (D : List RcD) : Prop := ∃ C ck ce, e = .returned (.map (some C)) ∧ RcM lo w' C ck ce ∧ (ce.map ERc.dat).Perm D ∧ w.heap.size ≤ C ∧ Same w w'
theorem jbv (lo C ck : Nat) (ce : List ERc) (D : List RcD) (wv : Value) (ws : List EWr) (w : World) (cN : lo ≤ w.heap.size) (h : RcM lo w C ck ce) (hD : (ce.map ERc.dat).Perm D) (hw : RdR kWr w wv ws) (cm : ∀ p ∈ ws, RdL lo w p.v p.bs) :
  Calls Tryz.prog 117 #[.map (some C), wv] w fun e w' => WtR lo w w' e (Uq D (TU ws)) := by
 obtain ⟨L, hL⟩ : ∃ n, ws.length = n := ⟨_, rfl⟩;have HL := hid hL;have HW := hid hw;have Q5 := hid cm;obtain ⟨a0, c0, rfl⟩ := hw.form;have bG := hw.max;unfold maxLen at bG;rw [hL] at bG HW ⊢;have kC := jcN C (ce.map ERc.kv) ck w h.map
 have d9 : MapB (w.alloc (.map (UA (ce.map ERc.kv)).toArray ck)) w.heap.size (ce.map ERc.kv) ck := by
  unfold MapB World.alloc;simp
 have af : Same w (w.alloc (.map (UA (ce.map ERc.kv)).toArray ck)) := kZ0.alloc _;have H1 := (show Hid (RcM lo (w.alloc (.map (UA (ce.map ERc.kv)).toArray ck)) w.heap.size ck ce) from ⟨d9, h.ok, (h.same af).data⟩);have ao := hid af;have HD := hid hD;obtain ⟨wz, NB⟩ : ∃ wz, w.alloc (.map (UA (ce.map ERc.kv)).toArray ck) = wz := ⟨_, rfl⟩;rw [NB] at kC H1 ao;obtain ⟨N, hN⟩ : ∃ N, w.heap.size = N := ⟨_, rfl⟩;rw [hN] at kC H1;have HN := hid hN
 have Dz : lo ≤ N := by omega
 clear hw cm hL d9 af h hD hN cN NB
 go_enter Tryz.func117, Tryz.ntmps117
 go_wp2_with fail
 refine kC.mono ?_;rintro e w1 ⟨rfl, df⟩;have iC := df.symm;clear df kC;subst iC
 go_wp2_with fail
 go_loopw [12] (fun i wr => ∃ (k ck' : Nat) (mj : List ERc), k ≤ L ∧ i = V k ∧ Hid (RcM lo wr N ck' mj) ∧ Hid ((mj.map ERc.dat).Perm (Uq D ((TU ws).take k))) ∧ Hid (Same w wr)) (fun i _ => L - (intOf i).toNat)
 case atStart => exact ⟨0, _, _, Nat.zero_le _, rfl, H1, HD, ao⟩
 case round =>
  clear H1 ao HD;obtain ⟨k, ck', mj, hk, rfl, H, HD, HK⟩ := hrel
  by_cases aG : k < L
  case neg =>
   obtain rfl : L = k := by omega
   have HR := (show Hid (WtR lo w wr (.returned (.map (some N))) (Uq D (TU ws))) from ⟨N, ck', mj, rfl, H.out, by have h := HD.out; rw [List.take_of_length_le (by simp [TU]; exact Nat.le_of_eq HL.out)] at h; exact h, Nat.le_of_eq HN.out, HK.out⟩);go_wp2;go_ret;exact HR.out
  have h1 : k < ws.length := by rw [HL.out]; exact aG
  rcases HW.out.row with ⟨h, _⟩ | ⟨b, off, c, he, hc⟩
  ·rw [h] at h1; simp at h1
  injection he with e1 e2 e3
  subst e1 e3;obtain ⟨id, eB⟩ : ∃ x, ws[k].id = x := ⟨_, rfl⟩;obtain ⟨us, lj⟩ : ∃ x, ws[k].us = x := ⟨_, rfl⟩;obtain ⟨dv, j6⟩ : ∃ x, ws[k].v = x := ⟨_, rfl⟩;obtain ⟨d, hd⟩ : ∃ x, ws[k].bs = x := ⟨_, rfl⟩
  have d0 : wr.cell? ⟨b, off + k * 3, none⟩ = some (V id) := by rw [← eB]; exact HK.out.cellOf (hc k 0 h1 (by decide)) (fun e => e)
  have d1 : wr.cell? ⟨b, off + k * 3 + 1, none⟩ = some (.bool us) := by rw [← lj]; exact HK.out.cellOf (hc k 1 h1 (by decide)) (fun e => e)
  have d2 : wr.cell? ⟨b, off + k * 3 + 2, none⟩ = some dv := by rw [← j6]; exact HK.out.cellOf (hc k 2 h1 (by decide)) (fun e => e)
  have Mh := (show Hid (RdL lo w dv d) from by rw [← j6, ← hd]; exact Q5.out ws[k] (List.getElem_mem h1))
  have AC := (show Hid (Uq D ((TU ws).take (k + 1)) = ja2 (Uq D ((TU ws).take k)) (id, us, d)) from by
   show Uq D _ = _
   rw [List.take_succ_eq_append_getElem (by simp [TU]; exact h1)];unfold Uq;rw [List.foldl_append];simp only [TU, List.getElem_map, EWr.dat, List.foldl_cons, List.foldl_nil]
   rw [eB, lj, hd])
  obtain ⟨da, dc, gd⟩ := Mh.out.here.form;obtain ⟨dn, dM⟩ : ∃ n, d.length = n := ⟨_, rfl⟩;rw [dM] at gd;subst gd;clear hc e2 eB lj j6 hd dM;have eK := Blk.newL wr [V id, .bool us, .slice da dn dc] 112;have ae : Same wr (wr.alloc (.cells #[V id, .bool us, .slice da dn dc] 112)) := kZ0.alloc _;obtain ⟨X, hX⟩ : ∃ X, wr.heap.size = X := ⟨_, rfl⟩;rw [hX] at eK
  go_upto_region 5 with fail
  try rw [hX]
  generalize wr.alloc (.cells #[V id, .bool us, .slice da dn dc] 112) = w2 at eK ae ⊢;have H2 := hid (H.out.same ae);have ap := hid (HK.out.trans ae);obtain ⟨x0, x1, x2⟩ := eK.all3;have Qf := (show Hid (RdL lo w2 (.slice da dn dc) d) from Mh.out.onL ((ap.out).mono (fun _ _ e => e.elim)));clear eK ae hX H HK d0 d1 d2
  cases us
  case true =>
   obtain ⟨w3, JR, yK, hr, iA, Ea, ar⟩ := H2.out.put Dz id Qf.out HD.out;have JY := hid iA;have nG := (show Hid ((yK.map ERc.dat).Perm (Uq D ((TU ws).take (k + 1)))) from by rw [AC.out]; exact Ea);have ax := hid (ap.out.next ar (fun i hi e => by have := HN.out; omega));clear iA Ea ar;go_wp2;go_roundw
   case rel => exact ⟨k + 1, JR, yK, by omega, by go_num, JY, nG, ax⟩
   case measure => simp [intOf]; omega
  case false =>
   obtain ⟨w3, yK, hr, iA, Ea, ar⟩ := H2.out.del Dz id d HD.out 0;have JY := hid iA;have nG := (show Hid ((yK.map ERc.dat).Perm (Uq D ((TU ws).take (k + 1)))) from by rw [AC.out]; exact Ea);have ax := hid (ap.out.next ar (fun i hi e => by have := HN.out; omega));clear iA Ea ar;go_wp2;go_roundw
   case rel => exact ⟨k + 1, ck', yK, by omega, by go_num, JY, nG, ax⟩
   case measure => simp [intOf]; omega
end Go.Proofs.YtljfcdkhicffcaaGreat
