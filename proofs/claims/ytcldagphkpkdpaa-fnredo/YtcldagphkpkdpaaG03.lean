import Derived.Test.YtcldagphkpkdpaaG02
namespace Go.Proofs.Ytcldagphkpkdpaa
set_option maxRecDepth 100000
set_option maxHeartbeats 8000000
set_option linter.unusedVariables false
set_option linter.unusedSimpArgs false
open Go Go.RowKit
theorem exec_load_mid {P : Program} {op : Oper} {f : Operand → Value} {w : World} (ty : TypeId) (x : Operand) (ho : op.op = .load ty x) (b o : Nat) (hx : f x = .pointer (some ⟨b, o, none⟩)) (cs : List Value) (d : TypeDesc) (hc : w.rangeAt b o cs)
  (hu : P.underlying ty = some d) (hd : d.isRow = true) (hi : (P.info? ty).map (·.size) = some cs.length) : (execOp f op).run P w = .ok (.value (.agg cs.toArray)) w := by
 unfold execOp
 simp only [ho, hx, Instr.loadAt, Instr.sureAddr, Sem.run_bind, Sem.run_pure, Result.andThen_ok, run_loadVar_mid w b o ty cs d hc hu hd hi]
theorem step_addFr {w : World} {ops : Array Oper} {o : Oper} {a : Act} {K : Act → World → Prop} {Q : Exit → Act → World → Prop} {E : Prop} (hgd : o.guard = none) (s x : Operand)
  (ho : o.op = .call { callee := .builtin .append, args := #[s, x], argTypes := #[23, 23] }) {fa : Option Addr} {fn fc B : Nat} {qs : List StLogFrame} {p : StLogFrame} (hs : a.eval s = .slice fa fn fc) (hx : a.eval x = .slice (some ⟨B, 0, none⟩) 1 1)
  (hB : Blk w B 50 p.cells) (hO : OwnFr w (.slice fa fn fc) qs) (hY : OwnL w p.rows) (hd : ∀ b, FootL p.rows b → ¬ footFr (.slice fa fn fc) qs b) (hq : qs.length ≤ 20000)
  (h : ∀ gF cF w', OwnFr w' (.slice (some ⟨gF, 0, none⟩) (fn + 1) cF) (qs ++ [p]) → Kept (fun b => (Value.slice fa fn fc).ownBlock = some b) w w' → (∀ b, footFr (.slice (some ⟨gF, 0, none⟩) (fn + 1) cF) (qs ++ [p]) b → footFr (.slice fa fn fc) qs b ∨ FootL p.rows b ∨ w.heap.size ≤ b) → K (a.put o.dst (.slice (some ⟨gF, 0, none⟩) (fn + 1) cF)) w') :
  if Region.wanted o (yielded ops a.tmps) = true then Oper.wp Try.prog o a w K Q else E := by
 obtain ⟨i0, hi, hz0, hz1, hz2⟩ := info_parts Try.infoLF
 have hfn : fn = qs.length := by
  obtain ⟨_, _, h⟩ := hO.own.rd.form
  simp only [Value.slice.injEq] at h
  exact h.2.1
 have hrow := hO.own.row
 rw [← hfn] at hrow
 refine step_append_lies (P := Try.prog) w hgd s x 23 ho 0 50 i0 _ 16 208 Try.underlying23 hi hz0 hz1 hz2 rfl (by omega) (.slice fa fn fc) fn (kFr.all qs) hs hrow ⟨B, 0, none⟩ 1 1 p.cells hx rfl (fun j u hu => ?_) (fun u hu => ?_) (by omega) (by unfold maxLen; omega) (by omega) (Nat.zero_le _) w.heap.size rfl ?_
 ·have h1 := hB.cell j
  rw [hu] at h1
  simpa [Addr.add_lit] using h1
 ·simp only [StLogFrame.cells, List.mem_cons, List.not_mem_nil, or_false] at hu
  rcases hu with rfl | rfl | rfl | rfl | rfl | rfl | rfl | rfl | rfl | rfl | rfl | rfl | rfl | rfl | rfl | rfl <;> rfl
 ·intro gF cF w' hown hg hat hlt
  refine h gF cF w' (OwnFr.snoc p hO hY hd hg hown hfn hat) (Kept.of_grown hg (fun k e => e)) (fun b hb => ?_)
  rcases footFr_snoc (v := .slice fa fn fc) b hb with rfl | h | h
  ·rcases hat with h | h
   ·exact .inl (.inl h)
   ·exact .inr (.inr (by omega))
  ·exact .inl h
  ·exact .inr (.inl h)
def RcB (r : StLogRecord) : Prop := (IsB r.before.data.bs ∧ IsB r.after.data.bs ∧ IsB r.image.bs ∧ RcT r) ∧ r.szs ≤ 5000
def AppC (Ok : (Int × Int × Int × Int × List Int) → RcY → Prop) : Prop := ∀ (x : StLog) (r : StLogRecord) (w : World), IsB x.tail.bs → x.szs ≤ 600 → StLog.rd w x → RcB r → StLogRecord.rd w r →
 Calls Try.prog 53 #[x.val, r.val] w fun e w' => ∃ y : StAppendResult, e = .returned y.val ∧ (y.code = 0 ↔ Ok x.dat r.dat) ∧ IsB y.log.tail.bs ∧ y.log.szs ≤ 9000 ∧ (∀ b, FootL y.rows b → w.heap.size ≤ b) ∧ OwnL w' y.rows ∧ Same w w'
def FluC : Prop := ∀ (x : StLog) (w : World), IsB x.tail.bs → x.szs ≤ 9000 → StLog.rd w x →
 Calls Try.prog 54 #[x.val] w fun e w' => ∃ y : StLog, e = .returned y.val ∧ IsB y.tail.bs ∧ y.szs ≤ 600 ∧ (∀ b, FootL y.rows b → w.heap.size ≤ b) ∧ OwnL w' y.rows ∧ Same w w'
structure HsI (lo B H : Nat) (x : StLog) (fa : Option Addr) (fn fc : Nat) (qs : List StLogFrame) (g1 g2 g3 : Nat) (l1 l2 l3 : List Int) (w : World) : Prop where
 box : Blk w H 77 [.int .i64 x.sectors, .int .i64 x.epoch, .int .i64 x.stop, .int .i64 x.flushed, x.tail.v, .slice fa fn fc, .slice (some ⟨g1, 0, none⟩) 6 6, .slice (some ⟨g2, 0, none⟩) 6 6, .slice (some ⟨g3, 0, none⟩) 6 6]
 tail : OwnL w x.rows
 tB : IsB x.tail.bs
 tz : x.szs ≤ 600
 own : OwnFr w (.slice fa fn fc) qs
 each : ∀ p ∈ qs, RcB p.record
 c1 : Blk w g1 2 (vals .i64 l1) ∧ l1.length = 6
 c2 : Blk w g2 2 (vals .i64 l2) ∧ l2.length = 6
 c3 : Blk w g3 2 (vals .i64 l3) ∧ l3.length = 6
 f : ∀ b, footFr (.slice fa fn fc) qs b → lo ≤ b ∧ ¬ b = B ∧ ¬ b = H ∧ ¬ b = g1 ∧ ¬ b = g2 ∧ ¬ b = g3
 t : ∀ b, FootL x.rows b → lo ≤ b ∧ ¬ b = B ∧ ¬ b = H ∧ ¬ b = g1 ∧ ¬ b = g2 ∧ ¬ b = g3 ∧ ¬ footFr (.slice fa fn fc) qs b
 d : (lo ≤ H ∧ lo ≤ g1 ∧ lo ≤ g2 ∧ lo ≤ g3) ∧ (¬ H = B ∧ ¬ g1 = B ∧ ¬ g2 = B ∧ ¬ g3 = B) ∧ (¬ H = g1 ∧ ¬ H = g2 ∧ ¬ H = g3) ∧ ¬ g1 = g2 ∧ ¬ g1 = g3 ∧ ¬ g2 = g3
section
variable {lo B H : Nat} {x : StLog} {fa : Option Addr} {fn fc : Nat} {qs : List StLogFrame} {g1 g2 g3 : Nat} {l1 l2 l3 : List Int} {w w' : World}
theorem HsI.kept {R : Nat → Prop} (h : HsI lo B H x fa fn fc qs g1 g2 g3 l1 l2 l3 w) (hk : Kept R w w') (hr : ∀ b, lo ≤ b → ¬ b = B → b < w.heap.size → ¬ R b) : HsI lo B H x fa fn fc qs g1 g2 g3 l1 l2 l3 w' := by
 obtain ⟨⟨d1, d2, d3, d4⟩, ⟨d5, d6, d7, d8⟩, _⟩ := h.d
 exact ⟨h.box.kept hk (hr H d1 d5 h.box.lt), h.tail.kept hk (fun b hb => hr b (h.t b hb).1 (h.t b hb).2.1 (h.tail.lt b hb)), h.tB, h.tz, h.own.kept hk (fun b hb => hr b (h.f b hb).1 (h.f b hb).2.1 (h.own.lt b hb)), h.each, ⟨h.c1.1.kept hk (hr g1 d2 d6 h.c1.1.lt), h.c1.2⟩, ⟨h.c2.1.kept hk (hr g2 d3 d7 h.c2.1.lt), h.c2.2⟩, ⟨h.c3.1.kept hk (hr g3 d4 d8 h.c3.1.lt), h.c3.2⟩, h.f, h.t, h.d⟩
theorem HsI.same (h : HsI lo B H x fa fn fc qs g1 g2 g3 l1 l2 l3 w) (hk : Same w w') : HsI lo B H x fa fn fc qs g1 g2 g3 l1 l2 l3 w' := h.kept hk (fun _ _ _ _ => id)
theorem HsI.draw (h : HsI lo B H x fa fn fc qs g1 g2 g3 l1 l2 l3 w) (hk : Kept (fun b => b = B) w w') : HsI lo B H x fa fn fc qs g1 g2 g3 l1 l2 l3 w' := h.kept hk (fun _ _ hn _ e => hn e)
end
section
variable {lo B H : Nat} {x : StLog} {fa : Option Addr} {fn fc : Nat} {qs : List StLogFrame} {g1 g2 g3 : Nat} {l1 l2 l3 : List Int} {w w' : World}
theorem HsI.setLog (h : HsI lo B H x fa fn fc qs g1 g2 g3 l1 l2 l3 w) (z : StLog) (zB : IsB z.tail.bs) (zz : z.szs ≤ 600) (zo : OwnL w z.rows) (zf : ∀ b, FootL z.rows b → lo ≤ b ∧ ¬ b = B ∧ ¬ b = H ∧ ¬ b = g1 ∧ ¬ b = g2 ∧ ¬ b = g3 ∧ ¬ footFr (.slice fa fn fc) qs b) :
  HsI lo B H z fa fn fc qs g1 g2 g3 l1 l2 l3 (((((w.setCell ⟨H, 0, none⟩ (.int .i64 z.sectors)).setCell ⟨H, 1, none⟩ (.int .i64 z.epoch)).setCell ⟨H, 2, none⟩ (.int .i64 z.stop)).setCell ⟨H, 3, none⟩ (.int .i64 z.flushed)).setCell ⟨H, 4, none⟩ z.tail.v) ∧
   Kept (fun b => b = H) w (((((w.setCell ⟨H, 0, none⟩ (.int .i64 z.sectors)).setCell ⟨H, 1, none⟩ (.int .i64 z.epoch)).setCell ⟨H, 2, none⟩ (.int .i64 z.stop)).setCell ⟨H, 3, none⟩ (.int .i64 z.flushed)).setCell ⟨H, 4, none⟩ z.tail.v) := by
 have hk : Kept (fun b => b = H) w (((((w.setCell ⟨H, 0, none⟩ (.int .i64 z.sectors)).setCell ⟨H, 1, none⟩ (.int .i64 z.epoch)).setCell ⟨H, 2, none⟩ (.int .i64 z.stop)).setCell ⟨H, 3, none⟩ (.int .i64 z.flushed)).setCell ⟨H, 4, none⟩ z.tail.v) := by
  iterate 5 refine Kept.setCell ?_ (.inr (by rfl)) _
  exact Kept.refl _ _
 obtain ⟨_, _, ⟨e1, e2, e3⟩, _⟩ := h.d
 refine ⟨⟨((((h.box.stored 0 _).stored 1 _).stored 2 _).stored 3 _).stored 4 _, zo.kept hk (fun b hb e => (zf b hb).2.2.1 e), zB, zz, h.own.kept hk (fun b hb e => (h.f b hb).2.2.1 e), h.each, ⟨h.c1.1.kept hk (fun e => e1 e.symm), h.c1.2⟩, ⟨h.c2.1.kept hk (fun e => e2 e.symm), h.c2.2⟩, ⟨h.c3.1.kept hk (fun e => e3 e.symm), h.c3.2⟩, h.f, zf, h.d⟩, hk⟩
theorem HsI.addFr (h : HsI lo B H x fa fn fc qs g1 g2 g3 l1 l2 l3 w) {gF cF : Nat} {p : StLogFrame} (hk9 : Kept (fun b => (Value.slice fa fn fc).ownBlock = some b) w w') (hn : OwnFr w' (.slice (some ⟨gF, 0, none⟩) (fn + 1) cF) (qs ++ [p]))
  (hft : ∀ b, footFr (.slice (some ⟨gF, 0, none⟩) (fn + 1) cF) (qs ++ [p]) b → footFr (.slice fa fn fc) qs b ∨ FootL p.rows b ∨ w.heap.size ≤ b) (hp : RcB p.record) (hpf : ∀ b, FootL p.rows b → lo ≤ b ∧ ¬ b = B ∧ ¬ b = H ∧ ¬ b = g1 ∧ ¬ b = g2 ∧ ¬ b = g3 ∧ ¬ FootL x.rows b) (hlo : lo ≤ w.heap.size) (hB : B < w.heap.size) :
  HsI lo B H x (some ⟨gF, 0, none⟩) (fn + 1) cF (qs ++ [p]) g1 g2 g3 l1 l2 l3 (w'.setCell ⟨H, 5, none⟩ (.slice (some ⟨gF, 0, none⟩) (fn + 1) cF)) ∧ Kept (fun b => lo ≤ b ∧ ¬ b = B) w (w'.setCell ⟨H, 5, none⟩ (.slice (some ⟨gF, 0, none⟩) (fn + 1) cF)) := by
 have hk : Kept (fun b => footFr (.slice fa fn fc) qs b) w w' := hk9.mono (fun b _ e => .inl e)
 have hk5 : Kept (fun b => b = H) w' (w'.setCell ⟨H, 5, none⟩ (.slice (some ⟨gF, 0, none⟩) (fn + 1) cF)) := Kept.setCell (R := fun b => b = H) (Kept.refl _ _) (.inr (by rfl)) _
 obtain ⟨⟨d1, d2, d3, d4⟩, ⟨d5, d6, d7, d8⟩, ⟨e1, e2, e3⟩, _⟩ := h.d
 have z1 := h.box.lt
 have z2 := h.c1.1.lt
 have z3 := h.c2.1.lt
 have z4 := h.c3.1.lt
 have hF : ∀ b, footFr (.slice (some ⟨gF, 0, none⟩) (fn + 1) cF) (qs ++ [p]) b → lo ≤ b ∧ ¬ b = B ∧ ¬ b = H ∧ ¬ b = g1 ∧ ¬ b = g2 ∧ ¬ b = g3 := fun b hb => by
  rcases hft b hb with h' | h' | h'
  ·exact h.f b h'
  ·obtain ⟨a1, a2, a3, a4, a5, a6, _⟩ := hpf b h'
   exact ⟨a1, a2, a3, a4, a5, a6⟩
  ·refine ⟨by omega, by omega, by omega, by omega, by omega, by omega⟩
 refine ⟨⟨(h.box.kept hk (fun e => (h.f H e).2.2.1 rfl)).stored 5 _, (h.tail.kept hk (fun b hb => (h.t b hb).2.2.2.2.2.2)).kept hk5 (fun b hb e => (h.t b hb).2.2.1 e), h.tB, h.tz, hn.kept hk5 (fun b hb e => (hF b hb).2.2.1 e), ?_, ⟨(h.c1.1.kept hk (fun e => (h.f g1 e).2.2.2.1 rfl)).kept hk5 (fun e => e1 e.symm), h.c1.2⟩, ⟨(h.c2.1.kept hk (fun e => (h.f g2 e).2.2.2.2.1 rfl)).kept hk5 (fun e => e2 e.symm), h.c2.2⟩, ⟨(h.c3.1.kept hk (fun e => (h.f g3 e).2.2.2.2.2 rfl)).kept hk5 (fun e => e3 e.symm), h.c3.2⟩, hF, ?_, h.d⟩, ?_⟩
 ·intro q hq
  rcases List.mem_append.1 hq with h' | h'
  ·exact h.each q h'
  ·rw [List.mem_singleton.1 h']
   exact hp
 ·intro b hb
  obtain ⟨a1, a2, a3, a4, a5, a6, a7⟩ := h.t b hb
  refine ⟨a1, a2, a3, a4, a5, a6, fun e => ?_⟩
  rcases hft b e with h' | h' | h'
  ·exact a7 h'
  ·exact (hpf b h').2.2.2.2.2.2 hb
  ·have := h.tail.lt b hb
   omega
 ·exact (hk.mono (fun b _ e => ⟨(h.f b e).1, (h.f b e).2.1⟩)).next hk5 (fun i hi e => by have e' : i = H := e; subst e'; exact ⟨d1, d5⟩)
end
def AddR (Ok : (Int × Int × Int × Int × List Int) → RcY → Prop) (lo B H : Nat) (x : StLog) (r : StLogRecord) (fa0 : Option Addr) (fn0 fc0 : Nat) (qs : List StLogFrame) (g1 g2 g3 : Nat) (l1 l2 l3 : List Int) (w w' : World) : Prop :=
 ∃ (x' : StLog) (fa : Option Addr) (fn fc : Nat) (qs' : List StLogFrame), HsI lo B H x' fa fn fc qs' g1 g2 g3 l1 l2 l3 w' ∧ qs.length ≤ qs'.length ∧ qs'.length ≤ qs.length + 1 ∧ (Ok x.dat r.dat → qs'.length = qs.length + 1) ∧ Kept (fun b => lo ≤ b ∧ ¬ b = B) w w' ∧ Kept (fun b => b = H ∨ footFr (.slice fa0 fn0 fc0) qs b) w w' ∧ ∀ b, (footFr (.slice fa fn fc) qs' b ∨ FootL x'.rows b) → footFr (.slice fa0 fn0 fc0) qs b ∨ FootL x.rows b ∨ FootL r.rows b ∨ w.heap.size ≤ b
theorem Blk.front {w : World} {b : Nat} {e : TypeId} {xs ys : List Value} (h : Blk w b e (xs ++ ys)) : w.rangeAt b 0 xs := h.range 0 xs (fun j v hv => by rw [Nat.zero_add, List.getElem?_append_left (List.getElem?_eq_some_iff.1 hv).1]; exact hv)
def StAppendResult.cls (x : StAppendResult) : List Value := [.int .i64 x.code, .int .i64 x.lsn, .int .i64 x.log.sectors, .int .i64 x.log.epoch, .int .i64 x.log.stop, .int .i64 x.log.flushed, x.log.tail.v]
theorem StAppendResult.cls_one (x : StAppendResult) : x.cls.toArray.all (·.oneCell') = true := all_oneCell_toArray (fun v hv => by
 simp only [StAppendResult.cls, List.mem_cons, List.not_mem_nil, or_false] at hv
 rcases hv with rfl | rfl | rfl | rfl | rfl | rfl | rfl <;> rfl)
def ApR (Ok : Prop) (wr wx : World) (v : Value) : Prop := ∃ (Z : Nat) (y : StAppendResult), v = .pointer (some ⟨Z, 0, none⟩) ∧ (y.code = 0 ↔ Ok) ∧ IsB y.log.tail.bs ∧ y.log.szs ≤ 9000 ∧ wr.heap.size ≤ Z ∧ Blk wx Z 100 y.cls ∧ (∀ b, FootL y.rows b → wr.heap.size ≤ b ∧ ¬ b = Z) ∧ OwnL wx y.rows ∧ Same wr wx
theorem ApR.laid {Ok : Prop} {wr wx : World} {Z : Nat} {y : StAppendResult} {zs : List Value} (h1 : y.code = 0 ↔ Ok) (h2 : IsB y.log.tail.bs) (h3 : y.log.szs ≤ 9000) (hZ : wr.heap.size ≤ Z) (hb : Blk wx Z 100 zs) (hzs : zs.length = 7) (hf : ∀ b, FootL y.rows b → wr.heap.size ≤ b ∧ ¬ b = Z) (ho : OwnL wx y.rows) (hk : Same wr wx) : ApR Ok wr (wx.setCells Z 0 y.cls) (.pointer (some ⟨Z, 0, none⟩)) := by
 have hk9 : Kept (fun b => b = Z) wx (wx.setCells Z 0 y.cls) := Kept.setCells (R := fun b => b = Z) (.inr rfl) _ _ (Kept.refl _ _)
 refine ⟨Z, y, rfl, h1, h2, h3, hZ, ?_, hf, ho.kept hk9 (fun b hb e => (hf b hb).2 e), hk.next hk9 (fun i hi e => by have e' : i = Z := e; omega)⟩
 have h1 := hb.setCells y.cls 0 (by rw [hzs]; exact Nat.le_refl _)
 rwa [lay_all _ _ (by rw [hzs]; rfl)] at h1
theorem infoAp7 : (Try.prog.info? 100).map (·.size) = some 7 := by kernel_rfl
theorem add_k {Ok : (Int × Int × Int × Int × List Int) → RcY → Prop} (hA : AppC Ok) (hF : FluC) {lo B H : Nat} {x : StLog} {fa : Option Addr} {fn fc : Nat} {qs : List StLogFrame} {g1 g2 g3 : Nat} {l1 l2 l3 : List Int} {w : World} (r : StLogRecord) (h : HsI lo B H x fa fn fc qs g1 g2 g3 l1 l2 l3 w) (hr : RcB r) (ho : OwnL w r.rows)
  (hf : ∀ b, FootL r.rows b → lo ≤ b ∧ ¬ b = B ∧ ¬ b = H ∧ ¬ b = g1 ∧ ¬ b = g2 ∧ ¬ b = g3 ∧ ¬ footFr (.slice fa fn fc) qs b ∧ ¬ FootL x.rows b) (hq : qs.length ≤ 20000) (hlo : lo ≤ w.heap.size) (hBw : B < lo) :
  Calls Try.prog 30 #[.pointer (some ⟨H, 0, none⟩), r.val] w fun e w' => e = .returned (.tuple #[]) ∧ AddR Ok lo B H x r fa fn fc qs g1 g2 g3 l1 l2 l3 w w' := by
 have HR := hid hr
 have HO := hid ho
 have HF := hid hf
 have HA := (show Hid (∀ wx, Same w wx → _) from fun wx hk => hA x r wx h.tB h.tz (StLog.own_rd (h.tail.same hk)) hr (StLogRecord.own_rd (ho.same hk)))
 have HH := hid h
 obtain ⟨ok, hok⟩ : ∃ z, Ok x.dat r.dat = z := ⟨_, rfl⟩
 rw [hok] at HA
 have HOK := hid hok
 obtain ⟨kind, txn, prev, page, slot, ⟨bU, ⟨bE, bA, bC, bB⟩⟩, ⟨aU, ⟨aE, aA, aC, aB⟩⟩, uN, nT, ⟨tE, tA, tN, tC, tB⟩, ⟨dE, dA, dN, dC, dB⟩, ⟨iE, iA, iC, iB⟩⟩ := r
 obtain ⟨sec, epo, sto, flu, ⟨te, ta, tc, tb⟩⟩ := x
 dsimp only [StLogRecord.val, StPageRecord.val, BS.v, FR.v, StLog.val] at HA ⊢
 have hbx := (show Blk w H 77 ([.int .i64 sec, .int .i64 epo, .int .i64 sto, .int .i64 flu, .slice ta tb.length tc] ++ [.slice fa fn fc, .slice (some ⟨g1, 0, none⟩) 6 6, .slice (some ⟨g2, 0, none⟩) 6 6, .slice (some ⟨g3, 0, none⟩) 6 6]) from h.box)
 have HBR := hid (Blk.newL w [.int .i64 kind, .int .i64 txn, .int .i64 prev, .int .i64 page, .int .i64 slot, .bool bU, .slice bA bB.length bC, .bool aU, .slice aA aB.length aC, .int .i64 uN, .int .i64 nT, .slice tA tN tC, .slice dA dN dC, .slice iA iB.length iC] 48)
 have hk0 : Same w (w.alloc (.cells #[.int .i64 kind, .int .i64 txn, .int .i64 prev, .int .i64 page, .int .i64 slot, .bool bU, .slice bA bB.length bC, .bool aU, .slice aA aB.length aC, .int .i64 uN, .int .i64 nT, .slice tA tN tC, .slice dA dN dC, .slice iA iB.length iC] 48)) := (Kept.refl _ _).alloc _
 have HBH := hid (hbx.same hk0)
 have hHw := h.box.lt
 clear h hr ho hf hbx
 go_enter Try.func30, Try.ntmps30
 go_upto_region 1 with fail
 obtain ⟨X, hX⟩ : ∃ X, w.heap.size = X := ⟨_, rfl⟩
 rw [hX] at HBR hHw hlo
 have HX := hid hX
 rw [hX]
 clear hX
 generalize w.alloc (.cells #[.int .i64 kind, .int .i64 txn, .int .i64 prev, .int .i64 page, .int .i64 slot, .bool bU, .slice bA bB.length bC, .bool aU, .slice aA aB.length aC, .int .i64 uN, .int .i64 nT, .slice tA tN tC, .slice dA dN dC, .slice iA iB.length iC] 48) = w1 at HBR HBH hk0 ⊢
 have HK1 := hid hk0
 have hl1 := HBR.out.lt
 clear hk0
 go_cut [4] (fun v wx => Hid (ApR ok w1 wx v))
 case first =>
  refine wp_region_V (fun wx : World => wx.rangeAt H 0 [.int .i64 sec, .int .i64 epo, .int .i64 sto, .int .i64 flu, .slice ta tb.length tc] ∧ wx.rangeAt X 0 [.int .i64 kind, .int .i64 txn, .int .i64 prev, .int .i64 page, .int .i64 slot, .bool bU, .slice bA bB.length bC, .bool aU, .slice aA aB.length aC, .int .i64 uN, .int .i64 nT, .slice tA tN tC, .slice dA dN dC, .slice iA iB.length iC]) 7 8 rfl (by kernel_rfl) ?_
  generalize hwd : World.drew w1 = w2
  have hk2 : Same w1 w2 := by rw [← hwd]; exact (Kept.refl _ _).drew
  have hz2 : w2.heap.size ≤ w1.heap.size := by rw [← hwd]; exact Nat.le_refl _
  clear hwd
  have hz2b := hk2.size
  have hS : (fun wx : World => wx.rangeAt H 0 [.int .i64 sec, .int .i64 epo, .int .i64 sto, .int .i64 flu, .slice ta tb.length tc] ∧ wx.rangeAt X 0 [.int .i64 kind, .int .i64 txn, .int .i64 prev, .int .i64 page, .int .i64 slot, .bool bU, .slice bA bB.length bC, .bool aU, .slice aA aB.length aC, .int .i64 uN, .int .i64 nT, .slice tA tN tC, .slice dA dN dC, .slice iA iB.length iC]) w2 := ⟨(HBH.out.same hk2).front, (HBR.out.same hk2).rangeAll⟩
  refine tk 0 5 hS ?_
  refine tk 1 6 hS ?_
  refine tk 2 7 hS ?_
  refine tkV 3 8 (.agg #[.int .i64 sec, .int .i64 epo, .int .i64 sto, .int .i64 flu, .slice ta tb.length tc]) hS ?_ (hy := fun wx hSx => exec_load_mid 74 (.tmp 7) rfl H 0 rfl [.int .i64 sec, .int .i64 epo, .int .i64 sto, .int .i64 flu, .slice ta tb.length tc] _ hSx.1 Try.underlying74 rfl (by kernel_rfl))
  refine tkV 4 9 (.agg #[.int .i64 kind, .int .i64 txn, .int .i64 prev, .int .i64 page, .int .i64 slot, .bool bU, .slice bA bB.length bC, .bool aU, .slice aA aB.length aC, .int .i64 uN, .int .i64 nT, .slice tA tN tC, .slice dA dN dC, .slice iA iB.length iC]) hS ?_ (hy := fun wx hSx => exec_load_mid 48 (.tmp 3) rfl X 0 rfl [.int .i64 kind, .int .i64 txn, .int .i64 prev, .int .i64 page, .int .i64 slot, .bool bU, .slice bA bB.length bC, .bool aU, .slice aA aB.length aC, .int .i64 uN, .int .i64 nT, .slice tA tN tC, .slice dA dN dC, .slice iA iB.length iC] _ hSx.2 Try.underlying48 rfl (by kernel_rfl))
  refine wpAnyV_two (i := 5) (j := 6) (by kernel_rfl) rfl rfl (fun K hK => ?_) (fun K hK => ?_)
  ·go_simp
   refine (HA.out _ (HK1.out.trans hk2)).mono ?_
   rintro e w3 ⟨y, rfl, hc, hyB, hyz, hyf, hyo, hk3⟩
   have hS : (fun wx : World => wx.rangeAt H 0 [.int .i64 sec, .int .i64 epo, .int .i64 sto, .int .i64 flu, .slice ta tb.length tc] ∧ wx.rangeAt X 0 [.int .i64 kind, .int .i64 txn, .int .i64 prev, .int .i64 page, .int .i64 slot, .bool bU, .slice bA bB.length bC, .bool aU, .slice aA aB.length aC, .int .i64 uN, .int .i64 nT, .slice tA tN tC, .slice dA dN dC, .slice iA iB.length iC]) w3 := ⟨hk3.ranges hS.1, hk3.ranges hS.2⟩
   rw [show y.val = .agg y.cls.toArray from rfl]
   go_wp2_with fail
   refine hK.out _ _ (fun _ => hS) ?_
   clear hK K
   try simp only [Act.put, sA, s0, sS]
   refine wpAnyV_one (i := 6) (by kernel_rfl) rfl (fun K hK => ?_)
   go_simp
   have HB8 := hid (Blk.new w3 #[.int .i64 0, .int .i64 0, .int .i64 0, .int .i64 0, .int .i64 0, .int .i64 0, .slice none 0 0] 100)
   have hk8 : Same w3 (w3.alloc (.cells #[.int .i64 0, .int .i64 0, .int .i64 0, .int .i64 0, .int .i64 0, .int .i64 0, .slice none 0 0] 100)) := (Kept.refl _ _).alloc _
   generalize w3.alloc (.cells #[.int .i64 0, .int .i64 0, .int .i64 0, .int .i64 0, .int .i64 0, .int .i64 0, .slice none 0 0] 100) = w8 at HB8 hk8 ⊢
   have hS : (fun wx : World => wx.rangeAt H 0 [.int .i64 sec, .int .i64 epo, .int .i64 sto, .int .i64 flu, .slice ta tb.length tc] ∧ wx.rangeAt X 0 [.int .i64 kind, .int .i64 txn, .int .i64 prev, .int .i64 page, .int .i64 slot, .bool bU, .slice bA bB.length bC, .bool aU, .slice aA aB.length aC, .int .i64 uN, .int .i64 nT, .slice tA tN tC, .slice dA dN dC, .slice iA iB.length iC]) w8 := ⟨hk8.ranges hS.1, hk8.ranges hS.2⟩
   refine hK.out _ _ (fun _ => hS) ?_
   clear hK K
   try simp only [Act.put, sA, s0, sS]
   have hz3 : w1.heap.size ≤ w3.heap.size := by have := hk3.size; omega
   have HZ := (show Hid (ApR ok w1 (w8.setCells w3.heap.size 0 y.cls) (.pointer (some ⟨w3.heap.size, 0, none⟩))) from ApR.laid hc hyB hyz hz3 HB8.out rfl (fun b hb => by have h1 := hyf b hb; have h2 := hyo.lt b hb; omega) (hyo.same hk8) ((hk2.trans hk3).trans hk8))
   have HTH := hid (HB8.out.there 0 y.cls.toArray.size (Nat.le_refl 7))
   clear hc hyB hyz hyf hyo hk3 hk8 HB8
   refine wpAnyV_one (i := 7) (by kernel_rfl) rfl (fun K hK => ?_)
   refine step_store_mid (by rfl) 100 (.tmp 4) (.tmp 10) (by rfl) w3.heap.size 0 y.cls.toArray (by rfl) (by rfl) HTH.out infoAp7 y.cls_one ?_
   refine hK.out _ _ (fun h => absurd rfl h) ?_
   clear hK K
   refine wpAnyV_done (by kernel_rfl) ?_
   try simp only [Act.put, sA, s0, sS]
   clear hS HTH
   generalize World.setCells w8 w3.heap.size 0 _ = w9 at HZ ⊢
   go_wp2_with fail
   go_meet
   case rel => exact HZ
  ·go_simp
   have HB8 := hid (Blk.new w2 #[.int .i64 0, .int .i64 0, .int .i64 0, .int .i64 0, .int .i64 0, .int .i64 0, .slice none 0 0] 100)
   have hk8 : Same w2 (w2.alloc (.cells #[.int .i64 0, .int .i64 0, .int .i64 0, .int .i64 0, .int .i64 0, .int .i64 0, .slice none 0 0] 100)) := (Kept.refl _ _).alloc _
   have hz8 : (w2.alloc (.cells #[.int .i64 0, .int .i64 0, .int .i64 0, .int .i64 0, .int .i64 0, .int .i64 0, .slice none 0 0] 100)).heap.size = w2.heap.size + 1 := by simp
   generalize w2.alloc (.cells #[.int .i64 0, .int .i64 0, .int .i64 0, .int .i64 0, .int .i64 0, .int .i64 0, .slice none 0 0] 100) = w3 at HB8 hk8 hz8 ⊢
   have hS : (fun wx : World => wx.rangeAt H 0 [.int .i64 sec, .int .i64 epo, .int .i64 sto, .int .i64 flu, .slice ta tb.length tc] ∧ wx.rangeAt X 0 [.int .i64 kind, .int .i64 txn, .int .i64 prev, .int .i64 page, .int .i64 slot, .bool bU, .slice bA bB.length bC, .bool aU, .slice aA aB.length aC, .int .i64 uN, .int .i64 nT, .slice tA tN tC, .slice dA dN dC, .slice iA iB.length iC]) w3 := ⟨hk8.ranges hS.1, hk8.ranges hS.2⟩
   refine hK.out _ _ (fun _ => hS) ?_
   clear hK K
   try simp only [Act.put, sA, s0, sS]
   refine wpAnyV_one (i := 5) (by kernel_rfl) rfl (fun K hK => ?_)
   go_simp
   refine (HA.out _ ((HK1.out.trans hk2).trans hk8)).mono ?_
   rintro e w8 ⟨y, rfl, hc, hyB, hyz, hyf, hyo, hk9⟩
   have hS : (fun wx : World => wx.rangeAt H 0 [.int .i64 sec, .int .i64 epo, .int .i64 sto, .int .i64 flu, .slice ta tb.length tc] ∧ wx.rangeAt X 0 [.int .i64 kind, .int .i64 txn, .int .i64 prev, .int .i64 page, .int .i64 slot, .bool bU, .slice bA bB.length bC, .bool aU, .slice aA aB.length aC, .int .i64 uN, .int .i64 nT, .slice tA tN tC, .slice dA dN dC, .slice iA iB.length iC]) w8 := ⟨hk9.ranges hS.1, hk9.ranges hS.2⟩
   have HB9 := hid (HB8.out.same hk9)
   rw [show y.val = .agg y.cls.toArray from rfl]
   go_wp2_with fail
   refine hK.out _ _ (fun _ => hS) ?_
   clear hK K
   try simp only [Act.put, sA, s0, sS]
   have HZ := (show Hid (ApR ok w1 (w8.setCells w2.heap.size 0 y.cls) (.pointer (some ⟨w2.heap.size, 0, none⟩))) from ApR.laid hc hyB hyz hz2b HB9.out rfl (fun b hb => by have h1 := hyf b hb; omega) hyo ((hk2.trans hk8).trans hk9))
   have HTH := hid (HB9.out.there 0 y.cls.toArray.size (Nat.le_refl 7))
   clear hc hyB hyz hyf hyo hk9 hk8 HB8 HB9 hz8
   refine wpAnyV_one (i := 7) (by kernel_rfl) rfl (fun K hK => ?_)
   refine step_store_mid (by rfl) 100 (.tmp 4) (.tmp 10) (by rfl) w2.heap.size 0 y.cls.toArray (by rfl) (by rfl) HTH.out infoAp7 y.cls_one ?_
   refine hK.out _ _ (fun h => absurd rfl h) ?_
   clear hK K
   refine wpAnyV_done (by kernel_rfl) ?_
   try simp only [Act.put, sA, s0, sS]
   clear hS HTH
   generalize World.setCells w8 w2.heap.size 0 _ = w9 at HZ ⊢
   go_wp2_with fail
   go_meet
   case rel => exact HZ
 case rest =>
 obtain ⟨Z, y, rfl, hc, hyB, hyz, hZ, hbz, hyf, hyo, hyk⟩ := hcut.out
 clear hcut HA
 have HKc := hid (HK1.out.trans hyk)
 have HHc := hid (HH.out.same HKc.out)
 have hzc := hyk.size
 have hXw := HX.out
 have HC := hid hc
 have g0 : wc.cell? ⟨Z, 0, none⟩ = some (.int .i64 y.code) := hbz.cell 0
 by_cases hcz : y.code = 0
 case neg =>
  have hcq : (y.code != 0) = true := by simp [hcz]
  clear hc
  go_wp2
  refine bodyPost_ret (results_none (by rfl) _ _ _) rfl ⟨rfl, _, fa, fn, fc, qs, HHc.out, Nat.le_refl _, Nat.le_succ _, fun h => absurd (HC.out.2 (by rw [← HOK.out]; exact h)) hcz, HKc.out.mono (fun _ _ e => e.elim), HKc.out.mono (fun _ _ e => e.elim), fun b hb => hb.elim .inl (fun e => .inr (.inl e))⟩
 have hne : ¬ (y.code != 0) = true := by simp [hcz]
 obtain ⟨code, ylsn, ⟨ysec, yep, yst, yfl, ⟨yte, yta, ytc, ytb⟩⟩⟩ := y
 dsimp only at hcz hyB hyz
 subst hcz
 clear hc g0 hne
 have hbz := (show Blk wc Z 100 [.int .i64 0, .int .i64 ylsn, .int .i64 ysec, .int .i64 yep, .int .i64 yst, .int .i64 yfl, .slice yta ytb.length ytc] from hbz)
 have HBZ := hid hbz
 obtain ⟨g0, g1', g2', g3', g4', g5', g6'⟩ := hbz.all7
 have kF := hF ⟨ysec, yep, yst, yfl, ⟨yte, yta, ytc, ytb⟩⟩ wc hyB hyz (StLog.own_rd hyo)
 dsimp only [StLog.val, BS.v] at kF
 have hlz := hbz.lt
 clear hbz hyo hyf
 go_wp2_with fail
 refine kF.mono ?_
 rintro e w5 ⟨z, rfl, zB, zz, zf, zo, hk5⟩
 clear kF g0 g1' g2' g3' g4' g5' g6'
 have HH5 := hid (HHc.out.same hk5)
 have hz5 := hk5.size
 have hXc : X < wc.heap.size := by omega
 have HZF := (show Hid (∀ b, FootL z.rows b → lo ≤ b ∧ ¬ b = B ∧ ¬ b = H ∧ ¬ b = g1 ∧ ¬ b = g2 ∧ ¬ b = g3 ∧ ¬ footFr (.slice fa fn fc) qs b) from fun b hb => by
  have h1 := zf b hb
  have h2 := HHc.out.box.lt
  have h3 := HHc.out.c1.1.lt
  have h4 := HHc.out.c2.1.lt
  have h5 := HHc.out.c3.1.lt
  refine ⟨by omega, by omega, by omega, by omega, by omega, by omega, fun h => ?_⟩
  have := HHc.out.own.lt b h
  omega)
 have HZW := (show Hid (∀ b, FootL z.rows b → w.heap.size ≤ b) from fun b hb => Nat.le_trans HKc.out.size (zf b hb))
 have HZR := (show Hid (∀ b, FootL (StLogRecord.rows ⟨kind, txn, prev, page, slot, ⟨bU, ⟨bE, bA, bC, bB⟩⟩, ⟨aU, ⟨aE, aA, aC, aB⟩⟩, uN, nT, ⟨tE, tA, tN, tC, tB⟩, ⟨dE, dA, dN, dC, dB⟩, ⟨iE, iA, iC, iB⟩⟩) b → ¬ FootL z.rows b) from fun b h1 h2 => by
  have := zf b h2
  have := HO.out.lt b h1
  omega)
 have HL := hid (HH5.out.setLog z zB zz zo HZF.out)
 have HBZ5 := hid (HBZ.out.same hk5)
 have HBR5 := hid ((HBR.out.same hyk).same hk5)
 have HO5 := hid ((HO.out.same HKc.out).same hk5)
 have HKd := hid (HKc.out.trans hk5)
 have hbx := HH5.out.box
 have q0 : w5.cell? ⟨H, 0, none⟩ = some (.int .i64 sec) := hbx.cell 0
 have q1 : w5.cell? ⟨H, 1, none⟩ = some (.int .i64 epo) := hbx.cell 1
 have q2 : w5.cell? ⟨H, 2, none⟩ = some (.int .i64 sto) := hbx.cell 2
 have q3 : w5.cell? ⟨H, 3, none⟩ = some (.int .i64 flu) := hbx.cell 3
 have q4 : w5.cell? ⟨H, 4, none⟩ = some (.slice ta tb.length tc) := hbx.cell 4
 have fx := hbx.frozen
 obtain ⟨zsec, zep, zst, zfl, ⟨zte, zta, ztc, ztb⟩⟩ := z
 dsimp only [StLog.val, BS.v] at HL ⊢
 clear hbx zB zz zf zo hk5 HBZ HBR HHc hyB hyz
 go_upto_region 4 with fail
 generalize World.setCell _ ⟨H, 4, none⟩ _ = w6 at HL ⊢
 obtain ⟨hH6, hk6⟩ := HL.out
 clear HL q0 q1 q2 q3 q4 fx
 have HH6 := hid hH6
 have hXH : ¬ X = H := by omega
 have hZH : ¬ Z = H := by omega
 have HBZ6 := hid (HBZ5.out.kept hk6 hZH)
 have HBR6 := hid (HBR5.out.kept hk6 hXH)
 have HO6 := hid (HO5.out.kept hk6 (fun b hb e => (HF.out b hb).2.2.1 e))
 have HKe := (show Hid (Kept (fun b => lo ≤ b ∧ ¬ b = B) w w6) from (HKd.out.mono (fun _ _ e => e.elim)).next hk6 (fun i hi e => by have e' : i = H := e; subst e'; exact ⟨hH6.d.1.1, hH6.d.2.1.1⟩))
 have HQe := (show Hid (Kept (fun b => b = H ∨ footFr (.slice fa fn fc) qs b) w w6) from (HKd.out.mono (fun _ _ e => e.elim)).next hk6 (fun i hi e => .inl e))
 clear HBZ5 HBR5 HO5 HKd hH6 hk6 HH5
 refine wp_region_V (fun wx : World => wx.cell? ⟨H, 5, none⟩ = some (.slice fa fn fc) ∧ wx.cell? ⟨Z, 1, none⟩ = some (.int .i64 ylsn) ∧ wx.cell? ⟨H, 1, none⟩ = some (.int .i64 zep) ∧ wx.rangeAt X 0 [.int .i64 kind, .int .i64 txn, .int .i64 prev, .int .i64 page, .int .i64 slot, .bool bU, .slice bA bB.length bC, .bool aU, .slice aA aB.length aC, .int .i64 uN, .int .i64 nT, .slice tA tN tC, .slice dA dN dC, .slice iA iB.length iC]) 18 19 rfl (by kernel_rfl) ?_
 generalize hwd : World.drew w6 = w7
 have hk7 : Same w6 w7 := by rw [← hwd]; exact (Kept.refl _ _).drew
 clear hwd
 have HBZ7 := hid (HBZ6.out.same hk7)
 have HBR7 := hid (HBR6.out.same hk7)
 have HO7 := hid (HO6.out.same hk7)
 have HH7 := hid (HH6.out.same hk7)
 have HK7 := (show Hid (Kept (fun b => lo ≤ b ∧ ¬ b = B) w w7) from HKe.out.next hk7 (fun _ _ e => e.elim))
 have HQ7 := (show Hid (Kept (fun b => b = H ∨ footFr (.slice fa fn fc) qs b) w w7) from HQe.out.next hk7 (fun _ _ e => e.elim))
 clear HQe
 clear HBZ6 HBR6 HO6 HH6 HKe hk7
 have hS : (fun wx : World => wx.cell? ⟨H, 5, none⟩ = some (.slice fa fn fc) ∧ wx.cell? ⟨Z, 1, none⟩ = some (.int .i64 ylsn) ∧ wx.cell? ⟨H, 1, none⟩ = some (.int .i64 zep) ∧ wx.rangeAt X 0 [.int .i64 kind, .int .i64 txn, .int .i64 prev, .int .i64 page, .int .i64 slot, .bool bU, .slice bA bB.length bC, .bool aU, .slice aA aB.length aC, .int .i64 uN, .int .i64 nT, .slice tA tN tC, .slice dA dN dC, .slice iA iB.length iC]) w7 := ⟨HH7.out.box.cell 5, HBZ7.out.cell 1, HH7.out.box.cell 1, HBR7.out.rangeAll⟩
 refine tk 0 20 hS ?_
 refine tk 1 21 hS ?_
 refine tk 2 22 hS ?_
 refine tk 3 23 hS ?_
 refine tk 4 24 hS ?_
 refine tk 5 25 hS ?_
 refine tk 6 26 hS ?_
 refine tk 7 27 hS ?_
 refine tk 8 28 hS ?_
 refine tk 9 29 hS ?_
 refine tk 10 30 hS ?_
 refine tk 11 31 hS ?_
 refine tkV 12 32 (.agg #[.int .i64 kind, .int .i64 txn, .int .i64 prev, .int .i64 page, .int .i64 slot, .bool bU, .slice bA bB.length bC, .bool aU, .slice aA aB.length aC, .int .i64 uN, .int .i64 nT, .slice tA tN tC, .slice dA dN dC, .slice iA iB.length iC]) hS ?_ (hy := fun wx hSx => exec_load_mid 48 (.tmp 3) rfl X 0 rfl [.int .i64 kind, .int .i64 txn, .int .i64 prev, .int .i64 page, .int .i64 slot, .bool bU, .slice bA bB.length bC, .bool aU, .slice aA aB.length aC, .int .i64 uN, .int .i64 nT, .slice tA tN tC, .slice dA dN dC, .slice iA iB.length iC] _ hSx.2.2.2 Try.underlying48 rfl (by kernel_rfl))
 refine tkV 13 33 (.agg #[.int .i64 ylsn, .int .i64 zep, .int .i64 kind, .int .i64 txn, .int .i64 prev, .int .i64 page, .int .i64 slot, .bool bU, .slice bA bB.length bC, .bool aU, .slice aA aB.length aC, .int .i64 uN, .int .i64 nT, .slice tA tN tC, .slice dA dN dC, .slice iA iB.length iC]) hS ?_
 refine wpAnyV_one (i := 14) (by kernel_rfl) rfl (fun K hK => ?_)
 go_simp
 have HB8 := hid (Blk.newL w7 [.int .i64 ylsn, .int .i64 zep, .int .i64 kind, .int .i64 txn, .int .i64 prev, .int .i64 page, .int .i64 slot, .bool bU, .slice bA bB.length bC, .bool aU, .slice aA aB.length aC, .int .i64 uN, .int .i64 nT, .slice tA tN tC, .slice dA dN dC, .slice iA iB.length iC] 50)
 have hk8 : Same w7 (w7.alloc (.cells #[.int .i64 ylsn, .int .i64 zep, .int .i64 kind, .int .i64 txn, .int .i64 prev, .int .i64 page, .int .i64 slot, .bool bU, .slice bA bB.length bC, .bool aU, .slice aA aB.length aC, .int .i64 uN, .int .i64 nT, .slice tA tN tC, .slice dA dN dC, .slice iA iB.length iC] 50)) := (Kept.refl _ _).alloc _
 obtain ⟨Y, hY⟩ : ∃ Y, w7.heap.size = Y := ⟨_, rfl⟩
 rw [hY] at HB8
 try rw [hY]
 generalize w7.alloc (.cells #[.int .i64 ylsn, .int .i64 zep, .int .i64 kind, .int .i64 txn, .int .i64 prev, .int .i64 page, .int .i64 slot, .bool bU, .slice bA bB.length bC, .bool aU, .slice aA aB.length aC, .int .i64 uN, .int .i64 nT, .slice tA tN tC, .slice dA dN dC, .slice iA iB.length iC] 50) = w8 at HB8 hk8 ⊢
 have HBZ8 := hid (HBZ7.out.same hk8)
 have HBR8 := hid (HBR7.out.same hk8)
 have HO8 := hid (HO7.out.same hk8)
 have HH8 := hid (HH7.out.same hk8)
 have HK8 := (show Hid (Kept (fun b => lo ≤ b ∧ ¬ b = B) w w8) from HK7.out.next hk8 (fun _ _ e => e.elim))
 have HQ8 := (show Hid (Kept (fun b => b = H ∨ footFr (.slice fa fn fc) qs b) w w8) from HQ7.out.next hk8 (fun _ _ e => e.elim))
 clear HQ7
 clear HBZ7 HBR7 HO7 HH7 HK7 hk8 hS
 have hS : (fun wx : World => wx.cell? ⟨H, 5, none⟩ = some (.slice fa fn fc) ∧ wx.cell? ⟨Z, 1, none⟩ = some (.int .i64 ylsn) ∧ wx.cell? ⟨H, 1, none⟩ = some (.int .i64 zep) ∧ wx.rangeAt X 0 [.int .i64 kind, .int .i64 txn, .int .i64 prev, .int .i64 page, .int .i64 slot, .bool bU, .slice bA bB.length bC, .bool aU, .slice aA aB.length aC, .int .i64 uN, .int .i64 nT, .slice tA tN tC, .slice dA dN dC, .slice iA iB.length iC]) w8 := ⟨HH8.out.box.cell 5, HBZ8.out.cell 1, HH8.out.box.cell 1, HBR8.out.rangeAll⟩
 refine hK.out _ _ (fun _ => hS) ?_
 clear hK K
 try simp only [Act.put, sA, s0, sS]
 refine wpAnyV_one (i := 15) (by kernel_rfl) rfl (fun K hK => ?_)
 refine step_addFr (p := ⟨ylsn, zep, ⟨kind, txn, prev, page, slot, ⟨bU, ⟨bE, bA, bC, bB⟩⟩, ⟨aU, ⟨aE, aA, aC, aB⟩⟩, uN, nT, ⟨tE, tA, tN, tC, tB⟩, ⟨dE, dA, dN, dC, dB⟩, ⟨iE, iA, iC, iB⟩⟩⟩) rfl (.tmp 24) (.tmp 34) (by rfl) (by rfl) (by rfl) HB8.out HH8.out.own HO8.out (fun b hb h => (HF.out b hb).2.2.2.2.2.2.1 h) hq ?_
 intro gF cF w9 hn hk9 hft
 have HN := hid (HH8.out.addFr hk9 hn hft HR.out (fun b hb => ⟨(HF.out b hb).1, (HF.out b hb).2.1, (HF.out b hb).2.2.1, (HF.out b hb).2.2.2.1, (HF.out b hb).2.2.2.2.1, (HF.out b hb).2.2.2.2.2.1, HZR.out b hb⟩) (by have := HK8.out.size; omega) (by have := HK8.out.size; omega))
 have hkf : Kept (fun b => footFr (.slice fa fn fc) qs b) w8 w9 := hk9.mono (fun b _ e => .inl e)
 have HQ9 := (show Hid (Kept (fun b => b = H ∨ footFr (.slice fa fn fc) qs b) w (w9.setCell ⟨H, 5, none⟩ (.slice (some ⟨gF, 0, none⟩) (fn + 1) cF))) from (HQ8.out.next hkf (fun i hi e => .inr e)).setCell (.inr (.inl rfl)) _)
 have HFT := (show Hid (∀ b, footFr (.slice (some ⟨gF, 0, none⟩) (fn + 1) cF) (qs ++ [⟨ylsn, zep, ⟨kind, txn, prev, page, slot, ⟨bU, ⟨bE, bA, bC, bB⟩⟩, ⟨aU, ⟨aE, aA, aC, aB⟩⟩, uN, nT, ⟨tE, tA, tN, tC, tB⟩, ⟨dE, dA, dN, dC, dB⟩, ⟨iE, iA, iC, iB⟩⟩⟩]) b → _) from fun b hb => (hft b hb).imp_right (fun h => h.imp_right (fun h => Nat.le_trans HK8.out.size h)))
 have HX9 := (show Hid (¬ footFr (.slice fa fn fc) qs X) from fun e => absurd (HH.out.own.lt X e) (by omega))
 have HZ9 := (show Hid (¬ footFr (.slice fa fn fc) qs Z) from fun e => absurd (HH.out.own.lt Z e) (by omega))
 have hbx := HH8.out.box.kept hkf (fun e => (HH8.out.f H e).2.2.1 rfl)
 have q5 : w9.cell? ⟨H, 5, none⟩ = some (.slice fa fn fc) := hbx.cell 5
 have fx := hbx.frozen
 have hS : (fun wx : World => wx.cell? ⟨H, 5, none⟩ = some (.slice fa fn fc) ∧ wx.cell? ⟨Z, 1, none⟩ = some (.int .i64 ylsn) ∧ wx.cell? ⟨H, 1, none⟩ = some (.int .i64 zep) ∧ wx.rangeAt X 0 [.int .i64 kind, .int .i64 txn, .int .i64 prev, .int .i64 page, .int .i64 slot, .bool bU, .slice bA bB.length bC, .bool aU, .slice aA aB.length aC, .int .i64 uN, .int .i64 nT, .slice tA tN tC, .slice dA dN dC, .slice iA iB.length iC]) w9 := ⟨q5, (HBZ8.out.kept hkf HZ9.out).cell 1, hbx.cell 1, (HBR8.out.kept hkf HX9.out).rangeAll⟩
 clear hbx hkf hn hft hk9
 refine hK.out _ _ (fun _ => hS) ?_
 clear hK K
 try simp only [Act.put, sA, s0, sS]
 refine wpAnyV_one (i := 16) (by kernel_rfl) rfl (fun K hK => ?_)
 go_simp
 refine hK.out _ _ (fun _ => hS) ?_
 clear hK K
 try simp only [Act.put, sA, s0, sS]
 refine wpAnyV_one (i := 17) (by kernel_rfl) rfl (fun K hK => ?_)
 go_simp
 refine hK.out _ _ (fun _ => hS) ?_
 clear hK K
 try simp only [Act.put, sA, s0, sS]
 refine wpAnyV_one (i := 18) (by kernel_rfl) rfl (fun K hK => ?_)
 go_simp
 refine hK.out _ _ (fun h => absurd rfl h) ?_
 clear hK K
 refine wpAnyV_done (by kernel_rfl) ?_
 try simp only [Act.put, sA, s0, sS]
 clear hS q5 fx
 go_wp2
 refine bodyPost_end (results_none (by rfl) _ _ _) rfl ⟨rfl, _, _, _, _, _, HN.out.1, by simp, by simp, fun _ => by simp, HK8.out.trans HN.out.2, HQ9.out, fun b hb => hb.elim (fun e => (HFT.out b e).elim .inl (fun h => .inr (.inr h))) (fun e => .inr (.inr (.inr (HZW.out b e))))⟩
section
variable {lo B H : Nat} {x : StLog} {fa : Option Addr} {fn fc : Nat} {qs : List StLogFrame} {g1 g2 g3 : Nat} {l1 l2 l3 : List Int} {w w' : World}
theorem vals_put (l : List Int) (T : Nat) (z : Int) : (vals .i64 l).set T (.int .i64 z) = vals .i64 (l.set T z) := by simp [vals, List.map_set]
theorem six_at {w : World} {g : Nat} {l : List Int} (h : Blk w g 2 (vals .i64 l) ∧ l.length = 6) {T : Nat} (hT : T < 6) : w.cell? ⟨g, T, none⟩ = some (.int .i64 (l.getD T 0)) := by
 have h1 := h.1.cell T
 rw [h1]
 simp [vals, List.getD_eq_getElem?_getD, List.getElem?_eq_getElem (show T < l.length by rw [h.2]; exact hT)]
theorem HsI.set1 (h : HsI lo B H x fa fn fc qs g1 g2 g3 l1 l2 l3 w) (T : Nat) (z : Int) : HsI lo B H x fa fn fc qs g1 g2 g3 (l1.set T z) l2 l3 (w.setCell ⟨g1, T, none⟩ (.int .i64 z)) := by
 have hk : Kept (fun b => b = g1) w (w.setCell ⟨g1, T, none⟩ (.int .i64 z)) := Kept.setCell (R := fun b => b = g1) (Kept.refl _ _) (.inr (by rfl)) _
 obtain ⟨_, _, ⟨e1, e2, e3⟩, e4, e5, e6⟩ := h.d
 exact ⟨h.box.kept hk e1, h.tail.kept hk (fun b hb => (h.t b hb).2.2.2.1), h.tB, h.tz, h.own.kept hk (fun b hb => (h.f b hb).2.2.2.1), h.each, ⟨by rw [← vals_put]; exact h.c1.1.stored T _, by rw [List.length_set]; exact h.c1.2⟩, ⟨h.c2.1.kept hk (fun e => e4 e.symm), h.c2.2⟩, ⟨h.c3.1.kept hk (fun e => e5 e.symm), h.c3.2⟩, h.f, h.t, h.d⟩
theorem HsI.set2 (h : HsI lo B H x fa fn fc qs g1 g2 g3 l1 l2 l3 w) (T : Nat) (z : Int) : HsI lo B H x fa fn fc qs g1 g2 g3 l1 (l2.set T z) l3 (w.setCell ⟨g2, T, none⟩ (.int .i64 z)) := by
 have hk : Kept (fun b => b = g2) w (w.setCell ⟨g2, T, none⟩ (.int .i64 z)) := Kept.setCell (R := fun b => b = g2) (Kept.refl _ _) (.inr (by rfl)) _
 obtain ⟨_, _, ⟨e1, e2, e3⟩, e4, e5, e6⟩ := h.d
 exact ⟨h.box.kept hk e2, h.tail.kept hk (fun b hb => (h.t b hb).2.2.2.2.1), h.tB, h.tz, h.own.kept hk (fun b hb => (h.f b hb).2.2.2.2.1), h.each, ⟨h.c1.1.kept hk e4, h.c1.2⟩, ⟨by rw [← vals_put]; exact h.c2.1.stored T _, by rw [List.length_set]; exact h.c2.2⟩, ⟨h.c3.1.kept hk (fun e => e6 e.symm), h.c3.2⟩, h.f, h.t, h.d⟩
theorem HsI.set3 (h : HsI lo B H x fa fn fc qs g1 g2 g3 l1 l2 l3 w) (T : Nat) (z : Int) : HsI lo B H x fa fn fc qs g1 g2 g3 l1 l2 (l3.set T z) (w.setCell ⟨g3, T, none⟩ (.int .i64 z)) := by
 have hk : Kept (fun b => b = g3) w (w.setCell ⟨g3, T, none⟩ (.int .i64 z)) := Kept.setCell (R := fun b => b = g3) (Kept.refl _ _) (.inr (by rfl)) _
 obtain ⟨_, _, ⟨e1, e2, e3⟩, e4, e5, e6⟩ := h.d
 exact ⟨h.box.kept hk e3, h.tail.kept hk (fun b hb => (h.t b hb).2.2.2.2.2.1), h.tB, h.tz, h.own.kept hk (fun b hb => (h.f b hb).2.2.2.2.2), h.each, ⟨h.c1.1.kept hk e5, h.c1.2⟩, ⟨h.c2.1.kept hk e6, h.c2.2⟩, ⟨by rw [← vals_put]; exact h.c3.1.stored T _, by rw [List.length_set]; exact h.c3.2⟩, h.f, h.t, h.d⟩
def FrH (w : World) (b off : Nat) (ps : List StLogFrame) : Prop := ∀ j i, (h : j < ps.length) → i < 16 → w.cell? ⟨b, off + (j * 16 + i), none⟩ = (kFr.cells ps[j])[i]?
theorem HsI.fr (h : HsI lo B H x fa fn fc qs g1 g2 g3 l1 l2 l3 w) (hq : 1 ≤ qs.length) : ∃ gF off, fa = some ⟨gF, off, none⟩ ∧ fn = qs.length ∧ FrH w gF off qs := by
 rcases h.own.own.rd.row with ⟨h0, _⟩ | ⟨b, off, c, he, hc⟩
 ·rw [h0] at hq
  simp at hq
 ·injection he with h1 h2 h3
  exact ⟨b, off, h1, h2, hc⟩
theorem FrH.lsn {b off : Nat} {ps : List StLogFrame} (h : FrH w b off ps) (k : Nat) (hk : k < ps.length) : w.cell? ⟨b, off + k * 16, none⟩ = some (.int .i64 ps[k].lsn) := by
 have := h k 0 hk (by omega)
 simpa [kFr, StLogFrame.cells] using this
def rcCells (r : StLogRecord) : List Value := [.int .i64 r.kind, .int .i64 r.txn, .int .i64 r.prev, .int .i64 r.page, .int .i64 r.slot, .bool r.before.used, r.before.data.v, .bool r.after.used, r.after.data.v, .int .i64 r.uN, .int .i64 r.nT, r.txns.v, r.dirty.v, r.image.v]
theorem rcCells_one (r : StLogRecord) : (rcCells r).toArray.all (·.oneCell') = true := all_oneCell_toArray (fun v hv => by
 simp only [rcCells, List.mem_cons, List.not_mem_nil, or_false] at hv
 rcases hv with rfl | rfl | rfl | rfl | rfl | rfl | rfl | rfl | rfl | rfl | rfl | rfl | rfl | rfl <;> rfl)
theorem FrH.rec {b off : Nat} {ps : List StLogFrame} (h : FrH w b off ps) (k : Nat) (hk : k < ps.length) : w.rangeAt b (off + k * 16 + 2) (rcCells ps[k].record) := fun j v hv => by
 have hj : j < 14 := by have := (List.getElem?_eq_some_iff.1 hv).1; simpa [rcCells] using this
 have h1 := h k (j + 2) hk (by omega)
 rw [show off + (k * 16 + (j + 2)) = off + k * 16 + 2 + j from by omega] at h1
 rw [h1, ← hv]
 simp [kFr, StLogFrame.cells, rcCells]
end
structure HsS (w0 w : World) (lo B H : Nat) (v : Value) (cs : List Int) (k : Nat) (size : Int) (x : StLog) (fa : Option Addr) (fn fc : Nat) (qs : List StLogFrame) (g1 g2 g3 : Nat) (l1 l2 l3 : List Int) (wr : World) : Prop where
 hs : HsI lo B H x fa fn fc qs g1 g2 g3 l1 l2 l3 wr
 src : SrcR w0 wr B v cs k size
 kept : Kept (fun b => lo ≤ b ∨ b = B) w wr
 base : w0.heap.size ≤ lo ∧ lo ≤ w.heap.size ∧ B < lo
section
variable {w0 w wr wx : World} {lo B H : Nat} {v : Value} {cs : List Int} {k k' : Nat} {size : Int} {x : StLog} {fa : Option Addr} {fn fc : Nat} {qs : List StLogFrame} {g1 g2 g3 : Nat} {l1 l2 l3 : List Int}
theorem HsS.same (h : HsS w0 w lo B H v cs k size x fa fn fc qs g1 g2 g3 l1 l2 l3 wr) (hk : Same wr wx) : HsS w0 w lo B H v cs k size x fa fn fc qs g1 g2 g3 l1 l2 l3 wx :=
 ⟨h.hs.same hk, h.src.same hk, h.kept.trans (hk.mono (fun _ _ e => e.elim)), h.base⟩
theorem HsS.draw (h : HsS w0 w lo B H v cs k size x fa fn fc qs g1 g2 g3 l1 l2 l3 wr) (hs : SrcR w0 wx B v cs k' size) (hk : Kept (fun b => b = B) wr wx) : HsS w0 w lo B H v cs k' size x fa fn fc qs g1 g2 g3 l1 l2 l3 wx :=
 ⟨h.hs.draw hk, hs, h.kept.trans (hk.mono (fun _ _ e => .inr e)), h.base⟩
theorem HsS.setR {w' : World} {g : Nat} (h : HsS w0 w lo B H v cs k size x fa fn fc qs g1 g2 g3 l1 l2 l3 wr) (hk : Kept (fun b => b = g) wr w') (hg : lo ≤ g ∧ ¬ g = B) : SrcR w0 w' B v cs k size ∧ Kept (fun b => lo ≤ b ∨ b = B) w w' :=
 ⟨h.src.on hk (fun e => hg.2 e.symm) (fun i hi e => by have e' : i = g := e; have := h.base; omega), h.kept.trans (hk.mono (fun i _ e => by have e' : i = g := e; subst e'; exact .inl hg.1))⟩
theorem HsS.set1 (h : HsS w0 w lo B H v cs k size x fa fn fc qs g1 g2 g3 l1 l2 l3 wr) (T : Nat) (z : Int) : HsS w0 w lo B H v cs k size x fa fn fc qs g1 g2 g3 (l1.set T z) l2 l3 (wr.setCell ⟨g1, T, none⟩ (.int .i64 z)) := by
 obtain ⟨a, b⟩ := h.setR (g := g1) (Kept.setCell (R := fun b => b = g1) (Kept.refl _ _) (.inr (by rfl)) (.int .i64 z) (p := ⟨g1, T, none⟩)) ⟨h.hs.d.1.2.1, h.hs.d.2.1.2.1⟩
 exact ⟨h.hs.set1 T z, a, b, h.base⟩
theorem HsS.set2 (h : HsS w0 w lo B H v cs k size x fa fn fc qs g1 g2 g3 l1 l2 l3 wr) (T : Nat) (z : Int) : HsS w0 w lo B H v cs k size x fa fn fc qs g1 g2 g3 l1 (l2.set T z) l3 (wr.setCell ⟨g2, T, none⟩ (.int .i64 z)) := by
 obtain ⟨a, b⟩ := h.setR (g := g2) (Kept.setCell (R := fun b => b = g2) (Kept.refl _ _) (.inr (by rfl)) (.int .i64 z) (p := ⟨g2, T, none⟩)) ⟨h.hs.d.1.2.2.1, h.hs.d.2.1.2.2.1⟩
 exact ⟨h.hs.set2 T z, a, b, h.base⟩
theorem HsS.set3 (h : HsS w0 w lo B H v cs k size x fa fn fc qs g1 g2 g3 l1 l2 l3 wr) (T : Nat) (z : Int) : HsS w0 w lo B H v cs k size x fa fn fc qs g1 g2 g3 l1 l2 (l3.set T z) (wr.setCell ⟨g3, T, none⟩ (.int .i64 z)) := by
 obtain ⟨a, b⟩ := h.setR (g := g3) (Kept.setCell (R := fun b => b = g3) (Kept.refl _ _) (.inr (by rfl)) (.int .i64 z) (p := ⟨g3, T, none⟩)) ⟨h.hs.d.1.2.2.2, h.hs.d.2.1.2.2.2⟩
 exact ⟨h.hs.set3 T z, a, b, h.base⟩
theorem HsS.add {Ok : (Int × Int × Int × Int × List Int) → RcY → Prop} {r : StLogRecord} (h : HsS w0 w lo B H v cs k size x fa fn fc qs g1 g2 g3 l1 l2 l3 wr) (ha : AddR Ok lo B H x r fa fn fc qs g1 g2 g3 l1 l2 l3 wr wx) :
  ∃ (x' : StLog) (fa' : Option Addr) (fn' fc' : Nat) (qs' : List StLogFrame), HsS w0 w lo B H v cs k size x' fa' fn' fc' qs' g1 g2 g3 l1 l2 l3 wx ∧ qs.length ≤ qs'.length ∧ qs'.length ≤ qs.length + 1 ∧ (Ok x.dat r.dat → qs'.length = qs.length + 1) := by
 obtain ⟨x', fa', fn', fc', qs', h1, h2, h3, h4, hk, _⟩ := ha
 exact ⟨x', fa', fn', fc', qs', ⟨h1, h.src.on hk (fun e => e.2 rfl) (fun i hi e => by have := h.base; have := e.1; omega), h.kept.trans (hk.mono (fun i _ e => .inl e.1)), h.base⟩, h2, h3, h4⟩
theorem HsS.add2 {Ok : (Int × Int × Int × Int × List Int) → RcY → Prop} {r : StLogRecord} (h : HsS w0 w lo B H v cs k size x fa fn fc qs g1 g2 g3 l1 l2 l3 wr) (ha : AddR Ok lo B H x r fa fn fc qs g1 g2 g3 l1 l2 l3 wr wx) :
  ∃ (x' : StLog) (fa' : Option Addr) (fn' fc' : Nat) (qs' : List StLogFrame), HsS w0 w lo B H v cs k size x' fa' fn' fc' qs' g1 g2 g3 l1 l2 l3 wx ∧ qs.length ≤ qs'.length ∧ qs'.length ≤ qs.length + 1 ∧ (Ok x.dat r.dat → qs'.length = qs.length + 1) ∧ Kept (fun b => b = H ∨ footFr (.slice fa fn fc) qs b) wr wx ∧ ∀ b, (footFr (.slice fa' fn' fc') qs' b ∨ FootL x'.rows b) → footFr (.slice fa fn fc) qs b ∨ FootL x.rows b ∨ FootL r.rows b ∨ wr.heap.size ≤ b := by
 obtain ⟨x', fa', fn', fc', qs', h1, h2, h3, h4, hk, h5, h6⟩ := ha
 exact ⟨x', fa', fn', fc', qs', ⟨h1, h.src.on hk (fun e => e.2 rfl) (fun i hi e => by have := h.base; have := e.1; omega), h.kept.trans (hk.mono (fun i _ e => .inl e.1)), h.base⟩, h2, h3, h4, h5, h6⟩
def HsE (w0 w : World) (lo B H : Nat) (v : Value) (cs : List Int) (k : Nat) (size : Int) (n : Nat) (g1 g2 g3 : Nat) (wr : World) : Prop :=
 ∃ (x : StLog) (fa : Option Addr) (fn fc : Nat) (qs : List StLogFrame) (l1 l2 l3 : List Int) (k' : Nat), HsS w0 w lo B H v cs k' size x fa fn fc qs g1 g2 g3 l1 l2 l3 wr ∧ 1 ≤ qs.length ∧ qs.length ≤ n ∧ k' ≤ k
def smR (kind txn prev un nt : Int) : StLogRecord := ⟨kind, txn, prev, 0, 0, ⟨false, ⟨0, none, 0, []⟩⟩, ⟨false, ⟨0, none, 0, []⟩⟩, un, nt, ⟨0, none, 0, 0, []⟩, ⟨0, none, 0, 0, []⟩, ⟨0, none, 0, []⟩⟩
theorem smR_foot (kind txn prev un nt : Int) (b : Nat) : ¬ FootL (smR kind txn prev un nt).rows b := by
 rintro ⟨r, hr, hb⟩
 simp only [smR, StLogRecord.rows, StPageRecord.rows, BS.rows, FR.rows, ints, List.mem_append, List.mem_singleton] at hr
 rcases hr with rfl | rfl | rfl | rfl | rfl <;> simp [BS.v, FR.v, Value.ownBlock] at hb
theorem smR_own (kind txn prev un nt : Int) (w : World) : OwnL w (smR kind txn prev un nt).rows := by
 refine ⟨fun r hr => ?_, ?_⟩
 ·simp only [smR, StLogRecord.rows, StPageRecord.rows, BS.rows, FR.rows, ints, List.mem_append, List.mem_singleton] at hr
  rcases hr with rfl | rfl | rfl | rfl | rfl <;> exact ⟨by simp [vals], .inl ⟨rfl, rfl⟩⟩
 ·simp [smR, StLogRecord.rows, StPageRecord.rows, BS.rows, FR.rows, ints, BS.v, FR.v, Apart, Value.ownBlock]
theorem smR_B (kind txn prev un nt : Int) : RcB (smR kind txn prev un nt) := ⟨⟨fun y hy => absurd hy (by simp [smR]), fun y hy => absurd hy (by simp [smR]), fun y hy => absurd hy (by simp [smR]), .inr rfl, .inr rfl, .inr rfl⟩, by simp [smR, StLogRecord.szs, StPageRecord.szs]⟩
theorem HsS.small {Ok : (Int × Int × Int × Int × List Int) → RcY → Prop} (hA : AppC Ok) (hF : FluC) (h : HsS w0 w lo B H v cs k size x fa fn fc qs g1 g2 g3 l1 l2 l3 wr) (hq : qs.length ≤ 20000) (kind txn prev un nt : Int) :
  Calls Try.prog 30 #[.pointer (some ⟨H, 0, none⟩), .agg #[.int .i64 kind, .int .i64 txn, .int .i64 prev, .int .i64 0, .int .i64 0, .bool false, .slice none 0 0, .bool false, .slice none 0 0, .int .i64 un, .int .i64 nt, .slice none 0 0, .slice none 0 0, .slice none 0 0]] wr fun e w' => e = .returned (.tuple #[]) ∧ AddR Ok lo B H x (smR kind txn prev un nt) fa fn fc qs g1 g2 g3 l1 l2 l3 wr w' := by
 have h1 := h.kept.size
 have h2 := h.base
 exact add_k hA hF (smR kind txn prev un nt) h.hs (smR_B _ _ _ _ _) (smR_own _ _ _ _ _ _) (fun b hb => absurd hb (smR_foot _ _ _ _ _ b)) hq (by omega) h2.2.2
theorem HsS.fresh (h : HsS w0 w lo B H v cs k size x fa fn fc qs g1 g2 g3 l1 l2 l3 wr) (b : Nat) (hb : wr.heap.size ≤ b) : lo ≤ b ∧ ¬ b = B ∧ ¬ b = H ∧ ¬ b = g1 ∧ ¬ b = g2 ∧ ¬ b = g3 ∧ ¬ footFr (.slice fa fn fc) qs b ∧ ¬ FootL x.rows b := by
 have h1 := h.kept.size
 have h2 := h.base
 have h3 := h.hs.box.lt
 have h4 := h.hs.c1.1.lt
 have h5 := h.hs.c2.1.lt
 have h6 := h.hs.c3.1.lt
 refine ⟨by omega, by omega, by omega, by omega, by omega, by omega, fun e => ?_, fun e => ?_⟩
 ·have := h.hs.own.lt b e
  omega
 ·have := h.hs.tail.lt b e
  omega
theorem HsS.more {Ok : (Int × Int × Int × Int × List Int) → RcY → Prop} (hA : AppC Ok) (hF : FluC) (h : HsS w0 w lo B H v cs k size x fa fn fc qs g1 g2 g3 l1 l2 l3 wr) (hq : qs.length ≤ 20000) (r : StLogRecord) (hr : RcB r) (ho : OwnL wr r.rows) (hf : ∀ b, FootL r.rows b → lo ≤ b ∧ ¬ b = B ∧ ¬ b = H ∧ ¬ b = g1 ∧ ¬ b = g2 ∧ ¬ b = g3 ∧ ¬ footFr (.slice fa fn fc) qs b ∧ ¬ FootL x.rows b) :
  Calls Try.prog 30 #[.pointer (some ⟨H, 0, none⟩), .agg (rcCells r).toArray] wr fun e w' => e = .returned (.tuple #[]) ∧ AddR Ok lo B H x r fa fn fc qs g1 g2 g3 l1 l2 l3 wr w' := by
 have h1 := h.kept.size
 have h2 := h.base
 exact add_k hA hF r h.hs hr ho hf hq (by omega) h2.2.2
theorem infoLR14 : (Try.prog.info? 48).map (·.size) = some 14 := by kernel_rfl
theorem box_fill (w : World) (zs cs : List Value) (e : TypeId) (hl : zs.length = cs.length) : Blk ((w.alloc (.cells zs.toArray e)).setCells w.heap.size 0 cs) w.heap.size e cs ∧ Same w ((w.alloc (.cells zs.toArray e)).setCells w.heap.size 0 cs) := by
 have hk0 : Same w (w.alloc (.cells zs.toArray e)) := (Kept.refl _ _).alloc _
 refine ⟨?_, hk0.next (Kept.setCells (R := fun b => b = w.heap.size) (.inr rfl) _ _ (Kept.refl _ _)) (fun i hi e => by have e' : i = w.heap.size := e; omega)⟩
 have h1 := (Blk.newL w zs e).setCells cs 0 (by rw [hl]; exact Nat.le_of_eq (Nat.zero_add _))
 rwa [lay_all _ _ hl.symm] at h1
end
end Go.Proofs.Ytcldagphkpkdpaa
