import Derived.Test.YtapdfgkbhaoelaaGreatDoorFrI
import Derived.Test.YtapdfgkbhaoelaaGreatDoorDecS
import Derived.Laws.IdiomCopy
namespace Go.Proofs.YtapdfgkbhaoelaaGreatDoor
set_option maxRecDepth 100000
set_option maxHeartbeats 8000000
set_option linter.unusedVariables false
set_option linter.unusedSimpArgs false
open Go.RowKit Go
def RecAt (w : World) (cs : List Value) (d : Uv) : Prop := ∃ y : StLogRecord, cs = O8 y ∧ y.dat = d ∧ y.isB ∧ y.szs ≤ 1073741824 ∧ StLogRecord.rd w y
def Yl (f : Nat) (v : Array Value) (w : World) (bs : List Int) : Prop := Calls Tryz.prog f v w fun e w' => ∃ a c, e = .returned (.slice a bs.length c) ∧ Own 0 5 .u8 w' (.slice a bs.length c) bs ∧ Same w w'
section
variable {w wx : World} {cs ds : List Value} {d : Uv}
theorem RecAt.same (h : RecAt w cs d) (hk : Same w wx) : RecAt wx cs d := by
 obtain ⟨y, a, b, c, e, f⟩ := h;exact ⟨y, a, b, c, e, f.same hk⟩
theorem RecAt.len (h : RecAt w cs d) : cs.length = 14 := by
 obtain ⟨y, rfl, _⟩ := h;rfl
theorem RecAt.cells (h : RecAt w cs d) : cs.toArray.all (·.oneCell') = true := by
 obtain ⟨y, rfl, _⟩ := h;exact PG y
theorem Ud {v : Value} {l : List Value} (h1 : v.oneCell' = true) (h2 : l.toArray.all (·.oneCell') = true) : (v :: l).toArray.all (·.oneCell') = true := by
 rw [List.all_toArray] at h2 ⊢;rw [List.all_cons, h1, h2];rfl
theorem RecAt.bytes (h : RecAt w cs d) : IsB (P8 d) := by
 obtain ⟨y, rfl, rfl, hB, _⟩ := h;exact Yj hB
theorem RecAt.flat (h : RecAt w cs d) : Vv d := by
 obtain ⟨y, rfl, rfl, _, _, hv⟩ := h;exact ⟨by have := hv.2.2.1.2.1; show y.txns.bs.length % 4 = 0; omega, by have := hv.2.2.2.1.2.1; show y.dirty.bs.length % 2 = 0; omega⟩
theorem RecAt.enc (h : RecAt w cs d) : Yl 5 #[.agg cs.toArray] w (P8 d) := by
 obtain ⟨y, rfl, rfl, hB, hz, hv⟩ := h;exact (Ua y w hB hz hv).mono (fun e w' ⟨a, c, h1, _, h2, h3⟩ => ⟨a, c, h1, h2, h3⟩)
theorem RecAt.frm (h : RecAt w cs d) (p q : Int) (hp : IsI p) (hq : IsI q) : Yl 16 #[Q1 p, Q1 q, .agg cs.toArray] w (VT p q d) := by
 obtain ⟨y, rfl, rfl, hB, hz, hv⟩ := h;exact (XD p q y w hp hq hB hz hv).mono (fun e w' ⟨a, c, h1, _, h2, h3⟩ => ⟨a, c, h1, h2, h3⟩)
theorem RecAt.frs (h : RecAt w cs d) (p q : Int) (hp : IsI p) (hq : IsI q) : Yl 17 #[Q1 p, Q1 q, .agg cs.toArray] w (VT p q d) := by
 obtain ⟨y, rfl, rfl, hB, hz, hv⟩ := h;exact (XE p q y w hp hq hB hz hv).mono (fun e w' ⟨a, c, h1, _, h2, h3⟩ => ⟨a, c, h1, h2, h3⟩)
theorem RecAt.flt (h : RecAt w cs d) : Calls Tryz.prog 7 #[.agg cs.toArray] w fun e w' => e = .returned (Q1 (O9 d)) ∧ Same w w' := by
 obtain ⟨y, rfl, rfl, hB, hz, hv⟩ := h;exact Qc y w hB hz hv
theorem RecAt.fsz (h : RecAt w cs d) : Calls Tryz.prog 20 #[.agg cs.toArray] w fun e w' => e = .returned (Q1 (WY d)) ∧ Same w w' := by
 obtain ⟨y, rfl, rfl, hB, hz, hv⟩ := h;exact jaJ y w hB hz hv
theorem RecAt.one (h : RecAt w cs d) (h' : RecAt w ds d) : Calls Tryz.prog 8 #[.agg cs.toArray, .agg ds.toArray] w fun e w' => e = .returned (.bool true) ∧ Same w w' := by
 obtain ⟨y, rfl, rfl, hB, hz, hv⟩ := h;obtain ⟨y', rfl, hd, Jl, vg, Ac⟩ := h';exact ZW y y' w hB hz hv Jl vg Ac hd.symm
theorem ZX {y : StLogRecord} (ho : OwnL w y.rows) (h1 : IsB y.dat.2.2.2.2.2.1.2 ∧ IsB y.dat.2.2.2.2.2.2.1.2 ∧ IsB y.dat.2.2.2.2.2.2.2.2.2.2.2) (h2 : UQ y.dat ≤ 140000) : RecAt w (O8 y) y.dat := by
 have hr := StLogRecord.own_rd ho;refine ⟨y, rfl, rfl, h1, ?_, hr⟩;have n1 := hr.2.2.1.2.1;have n2 := hr.2.2.2.1.2.1;simp only [UQ, StLogRecord.dat, StPageRecord.dat] at h2;simp only [StLogRecord.szs, StPageRecord.szs];omega
theorem Tp : (IsB SN.2.2.2.2.2.1.2 ∧ IsB SN.2.2.2.2.2.2.1.2 ∧ IsB SN.2.2.2.2.2.2.2.2.2.2.2) ∧ UQ SN ≤ 140000 := by
 refine ⟨⟨IsB.nil, IsB.nil, IsB.nil⟩, ?_⟩;unfold UQ SN; simp
theorem ja9 {xs : List Int} (hx : IsB xs) : (IsB (QU xs).2.2.2.2.2.2.1.2 ∧ IsB (QU xs).2.2.2.2.2.2.2.1.2 ∧ IsB (QU xs).2.2.2.2.2.2.2.2.2.2.2.2) ∧ UQ (QU xs).2 ≤ 140000 := by
 unfold QU
 split
 ·have h := Vy (k := nS xs 1) (t := nS (xs.drop 1) 4) (p := nS (xs.drop 5) 8) (hx.drop 13)
  exact ⟨⟨h.1, h.2.1, h.2.2.1⟩, h.2.2.2⟩
 ·exact Tp
theorem jdT {bs : List Int} {l m n : Int} (hB : IsB bs) : (IsB (QT bs l m n).2.2.2.2.2.2.2.2.1.2 ∧ IsB (QT bs l m n).2.2.2.2.2.2.2.2.2.1.2 ∧ IsB (QT bs l m n).2.2.2.2.2.2.2.2.2.2.2.2.2.2) ∧ UQ (QT bs l m n).2.2.2 ≤ 140000 := by
 unfold QT ZU Q9
 split
 ·split
  ·exact Tp
  split
  ·exact Tp
  split
  ·exact Tp
  split
  ·exact ja9 ((hB.dropI 20).tk _)
  ·exact Tp
 ·exact Tp
end
theorem jef (v : Value) (bs : List Int) (w : World) (hB : IsB bs) (hl : bs.length ≤ 1099511627776) (hv : Rd .u8 w v bs) :
  Calls Tryz.prog 6 #[v] w fun e w' => ∃ cs, e = .returned (.agg (.bool (QU bs).1 :: cs).toArray) ∧ cs.length = 14 ∧ RecAt w' cs (QU bs).2 ∧ Same w w' := by
 refine (Vz v bs w hB hl hv).mono ?_;rintro e w' ⟨y, rfl, hd, _, ho, hk⟩;have bj := ja9 hB;have e1 : y.record.dat = (QU bs).2 := congrArg Prod.snd hd;have e0 : y.good = (QU bs).1 := congrArg Prod.fst hd;rw [← e1] at bj ⊢;rw [← e0];exact ⟨O8 y.record, rfl, rfl, ZX ho bj.1 bj.2, hk⟩
theorem jeW (v : Value) (bs : List Int) (w : World) (hB : IsB bs) (hl : bs.length ≤ 1099511627776) (hv : Rd .u8 w v bs) :
  Calls Tryz.prog 11 #[v] w fun e w' => ∃ cs, e = .returned (.agg (.bool (QU bs).1 :: cs).toArray) ∧ cs.length = 14 ∧ Same w w' := by
 refine (Za v bs w hB hl hv).mono ?_;rintro e w' ⟨y, rfl, hd, _, ho, hk⟩;have e0 : y.good = (QU bs).1 := congrArg Prod.fst hd;rw [← e0];exact ⟨O8 y.record, rfl, rfl, hk⟩
theorem jfy (v : Value) (bs : List Int) (l m n : Int) (w : World) (hB : IsB bs) (hI : IsI l) (hl : bs.length ≤ 1099511627776) (hv : Rd .u8 w v bs) :
  Calls Tryz.prog 19 #[v, Q1 l, Q1 m, Q1 n] w fun e w' => ∃ cs, e = .returned (.agg (Q1 (QT bs l m n).1 :: Q1 (QT bs l m n).2.1 :: Q1 (QT bs l m n).2.2.1 :: cs).toArray) ∧ cs.length = 14 ∧ RecAt w' cs (QT bs l m n).2.2.2 ∧ Same w w' := by
 refine (jam v bs l m n w hB hI hl hv).mono ?_;rintro e w' ⟨y, rfl, hd, _, ho, hk⟩;have bj := jdT (l := l) (m := m) (n := n) hB;have e0 : y.code = (QT bs l m n).1 := congrArg Prod.fst hd;have e1 : y.fsz = (QT bs l m n).2.1 := congrArg (fun x => x.2.1) hd;have e2 : y.epoch = (QT bs l m n).2.2.1 := congrArg (fun x => x.2.2.1) hd;have e3 : y.record.dat = (QT bs l m n).2.2.2 := congrArg (fun x => x.2.2.2) hd;rw [← e3] at bj ⊢;rw [← e0, ← e1, ← e2];exact ⟨O8 y.record, rfl, rfl, ZX ho bj.1 bj.2, hk⟩
theorem jcX {fs : List Value} (hl : fs.length = 14) : ∃ a b c d e f g h i j k l m n, fs = [a, b, c, d, e, f, g, h, i, j, k, l, m, n] := by
 match fs, hl with
 | [a, b, c, d, e, f, g, h, i, j, k, l, m, n], _ => exact ⟨_, _, _, _, _, _, _, _, _, _, _, _, _, _, rfl⟩
theorem jcY (g : Bool) {fs : List Value} (hl : fs.length = 14) (w : World) : (Instr.field 33 (.agg (.bool g :: fs).toArray) 0).run Tryz.prog w = .ok (.bool g) w := by
 obtain ⟨f0, f1, f2, f3, f4, f5, f6, f7, f8, f9, Oj, Nj, OH, Oy, rfl⟩ := jcX hl
 kernel_rfl
theorem Xe {P : Program} {o : Oper} {ev : Operand → Value} {ty : TypeId} {x : Operand} {j : Nat} {v r : Value} {w : World} (ho : o.op = .field ty x j) (hx : ev x = v) (hr : (Instr.field ty v j).run P w = .ok r w) : (execOp ev o).run P w = .ok (.value r) w := by
 simp only [execOp, ho, hx, Sem.run_bind, hr, Result.andThen, Sem.run_pure]
theorem ZY {e : TypeId} {w : World} {g n c : Nat} {bs : List Int} {x y z u : Int} (h : w.ownsRow 0 e 4 (Q3 g n c) n (vals .i64 bs ++ [Q1 x, Q1 y, Q1 z, Q1 u])) : OwnL w (FR.rows 4 ⟨e, some ⟨g, 0, none⟩, n, c, bs ++ [x, y, z, u]⟩) := by
 have e1 : vals .i64 bs ++ [Q1 x, Q1 y, Q1 z, Q1 u] = vals .i64 (bs ++ [x, y, z, u]) := by simp [vals]
 rw [e1] at h;exact ⟨fun r hr => by rw [List.mem_singleton.1 hr]; exact h, List.pairwise_singleton _ _⟩
theorem Z0 {e : TypeId} {w : World} {g n c : Nat} {bs : List Int} {x y : Int} (h : w.ownsRow 0 e 2 (Q3 g n c) n (vals .i64 bs ++ [Q1 x, Q1 y])) : OwnL w (FR.rows 2 ⟨e, some ⟨g, 0, none⟩, n, c, bs ++ [x, y]⟩) := by
 have e1 : vals .i64 bs ++ [Q1 x, Q1 y] = vals .i64 (bs ++ [x, y]) := by simp [vals]
 rw [e1] at h;exact ⟨fun r hr => by rw [List.mem_singleton.1 hr]; exact h, List.pairwise_singleton _ _⟩
theorem jdU : (Tryz.prog.info? 79).map (fun i => (i.zero, i.size, i.bytes)) = some (some (.agg #[Q1 0, Q1 0, Q1 0, Q1 0]), 4, 32) := by kernel_rfl
theorem jdV : (Tryz.prog.info? 81).map (fun i => (i.zero, i.size, i.bytes)) = some (some (.agg #[Q1 0, Q1 0]), 2, 16) := by kernel_rfl
theorem Ue {w : World} {bf : Array Oper} {rest : List Oper} {o : Oper} {a : Act} {Q : Exit → Act → World → Prop} (fq : o.guard = none) (s x : Operand)
  (ho : o.op = .call { callee := .builtin .append, args := #[s, x], argTypes := #[25, 25] }) {ta : Option Addr} {tn tc Y : Nat} {tb : List Int} {x1 x2 x3 x4 : Int} (hs : a.eval s = .slice ta tn tc) (hx : a.eval x = Q3 Y 1 1)
  (hB : Blk w Y 79 [Q1 x1, Q1 x2, Q1 x3, Q1 x4]) (hO : OwnL w (FR.rows 4 ⟨79, ta, tn, tc, tb⟩)) (hq : tn ≤ 20000)
  (h : ∀ g c w', w'.ownsRow 0 79 4 (Q3 g (tn + 1) c) (tn + 1) (vals .i64 tb ++ [Q1 x1, Q1 x2, Q1 x3, Q1 x4]) → w.grownBy w' (Value.slice ta tn tc).ownBlock → ((Value.slice ta tn tc).ownBlock = some g ∨ g = w.heap.size) → wpList Tryz.prog bf Q rest (a.put o.dst (Q3 g (tn + 1) c)) w') :
  wpList Tryz.prog bf Q (o :: rest) a w := by
 obtain ⟨i0, hi, b8, cE, cP⟩ := info_parts jdU;refine wpList_append_lies (P := Tryz.prog) w fq s x 25 ho 0 79 i0 _ 4 32 Tryz.underlying25 hi b8 cE cP rfl (by omega) (.slice ta tn tc) tn (vals .i64 tb) hs (hO.own _ (List.mem_singleton.2 rfl)) ⟨Y, 0, none⟩ 1 1 _ hx rfl (fun j u hu => ?_) (fun u hu => ?_) (by omega) (by unfold maxLen; omega) (by omega) (Nat.zero_le _) w.heap.size rfl (fun g c w' h1 h2 h3 _ => h g c w' h1 h2 h3)
 ·have h1 := hB.cell j
  rw [hu] at h1
  simpa [Addr.add_lit] using h1
 ·simp only [List.mem_cons, List.not_mem_nil, or_false] at hu
  rcases hu with rfl | rfl | rfl | rfl <;> rfl
theorem VL {w : World} {bf : Array Oper} {rest : List Oper} {o : Oper} {a : Act} {Q : Exit → Act → World → Prop} (fq : o.guard = none) (s x : Operand)
  (ho : o.op = .call { callee := .builtin .append, args := #[s, x], argTypes := #[26, 26] }) {ta : Option Addr} {tn tc Y : Nat} {tb : List Int} {x1 x2 : Int} (hs : a.eval s = .slice ta tn tc) (hx : a.eval x = Q3 Y 1 1)
  (hB : Blk w Y 81 [Q1 x1, Q1 x2]) (hO : OwnL w (FR.rows 2 ⟨81, ta, tn, tc, tb⟩)) (hq : tn ≤ 20000)
  (h : ∀ g c w', w'.ownsRow 0 81 2 (Q3 g (tn + 1) c) (tn + 1) (vals .i64 tb ++ [Q1 x1, Q1 x2]) → w.grownBy w' (Value.slice ta tn tc).ownBlock → ((Value.slice ta tn tc).ownBlock = some g ∨ g = w.heap.size) → wpList Tryz.prog bf Q rest (a.put o.dst (Q3 g (tn + 1) c)) w') :
  wpList Tryz.prog bf Q (o :: rest) a w := by
 obtain ⟨i0, hi, b8, cE, cP⟩ := info_parts jdV;refine wpList_append_lies (P := Tryz.prog) w fq s x 26 ho 0 81 i0 _ 2 16 Tryz.underlying26 hi b8 cE cP rfl (by omega) (.slice ta tn tc) tn (vals .i64 tb) hs (hO.own _ (List.mem_singleton.2 rfl)) ⟨Y, 0, none⟩ 1 1 _ hx rfl (fun j u hu => ?_) (fun u hu => ?_) (by omega) (by unfold maxLen; omega) (by omega) (Nat.zero_le _) w.heap.size rfl (fun g c w' h1 h2 h3 _ => h g c w' h1 h2 h3)
 ·have h1 := hB.cell j
  rw [hu] at h1
  simpa [Addr.add_lit] using h1
 ·simp only [List.mem_cons, List.not_mem_nil, or_false] at hu
  rcases hu with rfl | rfl <;> rfl
theorem OwnL.swapH {w w9 : World} {A X C X' : List Row} (h : OwnL w (A ++ (X ++ C))) (hk : Kept (fun b => O6 X b) w w9) (hx : OwnL w9 X') (hf : ∀ b, O6 X' b → O6 X b ∨ w.heap.size ≤ b) : OwnL w9 (A ++ (X' ++ C)) ∧ ∀ b, O6 (A ++ (X' ++ C)) b → O6 (A ++ (X ++ C)) b ∨ w.heap.size ≤ b := by
 have ap : ∀ {rs ss : List Row}, OwnL w (rs ++ ss) → ∀ b, O6 rs b → O6 ss b → False := fun {rs ss} h b h1 h2 => by
  obtain ⟨r, hr, e⟩ := h1;obtain ⟨s, hs, e'⟩ := h2;exact (List.pairwise_append.1 h.apart).2.2 r hr s hs b e e'
 have hA := h.left.kept hk (fun b hb e => ap h b hb ((OX _ _ _).2 (.inl e)));have hC := h.right.right.kept hk (fun b hb e => ap h.right b e hb);refine ⟨hA.append (hx.append hC (fun b h1 h2 => ?_)) (fun b h1 h2 => ?_), fun b hb => ?_⟩
 ·rcases hf b h1 with e | e
  ·exact ap h.right b e h2
  ·have := h.right.right.lt b h2
   omega
 ·rcases (OX _ _ _).1 h2 with h2 | h2
  ·rcases hf b h2 with e | e
   ·exact ap h b h1 ((OX _ _ _).2 (.inl e))
   ·have := h.left.lt b h1
    omega
  ·exact ap h b h1 ((OX _ _ _).2 (.inr h2))
 ·rcases (OX _ _ _).1 hb with hb | hb
  ·exact .inl ((OX _ _ _).2 (.inl hb))
  rcases (OX _ _ _).1 hb with hb | hb
  ·exact (hf b hb).imp_left (fun e => (OX _ _ _).2 (.inr ((OX _ _ _).2 (.inl e))))
  ·exact .inl ((OX _ _ _).2 (.inr ((OX _ _ _).2 (.inr hb))))
theorem PL (m : Nat) (x : FR) (b : Nat) : O6 (x.rows m) b ↔ x.v.ownBlock = some b := PD _ _
theorem Qs (x : BS) (b : Nat) : O6 x.rows b ↔ x.v.ownBlock = some b := Pv _ _ _ _ _
theorem jba {w w9 : World} {r : StLogRecord} {d : FR} (h : OwnL w r.rows) (hk : Kept (fun b => r.txns.v.ownBlock = some b) w w9) (hx : OwnL w9 (d.rows 4)) (hf : ∀ b, d.v.ownBlock = some b → r.txns.v.ownBlock = some b ∨ w.heap.size ≤ b) : OwnL w9 (StLogRecord.rows { r with txns := d }) ∧ ∀ b, O6 (StLogRecord.rows { r with txns := d }) b → O6 r.rows b ∨ w.heap.size ≤ b := by
 have e1 : r.rows = (r.before.rows ++ r.after.rows) ++ (r.txns.rows 4 ++ (r.dirty.rows 2 ++ r.image.rows)) := by simp [StLogRecord.rows]
 have e2 : StLogRecord.rows { r with txns := d } = (r.before.rows ++ r.after.rows) ++ (d.rows 4 ++ (r.dirty.rows 2 ++ r.image.rows)) := by simp [StLogRecord.rows]
 rw [e1] at h ⊢;rw [e2];exact OwnL.swapH h (hk.mono (fun b _ e => (PL _ _ b).2 e)) hx (fun b hb => (hf b ((PL _ _ b).1 hb)).imp_left (fun e => (PL _ _ b).2 e))
theorem Z4 {w w9 : World} {r : StLogRecord} {d : FR} (h : OwnL w r.rows) (hk : Kept (fun b => r.dirty.v.ownBlock = some b) w w9) (hx : OwnL w9 (d.rows 2)) (hf : ∀ b, d.v.ownBlock = some b → r.dirty.v.ownBlock = some b ∨ w.heap.size ≤ b) : OwnL w9 (StLogRecord.rows { r with dirty := d }) ∧ ∀ b, O6 (StLogRecord.rows { r with dirty := d }) b → O6 r.rows b ∨ w.heap.size ≤ b := by
 have e1 : r.rows = (r.before.rows ++ (r.after.rows ++ r.txns.rows 4)) ++ (r.dirty.rows 2 ++ r.image.rows) := by simp [StLogRecord.rows]
 have e2 : StLogRecord.rows { r with dirty := d } = (r.before.rows ++ (r.after.rows ++ r.txns.rows 4)) ++ (d.rows 2 ++ r.image.rows) := by simp [StLogRecord.rows]
 rw [e1] at h ⊢;rw [e2];exact OwnL.swapH h (hk.mono (fun b _ e => (PL _ _ b).2 e)) hx (fun b hb => (hf b ((PL _ _ b).1 hb)).imp_left (fun e => (PL _ _ b).2 e))
structure EnS (m : Nat) (w0 w : World) (B : Nat) (v : Value) (cs : List Int) (k : Nat) (size : Int) (x : FR) (wr : World) : Prop where
 own : OwnL wr (x.rows m)
 ft : ∀ b, x.v.ownBlock = some b → w.heap.size ≤ b ∧ ¬ b = B
 src : SrcR w0 wr B v cs k size
 kept : Kept (fun b => b = B) w wr
def EnR (m : Nat) (E : TypeId) (w0 w w' : World) (e : Ending) (B : Nat) (v : Value) (cs : List Int) (k : Nat) (size : Int) : Prop :=
 ∃ (x : FR) (k' : Nat), e = .returned x.v ∧ x.e = E ∧ x.n ≤ 6 ∧ k' ≤ k + 40 ∧ EnS m w0 w B v cs k' size x w'
section
variable {m : Nat} {w0 w wr wx w9 : World} {B : Nat} {v : Value} {cs : List Int} {k k' : Nat} {size : Int} {x y : FR}
theorem EnS.same (h : EnS m w0 w B v cs k size x wr) (hk : Same wr wx) : EnS m w0 w B v cs k size x wx :=
 ⟨h.own.same hk, h.ft, h.src.same hk, h.kept.next hk (fun _ _ e => e.elim)⟩
theorem EnS.draw (h : EnS m w0 w B v cs k size x wr) (hs : SrcR w0 wx B v cs k' size) (hk : Kept (fun b => b = B) wr wx) : EnS m w0 w B v cs k' size x wx :=
 ⟨h.own.kept hk (fun b hb e => (h.ft b ((PL m x b).1 hb)).2 e), h.ft, hs, h.kept.trans hk⟩
theorem EnS.put {Y : Nat} (h : EnS m w0 w B v cs k size x wr) (hk : Kept (fun b => b = Y) wr wx) (hY : ∀ b, x.v.ownBlock = some b → ¬ b = Y) (dH : ¬ Y = B) (hN : w.heap.size ≤ Y) (hw : w0.heap.size ≤ w.heap.size) : EnS m w0 w B v cs k size x wx :=
 ⟨h.own.kept hk (fun b hb e => hY b ((PL m x b).1 hb) e), h.ft, h.src.on hk (fun e => dH e.symm) (fun i hi e => by have e' : i = Y := e; omega), h.kept.next hk (fun i hi e => by have e' : i = Y := e; omega)⟩
theorem EnS.app {g : Nat} (h : EnS m w0 w B v cs k size x wr) (hB : B < w.heap.size) (hw : w0.heap.size ≤ w.heap.size) (ho : OwnL w9 (y.rows m)) (hy : ∀ b, y.v.ownBlock = some b → b = g) (hg : wr.grownBy w9 x.v.ownBlock) (fH : x.v.ownBlock = some g ∨ g = wr.heap.size) : EnS m w0 w B v cs k size y w9 := by
 have hk : Kept (fun b => x.v.ownBlock = some b) wr w9 := Kept.of_grown hg (fun k e => e);have hs := h.kept.size;refine ⟨ho, fun b hb => ?_, h.src.on hk (fun e => (h.ft B e).2 rfl) (fun i hi e => by have := (h.ft i e).1; omega), h.kept.next hk (fun i hi e => by have := (h.ft i e).1; omega)⟩;rw [hy b hb]
 rcases fH with e | e
 ·exact h.ft g e
 ·omega
end
theorem own_one {g n c : Nat} {e : TypeId} {bs : List Int} : ∀ b, (FR.v ⟨e, some ⟨g, 0, none⟩, n, c, bs⟩).ownBlock = some b → b = g := fun b hb => by
 have e1 : g = b := (by simpa [FR.v, Value.ownBlock] using hb);exact e1.symm
theorem jdW (m : Nat) (e : TypeId) (w : World) : OwnL (w.alloc (Obj.cells #[] e)) (FR.rows m ⟨e, some ⟨w.heap.size, 0, none⟩, 0, 0, []⟩) := 
 ⟨fun r hr => by rw [List.mem_singleton.1 hr]; exact ⟨by simp [vals], .inr ⟨w.heap.size, 0, #[], rfl, Nat.zero_le _, by unfold World.alloc; exact Array.getElem?_push_size, Nat.le_refl _, Nat.zero_le _, by simp [vals]⟩⟩, List.pairwise_singleton _ _⟩
theorem jbb {m : Nat} {w0 w : World} {B : Nat} {v : Value} {cs : List Int} {k : Nat} {size : Int} (h : SrcR w0 w B v cs k size) (e : TypeId) : EnS m w0 w B v cs k size ⟨e, some ⟨w.heap.size, 0, none⟩, 0, 0, []⟩ (w.alloc (Obj.cells #[] e)) := by
 have hk : Same w (w.alloc (Obj.cells #[] e)) := kZ0.alloc _;refine ⟨jdW m e w, fun b hb => ?_, h.same hk, (Kept.refl (fun b => b = B) w).next hk (fun _ _ e => e.elim)⟩;have := h.lt;rw [own_one b hb];omega
theorem jeg {w0 w : World} {B : Nat} {v : Value} {cs : List Int} {k : Nat} {size : Int} (h : SrcR w0 w B v cs k size) (hk : k ≤ 1073000000) :
  Calls Tryz.prog 86 #[Q2 B 0] w fun e w' => EnR 4 79 w0 w w' e B v cs k size := by
 have HE := hid (jbb (m := 4) h 79);have eT := h.lt;have gU := h.kept.size
 have hN : (w.alloc (Obj.cells #[] 79)).heap.size = w.heap.size + 1 := by simp
 clear h
 go_enter Tryz.func86, Tryz.ntmps86
 go_upto_region 2 with fail
 generalize w.alloc (Obj.cells #[] 79) = w1 at HE hN ⊢;obtain ⟨N, tH⟩ : ∃ N, w.heap.size = N := ⟨_, rfl⟩;have AE := hid tH;rw [tH] at hN eT gU HE ⊢;clear tH hN
 go_wp2_with fail
 refine (Pd 5 HE.out.src (by omega) (by constructor <;> decide)).mono ?_;rintro e w2 ⟨i0, rfl, hd, aT, aQ⟩;obtain ⟨Gj, NT⟩ := hd.2 (by decide);replace HE := hid (HE.out.draw aT aQ);clear hd aT aQ;obtain ⟨i0, rfl⟩ : ∃ m : Nat, i0 = (m : Int) := ⟨i0.toNat, by omega⟩
 go_wp2_with fail
 go_loopw [3, 4, 5] (fun o z i wr => ∃ (a : Option Addr) (n c j : Nat) (x : Int), o = .slice a n c ∧ z = Q1 x ∧ i = Q1 (j : Int) ∧ j ≤ 4 ∧ n + j ≤ 4 ∧ 0 ≤ x ∧ x + 4 * (j : Int) ≤ 100 ∧ Hid (∃ (bs : List Int) (k' : Nat), k' + 8 * j ≤ k + 33 ∧ EnS 4 w0 w B v cs k' size ⟨79, a, n, c, bs⟩ wr)) (fun _ _ i _ => (intOf i).toNat)
 case atStart => exact ⟨_, 0, 0, i0, 0, rfl, rfl, rfl, by omega, by omega, by omega, by omega, [], _, by omega, HE.out⟩
 case round =>
 obtain ⟨a, n, c, j, x, rfl, rfl, rfl, NY, Lh, dR, lR, HX⟩ := hrel;clear HE;obtain ⟨bs, k', aQ, HE⟩ := HX.out;have HE := hid HE;clear HX
 by_cases hj : 0 < j
 case neg =>
  have AQ : ¬ (0 : Int) < (j : Int) := by omega
  go_wp2;go_ret;exact ⟨⟨79, a, n, c, bs⟩, k', rfl, rfl, by show n ≤ 6; omega, by omega, HE.out⟩
 have AQ : (0 : Int) < (j : Int) := by omega
 go_wp2_with fail
 refine (Pd 4 HE.out.src (by omega) (by constructor <;> decide)).mono ?_;rintro e w3 ⟨z1, rfl, hd, aT, ai⟩;obtain ⟨i7, iT⟩ := hd.2 (by decide);replace HE := hid (HE.out.draw aT ai);clear hd aT ai
 go_wp2_with fail
 refine (Pd 3 HE.out.src (by omega) (by constructor <;> decide)).mono ?_;rintro e w4 ⟨z2, rfl, hd, aT, ai⟩;obtain ⟨lF, lJ⟩ := hd.2 (by decide);replace HE := hid (HE.out.draw aT ai);clear hd aT ai
 go_wp2_with fail
 refine (TS HE.out.src (by omega)).mono ?_;rintro e w5 ⟨z3, rfl, oQ, oY, aT, ai⟩;replace HE := hid (HE.out.draw aT ai);clear aT ai;obtain ⟨y1, dM⟩ : ∃ y, x + 1 + z1 = y := ⟨_, rfl⟩;obtain ⟨y2, mh⟩ : ∃ y, 1 + z2 = y := ⟨_, rfl⟩;have eK := hid (Blk.newL w5 [Q1 y1, Q1 y2, Q1 z3, Q1 0] 79);have dk : Same w5 (w5.alloc (.cells #[Q1 y1, Q1 y2, Q1 z3, Q1 0] 79)) := kZ0.alloc _
 have Hb : N ≤ w5.heap.size := by have := HE.out.kept.size; have := AE.out; omega
 have oE := (show Hid (∀ b, (Value.slice a n c).ownBlock = some b → b < w5.heap.size) from fun b hb => HE.out.own.lt b ((PL 4 ⟨79, a, n, c, bs⟩ b).2 hb));replace HE := hid (HE.out.same dk);clear dk;rw [dM, mh]
 go_upto_region 8 with fail
 obtain ⟨Y, hY⟩ : ∃ Y, w5.heap.size = Y := ⟨_, rfl⟩;rw [hY] at eK Hb oE ⊢;clear hY;dsimp only [List.toArray] at eK;generalize w5.alloc (.cells #[Q1 y1, Q1 y2, Q1 z3, Q1 0] 79) = w6 at HE eK ⊢;have c2 : w6.cell? ⟨Y, 2, none⟩ = some (Q1 z3) := eK.out.cell 2
 have dH : ¬ Y = B := by omega
 go_wp2_with fail
 refine (Pd (z3 + 1) HE.out.src (by omega) (by constructor <;> omega)).mono ?_;rintro e w7 ⟨z4, rfl, hd, aT, ai⟩;replace HE := hid (HE.out.draw aT ai);replace eK := hid (eK.out.kept ai dH);clear hd aT ai c2;have c3 : w7.cell? ⟨Y, 3, none⟩ = some (Q1 0) := eK.out.cell 3;have fY := eK.out.frozen
 go_upto_region 9 with fail
 have aX : Kept (fun b => b = Y) w7 (w7.setCell ⟨Y, 3, none⟩ (Q1 z4)) := Kept.setCell (R := fun b => b = Y) kZ0 (p := ⟨Y, 3, none⟩) (.inr rfl) _;replace eK := hid (eK.out.stored 3 (Q1 z4));have Md := AE.out;replace HE := hid (HE.out.put aX (fun b hb e => by have := oE.out b hb; omega) dH (by omega) (by omega));clear aX c3 fY;generalize w7.setCell ⟨Y, 3, none⟩ (Q1 z4) = w8 at HE eK ⊢;obtain ⟨q0, q1, q2, q3⟩ : w8.cell? ⟨Y, 0, none⟩ = some (Q1 y1) ∧ w8.cell? ⟨Y, 1, none⟩ = some (Q1 y2) ∧ w8.cell? ⟨Y, 2, none⟩ = some (Q1 z3) ∧ w8.cell? ⟨Y, 3, none⟩ = some (Q1 z4) := ⟨eK.out.cell 0, eK.out.cell 1, eK.out.cell 2, eK.out.cell 3⟩
 go_wp2_with (at_builtin; go_loud (refine Ue (tb := bs) rfl (.tmp 32) (.tmp 34) rfl rfl rfl (Blk.newL w8 [Q1 y1, Q1 y2, Q1 z3, Q1 z4] 79) ((HE.out.same (kZ0.alloc _)).own) (by omega) ?_); intro g c9 w9 ho hg fH; replace HE := hid ((HE.out.same (kZ0.alloc _)).app (y := ⟨79, some ⟨g, 0, none⟩, n + 1, c9, _⟩) (by omega) (by omega) (ZY ho) own_one hg fH); clear ho hg fH)
 clear q0 q1 q2 q3 eK oE;go_roundw
 case rel => exact ⟨_, n + 1, c9, j - 1, y1, rfl, rfl, by go_num, by omega, by omega, by omega, by omega, _, _, by omega, HE.out⟩
 case measure => simp [intOf]; omega
theorem jcZ {w0 w : World} {B : Nat} {v : Value} {cs : List Int} {k : Nat} {size : Int} (h : SrcR w0 w B v cs k size) (hk : k ≤ 1073000000) :
  Calls Tryz.prog 87 #[Q2 B 0] w fun e w' => EnR 2 81 w0 w w' e B v cs k size := by
 have HE := hid (jbb (m := 2) h 81);have eT := h.lt;have gU := h.kept.size;clear h
 go_enter Tryz.func87, Tryz.ntmps87
 go_upto_region 2 with fail
 generalize w.alloc (Obj.cells #[] 81) = w1 at HE ⊢;obtain ⟨N, tH⟩ : ∃ N, w.heap.size = N := ⟨_, rfl⟩;have AE := hid tH;rw [tH] at eT gU HE ⊢;clear tH
 go_wp2_with fail
 go_loopw [3, 4] (fun o i wr => ∃ (a : Option Addr) (n c j : Nat), o = .slice a n c ∧ i = Q1 (j : Int) ∧ j ≤ 6 ∧ n ≤ j ∧ Hid (∃ (bs : List Int) (k' : Nat), k' ≤ k + 4 * j ∧ EnS 2 w0 w B v cs k' size ⟨81, a, n, c, bs⟩ wr)) (fun _ i _ => 6 - (intOf i).toNat)
 case atStart => exact ⟨_, 0, 0, 0, rfl, rfl, by omega, by omega, [], _, by omega, HE.out⟩
 case round =>
 obtain ⟨a, n, c, j, rfl, rfl, Ni, Lh, HX⟩ := hrel;clear HE;obtain ⟨bs, k', aQ, HE⟩ := HX.out;have HE := hid HE;clear HX
 by_cases hj : j < 6
 case neg =>
  have AQ : ¬ (j : Int) < 6 := by omega
  go_wp2;go_ret;exact ⟨⟨81, a, n, c, bs⟩, k', rfl, rfl, by show n ≤ 6; omega, by omega, HE.out⟩
 have AQ : (j : Int) < 6 := by omega
 have Md := AE.out
 go_wp2_with fail
 refine (SA 3 HE.out.src (by omega) (by constructor <;> decide)).mono ?_;rintro e w3 ⟨b, rfl, aT, ai⟩;replace HE := hid (HE.out.draw aT ai);clear aT ai
 cases b
 case false =>
  go_wp2_with fail
  go_roundw
  case rel => exact ⟨a, n, c, j + 1, rfl, by go_num, by omega, by omega, _, _, by omega, HE.out⟩
  case measure => simp [intOf]; omega
 go_wp2_with fail
 refine (TS HE.out.src (by omega)).mono ?_;rintro e w5 ⟨z3, rfl, oQ, oY, aT, ai⟩;replace HE := hid (HE.out.draw aT ai);clear aT ai
 go_wp2_with (at_builtin; go_loud (refine VL (tb := bs) rfl (.tmp 12) (.tmp 17) rfl rfl rfl (Blk.newL w5 [Q1 (j : Int), Q1 z3] 81) ((HE.out.same (kZ0.alloc _)).own) (by omega) ?_); intro g c9 w9 ho hg fH; replace HE := hid ((HE.out.same (kZ0.alloc _)).app (y := ⟨81, some ⟨g, 0, none⟩, n + 1, c9, _⟩) (by omega) (by omega) (Z0 ho) own_one hg fH); clear ho hg fH)
 go_roundw
 case rel => exact ⟨_, n + 1, c9, j + 1, rfl, by go_num, by omega, by omega, _, _, by omega, HE.out⟩
 case measure => simp [intOf]; omega
/-! ### Stretches that don't share bytes have room -/
theorem Z5 {α : Type} (p q : α → Bool) : ∀ (l : List α), (∀ x ∈ l, ¬ (p x = true ∧ q x = true)) → l.countP (fun x => p x || q x) = l.countP p + l.countP q
 | [], _ => rfl
 | x :: l, h => by
  have ih := Z5 p q l (fun y hy => h y (List.mem_cons_of_mem _ hy));have hx := h x (List.mem_cons_self ..);rw [List.countP_cons, List.countP_cons, List.countP_cons, ih]
  cases hp : p x <;> cases hq : q x <;> simp_all <;> omega
theorem Vw (a b : Nat) (qH : a ≤ b) : ∀ n, (List.range n).countP (fun x => decide (a ≤ x) && decide (x < b)) = min n b - min n a
 | 0 => by simp
 | n + 1 => by
  rw [List.range_succ, List.countP_append, Vw a b qH n]
  by_cases h1 : a ≤ n <;> by_cases h2 : n < b <;> simp [h1, h2] <;> omega
def UA (sl : List Int) (i x : Nat) : Bool := decide ((sl.getD (2 * i) 0).toNat ≤ x) && decide (x < (sl.getD (2 * i) 0 + sl.getD (2 * i + 1) 0).toNat)
def Tq (sl : List Int) : Nat → Nat → Bool
 | 0, _ => false
 | k + 1, x => Tq sl k x || UA sl k x
theorem Vx (sl : List Int) : ∀ (k x : Nat), Tq sl k x = true ↔ ∃ i, i < k ∧ UA sl i x = true
 | 0, x => by simp [Tq]
 | k + 1, x => by
  simp only [Tq, Bool.or_eq_true, Vx sl k x];constructor
  ·rintro (⟨i, hi, h⟩ | h)
   ·exact ⟨i, by omega, h⟩
   ·exact ⟨k, by omega, h⟩
  ·rintro ⟨i, hi, h⟩
   by_cases e : i < k
   ·exact .inl ⟨i, e, h⟩
   ·obtain rfl : i = k := by omega
    exact .inr h
structure SlOK (sl : List Int) : Prop where
 one : ∀ k, k < 32 → (sl.getD (2 * k) 0 = 0 ∧ sl.getD (2 * k + 1) 0 = 0) ∨ (148 ≤ sl.getD (2 * k) 0 ∧ 0 ≤ sl.getD (2 * k + 1) 0 ∧ sl.getD (2 * k + 1) 0 ≤ 1000 ∧ sl.getD (2 * k) 0 + sl.getD (2 * k + 1) 0 ≤ 4096)
 two : ∀ i j, i < 32 → j < i → ¬ (max (sl.getD (2 * i) 0) (sl.getD (2 * j) 0) < min (sl.getD (2 * i) 0 + sl.getD (2 * i + 1) 0) (sl.getD (2 * j) 0 + sl.getD (2 * j + 1) 0))
theorem SlOK.count {sl : List Int} (h : SlOK sl) : ∀ k, k ≤ 32 → (((List.range 4096).countP (Tq sl k) : Nat) : Int) = PS sl k
 | 0, _ => by
  have : (List.range 4096).countP (Tq sl 0) = 0 := List.countP_eq_zero.2 (fun x _ => by simp [Tq]);rw [this]; rfl
 | k + 1, hk => by
  have hd : ∀ x ∈ List.range 4096, ¬ (Tq sl k x = true ∧ UA sl k x = true) := by
   rintro x _ ⟨h1, h2⟩;obtain ⟨i, hi, h1⟩ := (Vx sl k x).1 h1;have h3 := h.two k i (by omega) hi;simp only [UA, Bool.and_eq_true, decide_eq_true_eq] at h1 h2;have h4 := h.one k (by omega);have h5 := h.one i (by omega);omega
  have e : (fun x => Tq sl (k + 1) x) = fun x => Tq sl k x || UA sl k x := rfl;have hc := Z5 (Tq sl k) (UA sl k) (List.range 4096) hd
  have hr : (((List.range 4096).countP (UA sl k) : Nat) : Int) = sl.getD (2 * k + 1) 0 := by
   have h4 := h.one k (by omega);have hm := Vw (sl.getD (2 * k) 0).toNat (sl.getD (2 * k) 0 + sl.getD (2 * k + 1) 0).toNat (by omega) 4096;have : (List.range 4096).countP (UA sl k) = min 4096 (sl.getD (2 * k) 0 + sl.getD (2 * k + 1) 0).toNat - min 4096 (sl.getD (2 * k) 0).toNat := hm;rw [this];omega
  have ih := SlOK.count h k (by omega)
  show (((List.range 4096).countP (fun x => Tq sl k x || UA sl k x) : Nat) : Int) = PS sl k + sl.getD (2 * k + 1) 0
  rw [hc];omega
theorem SlOK.room {sl : List Int} (h : SlOK sl) (k : Nat) (hk : k ≤ 32) : 0 ≤ PS sl k ∧ PS sl k ≤ 3948 := by
 have h1 := h.count k hk
 have h2 : (List.range 4096).countP (Tq sl k) ≤ (List.range 4096).countP (fun x => decide (148 ≤ x) && decide (x < 4096)) := by
  refine List.countP_mono_left (fun x hx hp => ?_);obtain ⟨i, hi, h3⟩ := (Vx sl k x).1 hp;have h4 := h.one i (by omega);simp only [UA, Bool.and_eq_true, decide_eq_true_eq] at h3 ⊢;omega
 rw [Vw 148 4096 (by omega) 4096] at h2;omega
theorem TH {raw : List Int} (hB : IsB raw) (h : PK raw = true) : SlOK (slotsOf raw) := by
 have hp := Rx h;have hl := Qx h;have hs := Qv raw hB hl;refine ⟨fun k hk => ?_, fun i j hi hj zN => ?_⟩
 ·have h1 := WR h k hk
  have h2 := hs.at (2 * k);have h3 := hs.at (2 * k + 1)
  rcases h1 with h1 | h1
  ·exact .inl h1
  ·exact .inr ⟨by omega, by omega, by omega, by omega⟩
 ·have h1 := hp.2.2.2
  unfold share at h1;rw [List.any_eq_false] at h1;have h2 := h1 i (List.mem_range.2 hi);rw [Bool.not_eq_true, List.any_eq_false] at h2;have h3 := h2 j (List.mem_range.2 hj);apply h3;unfold Rc Rt
  simpa using zN
/-! ### Compacted -/
def PX (xs : List Int) (o : Nat) (ys : List Int) : List Int := xs.take o ++ (ys ++ xs.drop (o + ys.length))
theorem Pk (xs : List Int) (o : Nat) (ys : List Int) (h : o + ys.length ≤ xs.length) : (PX xs o ys).length = xs.length := by simp [PX]; omega
theorem jc0 (k : IntKind) (xs ys : List Int) (o : Nat) : lay (vals k xs) o (vals k ys) = vals k (PX xs o ys) := by
 unfold lay PX;simp [vals]
def QC (sl : List Int) (k : Nat) : Int := 4096 - PS sl k
def cSl (sl : List Int) : Nat → List Int
 | 0 => sl
 | k + 1 => if sl.getD (2 * k) 0 = 0 then cSl sl k else (cSl sl k).set (2 * k) (QC sl (k + 1))
def Qf (raw sl : List Int) : Nat → List Int
 | 0 => List.replicate 4096 0
 | k + 1 => if sl.getD (2 * k) 0 = 0 then Qf raw sl k else PX (Qf raw sl k) (QC sl (k + 1)).toNat (stretch raw (sl.getD (2 * k) 0) (sl.getD (2 * k + 1) 0))
theorem Qa (sl : List Int) : ∀ k, (cSl sl k).length = sl.length
 | 0 => rfl
 | k + 1 => by
  rw [cSl]
  split
  ·exact Qa sl k
  ·rw [List.length_set, Qa sl k]
theorem jaO (sl : List Int) : ∀ (k j : Nat), 2 * k ≤ j → (cSl sl k).getD j 0 = sl.getD j 0
 | 0, _, _ => rfl
 | k + 1, j, h => by
  rw [cSl]
  split
  ·exact jaO sl k j (by omega)
  ·rw [List.getD_eq_getElem?_getD, List.getElem?_set_ne (by omega), ← List.getD_eq_getElem?_getD]
   exact jaO sl k j (by omega)
theorem SlOK.bot {sl : List Int} (h : SlOK sl) (k : Nat) (hk : k ≤ 32) : 148 ≤ QC sl k ∧ QC sl k ≤ 4096 := by
 have := h.room k hk;unfold QC;omega
theorem RA (sl : List Int) (k : Nat) : QC sl (k + 1) = QC sl k - sl.getD (2 * k + 1) 0 := by
 unfold QC;rw [show PS sl (k + 1) = PS sl k + sl.getD (2 * k + 1) 0 from rfl];omega
theorem SlOK.body {sl : List Int} (h : SlOK sl) (raw : List Int) (hl : raw.length = 4096) : ∀ k, k ≤ 32 → (Qf raw sl k).length = 4096
 | 0, _ => by rw [Qf, List.length_replicate]
 | k + 1, hk => by
  rw [Qf];have ih := SlOK.body h raw hl k (by omega)
  split
  ·exact ih
  ·have h1 := h.one k (by omega)
   have h2 := h.bot k (by omega);have h3 := h.bot (k + 1) hk;have h4 := RA sl k;rw [Pk, ih];rw [RG raw _ _ hl (by omega) (by omega) (by omega), ih];omega
def Uf (raw : List Int) : List Int := Py (raw.take 4) (O4 raw 4 8) (O4 raw 12 4) (QC (slotsOf raw) 32) (cSl (slotsOf raw) 32) (Qf raw (slotsOf raw) 32)
def Qg (raw : List Int) : List Int := if PK raw = true then Uf raw else []
theorem YW {raw : List Int} (hB : IsB raw) (h : PK raw = true) : (Uf raw).length = 4096 := by
 have hl := Qx h;exact Qu (by rw [List.length_take, hl]; rfl) (by rw [Qa, Pb]) ((TH hB h).body raw hl 32 (Nat.le_refl _))
def behind (g cap o : Nat) : Option Addr := if cap = o then some ⟨g, 0, none⟩ else some ⟨g, o, none⟩
theorem Own.laid {base : Nat} {e : TypeId} {w : World} {g n cap : Nat} {xs : List Int} (h : Own base e .u8 w (Q3 g n cap) xs) (hn : n = xs.length) (o : Nat) (ys : List Int) (ho : o + ys.length ≤ n) :
  Own base e .u8 (w.setCells g o (vals .u8 ys)) (Q3 g n cap) (PX xs o ys) := by
 subst hn;have h1 := Uz (size := 1) (vals .u8 ys) o h (by rw [O1, O1]; exact ho);rw [jc0] at h1;unfold Own;rw [Pk _ _ _ ho];exact h1
theorem Own.caps {base : Nat} {e : TypeId} {k : IntKind} {w : World} {a : Option Addr} {n cap : Nat} {xs : List Int} (h : Own base e k w (.slice a n cap) xs) : n = xs.length ∧ n ≤ cap := by
 rcases h.form with ⟨h, h'⟩ | ⟨g', vI, h, _, _, hc, _⟩
 ·simp only [Value.slice.injEq] at h
  rw [h'];exact ⟨h.2.1, by omega⟩
 ·simp only [Value.slice.injEq] at h
  exact ⟨h.2.1, by omega⟩
theorem Ql {P : Program} {T tb : TypeId} {w : World} {base : Nat} {e : TypeId} {g n cap : Nat} {xs ys : List Int} {sv : Value} (ty : TypeId) (hu : P.underlying T = some (.slice tb)) (fQ : (P.info? tb).map (·.size) = some 1)
  (ag : Own base e .u8 w (Q3 g n cap) xs) (hn : n = xs.length) (o : Nat) (ho : o + ys.length ≤ n) (hs : Rd .u8 w sv ys) :
  (Builtin.copy_ #[T, T] ty #[.slice (behind g cap o) (n - o) (cap - o), sv]).run P w = .ok (goInt ys.length) (w.setCells g o (vals .u8 ys)) := by
 have nE : n ≤ cap := by
  rcases ag.form with ⟨h, _⟩ | ⟨g', vI, h, _, _, hc, _⟩
  ·cases h
  ·cases h; omega
 rcases hs.2 with ⟨rfl, a, c, rfl, _⟩ | ⟨b, off, c, rfl, _, hc⟩
 ·have h := run_copy_none (P := P) w T T ty tb (behind g cap o) a (n - o) (cap - o) 0 c hu fQ (by simp)
  rw [h];rfl
 ·by_cases h0 : ys.length = 0
  ·obtain rfl : ys = [] := List.length_eq_zero_iff.1 h0
   have h := run_copy_none (P := P) w T T ty tb (behind g cap o) (some ⟨b, off, none⟩) (n - o) (cap - o) 0 c hu fQ (by simp);simp only [List.length_nil] at h ⊢;rw [h];rfl
  ·have e : behind g cap o = some ⟨g, o, none⟩ := if_neg (by omega)
   rw [e];have h := run_copy_cells (P := P) w T T ty tb g o (n - o) (cap - o) ⟨b, off, none⟩ ys.length c (vals .u8 ys) hu fQ (by rw [O1]; exact (Nat.min_eq_left (by omega)).symm) (UR hc) (fun j hj => by rw [O1] at hj; rw [ag.cell hn (o + j) (by omega)]; rfl) (fun j _ => ag.frozen hn _) Qy;rw [O1] at h;exact h
theorem RV (A B d : List Int) (o : Nat) : PX (A ++ B) (A.length + o) d = A ++ PX B o d := by
 unfold PX;rw [List.take_append, List.take_of_length_le (by omega), Nat.add_sub_cancel_left, List.append_assoc, List.drop_append, List.drop_of_length_le (by omega), List.nil_append, show A.length + o + d.length - A.length = o + d.length from by omega]
theorem RX (A B d : List Int) (o : Nat) (h : o + d.length ≤ A.length) : PX (A ++ B) o d = PX A o d ++ B := by
 unfold PX;rw [List.take_append_of_le_length (by omega), List.drop_append_of_le_length (by omega), List.append_assoc, List.append_assoc]
theorem Z6 (A d : List Int) (h : d.length = A.length) : PX A 0 d = d := by
 unfold PX;simp [h]
theorem jbW (A d : List Int) (o m : Nat) (h : m ≤ o) (hl : o + d.length ≤ A.length) : (PX A o d).drop m = PX (A.drop m) (o - m) d := by
 unfold PX;rw [List.drop_append_of_le_length (by rw [List.length_take]; omega), List.drop_take, List.drop_drop]
 congr 3
 omega
theorem QE (sum : List Int) (lsn num bot : Int) (sl raw : List Int) (h1 : sum.length = 4) (h2 : sl.length = 64) : Py sum lsn num bot sl raw = Rn sum lsn num bot ++ (slotB sl ++ raw.drop 148) := by
 unfold Py cont;rw [List.length_append, P6 _ _ _ _ h1, P7, h2, List.append_assoc]
theorem Ym {sum : List Int} {lsn num bot : Int} {sl raw : List Int} (h1 : sum.length = 4) (h2 : sl.length = 64) (h3 : raw.length = 4096) (b : Nat) (d : List Int) (hb : 148 ≤ b) (hd : b + d.length ≤ 4096) :
  PX (Py sum lsn num bot sl raw) b d = Py sum lsn num bot sl (PX raw b d) := by
 rw [QE _ _ _ _ _ _ h1 h2, QE _ _ _ _ _ _ h1 h2, jbW raw d b 148 hb (by omega)]
 have e1 : b = (Rn sum lsn num bot).length + ((slotB sl).length + (b - 148)) := by rw [P6 _ _ _ _ h1, P7, h2]; omega
 conv => lhs; rw [e1]
 rw [RV, RV]
theorem TI (a b : List Int) : slotB (a ++ b) = slotB a ++ slotB b := by simp [slotB]
theorem jbX (sl : List Int) (j : Nat) (x : Int) (h : j < sl.length) : PX (slotB sl) (2 * j) (O5 x 2) = slotB (sl.set j x) := by
 have e : sl = sl.take j ++ (sl[j] :: sl.drop (j + 1)) := by rw [← List.drop_eq_getElem_cons h, List.take_append_drop]
 have e2 : sl.set j x = sl.take j ++ (x :: sl.drop (j + 1)) := List.set_eq_take_append_cons_drop.trans (if_pos h);rw [e2]
 conv => lhs; rw [e]
 rw [TI, TI]
 have hl : (slotB (sl.take j)).length = 2 * j := by rw [P7, List.length_take]; omega
 rw [← hl, ← Nat.add_zero (slotB (sl.take j)).length, RV];rfl
theorem Uo {sum : List Int} {lsn num bot : Int} {sl raw : List Int} (h1 : sum.length = 4) (h2 : sl.length = 64) (j : Nat) (x : Int) (hj : j < 64) :
  PX (Py sum lsn num bot sl raw) (20 + 2 * j) (O5 x 2) = Py sum lsn num bot (sl.set j x) raw := by
 rw [QE _ _ _ _ _ _ h1 h2, QE _ _ _ _ _ _ h1 (by rw [List.length_set]; exact h2)]
 have e1 : 20 + 2 * j = (Rn sum lsn num bot).length + 2 * j := by rw [P6 _ _ _ _ h1]
 rw [e1, RV, RX _ _ _ _ (by rw [P7, OY, h2]; omega), jbX _ _ _ (by omega)]
theorem Z7 {sum : List Int} {lsn num bot : Int} {sl raw : List Int} (h1 : sum.length = 4) (h2 : sl.length = 64) (x : Int) :
  PX (Py sum lsn num bot sl raw) 16 (O5 x 2) = Py sum lsn num x sl raw := by
 rw [QE _ _ _ _ _ _ h1 h2, QE _ _ _ _ _ _ h1 h2];rw [RX _ _ _ _ (by rw [P6 _ _ _ _ h1]; simp [OY])]
 congr 1
 unfold Rn;rw [RX _ _ _ _ (by simp [OY, h1])]
 congr 1
 have e : 16 = (sum ++ O5 lsn 8 ++ O5 num 4).length + 0 := by simp [OY, h1]
 conv => lhs; rw [e]
 rw [RV, Z6 _ _ (by simp [OY])]
theorem jc1 {sum : List Int} {lsn num bot : Int} {sl raw : List Int} (h1 : sum.length = 4) (h2 : sl.length = 64) (x : Int) :
  PX (Py sum lsn num bot sl raw) 4 (O5 x 8) = Py sum x num bot sl raw := by
 rw [QE _ _ _ _ _ _ h1 h2, QE _ _ _ _ _ _ h1 h2];rw [RX _ _ _ _ (by rw [P6 _ _ _ _ h1]; simp [OY])]
 congr 1
 unfold Rn;rw [RX _ _ _ _ (by simp [OY, h1]), RX _ _ _ _ (by simp [OY, h1]), RX _ _ _ _ (by simp [OY, h1])]
 congr 3
 have e : 4 = sum.length + 0 := by omega
 conv => lhs; rw [e]
 rw [RV, Z6 _ _ (by simp [OY])]
theorem V6 {raw : List Int} (h : PK raw = true) : Py (raw.take 4) (O4 raw 4 8) (O4 raw 12 4) (O4 raw 16 2) (slotsOf raw) raw = raw ∧ QM (O4 raw 4 8) = true := by
 have hl := Qx h;unfold PK Pm RD at h;simp only [hl, ne_eq, not_true_eq_false, if_false] at h;simp only [beq_self_eq_true, Bool.true_and] at h
 by_cases h2 : QY (raw.take 4) (O4 raw 4 8) (O4 raw 12 4) (O4 raw 16 2) (slotsOf raw) raw = true
 ·simp [h2] at h
 unfold QY at h2;simp at h2;exact ⟨h2.2, h2.1⟩
theorem TJ (w : World) : OwnL w (StPageRecord.rows ⟨false, ⟨0, none, 0, []⟩⟩) := OwnL.one (Own.nil 0 0 .u8 w)
theorem SQ (b : Nat) : ¬ O6 (StPageRecord.rows ⟨false, ⟨0, none, 0, []⟩⟩) b := fun h => by have := (Pv _ _ _ _ _).1 h; simp [BS.v, Value.ownBlock] at this
theorem VW (v : Value) (raw : List Int) (s : Int) (w : World) (hB : IsB raw) (hn : raw.length ≤ 1099511627776) (hv : Rd .u8 w v raw) :
  Calls Tryz.prog 110 #[v, Q1 s] w fun e w' => ∃ y : StPageRecord, e = .returned y.val ∧ y.dat = QD raw s ∧ (∀ b, O6 y.rows b → w.heap.size ≤ b) ∧ OwnL w' y.rows ∧ Same w w' := by
 have b0 := Blk.new w #[.bool false, Q4] 24;have jK := hv.same ((Kept.refl _ w).alloc (.cells #[.bool false, Q4] 24));have h := Uk v raw _ hB hn jK
 by_cases uD : PK raw = false ∨ s < 0 ∨ 32 ≤ s
 ·rw [Sq (uD.elim .inl (fun h => h.elim (fun h => .inr (.inl h)) (fun h => .inr (.inr (.inl h)))))]
  have hz : ∀ w1, Same (w.alloc (.cells #[.bool false, Q4] 24)) w1 → w1.cell? ⟨w.heap.size, 0, none⟩ = some (.bool false) ∧ w1.cell? ⟨w.heap.size, 1, none⟩ = some (Q4) ∧ w1.frozen? ⟨w.heap.size, 0, none⟩ = false ∧ w1.frozen? ⟨w.heap.size, 1, none⟩ = false := fun w1 hk => ⟨(b0.same hk).cell 0, (b0.same hk).cell 1, (b0.same hk).frozen 0, (b0.same hk).frozen 1⟩;have cP : ∀ w1, Same (w.alloc (.cells #[.bool false, Q4] 24)) w1 → Same w ((w1.setCell ⟨w.heap.size, 0, none⟩ (.bool false)).setCell ⟨w.heap.size, 1, none⟩ (Q4)) := fun w1 hk => ((((Kept.refl _ w).alloc _).trans hk).setCell (p := ⟨w.heap.size, 0, none⟩) (.inl (Nat.le_refl _)) (.bool false)).setCell (p := ⟨w.heap.size, 1, none⟩) (.inl (Nat.le_refl _)) (Q4);clear b0 jK hv hB
  cases bj : PK raw with
  | false =>
   rw [bj] at h
   go_enter Tryz.func110, Tryz.ntmps110
   go_wp2_with (go_at_call 107; refine h.mono ?_; rintro e w1 ⟨rfl, hk⟩; obtain ⟨c0, c1, f0, f1⟩ := hz w1 hk)
   refine bodyPost_ret (v := .agg #[.bool false, Q4]) (by simp [results, Tryz.results110, go_sem, c0, c1]) rfl ⟨⟨false, ⟨0, none, 0, []⟩⟩, rfl, rfl, fun b hb => absurd hb (SQ b), TJ _, cP w1 hk⟩
  | true =>
   rw [bj] at h
   by_cases h1 : s < 0
   ·go_enter Tryz.func110, Tryz.ntmps110
    go_wp2_with (go_at_call 107; refine h.mono ?_; rintro e w1 ⟨rfl, hk⟩; obtain ⟨c0, c1, f0, f1⟩ := hz w1 hk)
    refine bodyPost_ret (v := .agg #[.bool false, Q4]) (by simp [results, Tryz.results110, go_sem, c0, c1]) rfl ⟨⟨false, ⟨0, none, 0, []⟩⟩, rfl, rfl, fun b hb => absurd hb (SQ b), TJ _, cP w1 hk⟩
   ·have h2 : 32 ≤ s := uD.elim (fun h => by rw [bj] at h; cases h) (fun h => by omega)
    go_enter Tryz.func110, Tryz.ntmps110
    go_wp2_with (go_at_call 107; refine h.mono ?_; rintro e w1 ⟨rfl, hk⟩; obtain ⟨c0, c1, f0, f1⟩ := hz w1 hk)
    refine bodyPost_ret (v := .agg #[.bool false, Q4]) (by simp [results, Tryz.results110, go_sem, c0, c1]) rfl ⟨⟨false, ⟨0, none, 0, []⟩⟩, rfl, rfl, fun b hb => absurd hb (SQ b), TJ _, cP w1 hk⟩
 ·have bj : PK raw = true := by cases h : PK raw with | true => rfl | false => exact absurd (.inl h) uD
  obtain ⟨k, rfl⟩ : ∃ k : Nat, s = k := ⟨s.toNat, by omega⟩
  have eJ : k < 32 := by omega
  have hl := Qx bj;obtain ⟨a, c, rfl⟩ := hv.form;obtain ⟨b, off, rfl, hc⟩ := rd_some hv (by omega);rw [bj] at h;have iF := Pb raw
  have hS := fun wx (h : Same w wx) => SK b off c raw wx hB hl (by rw [← hl]; exact hv.same h)
  have cw := WR bj k eJ;have nZ := Qv raw hB hl;have hx := nZ.at (2 * k);have hy := nZ.at (2 * k + 1);rw [hl] at h ⊢
  have AA : 4096 ≤ c := by
   rcases hv.2 with ⟨h, _⟩ | ⟨_, _, _, he, ji, _⟩
   ·rw [h] at hl; cases hl
   ·injection he with _ _ h3; omega
  have KH : ¬ (k : Int) < 0 := by omega
  have NP : ¬ (32 : Int) ≤ k := by omega
  obtain ⟨x, pw⟩ : ∃ x : Nat, (slotsOf raw).getD (2 * k) 0 = x := ⟨((slotsOf raw).getD (2 * k) 0).toNat, by omega⟩;obtain ⟨y, pq⟩ : ∃ y : Nat, (slotsOf raw).getD (2 * k + 1) 0 = y := ⟨((slotsOf raw).getD (2 * k + 1) 0).toNat, by omega⟩;have HQ : Hid (∀ (wx : World) g, Rows2 wx g (slotsOf raw) → D0 wx g (k * 2) (Q1 x) ∧ D0 wx g (k * 2 + 1) (Q1 y)) := fun wx g h => ⟨by show _ = _; rw [h.at0 k eJ, pw], by show _ = _; rw [h.at1 k eJ, pq]⟩
  by_cases h0 : (slotsOf raw).getD (2 * k) 0 = 0
  ·rw [Sq (raw := raw) (s := k) (.inr (.inr (.inr h0)))]
   have dR : (x : Int) = 0 := by omega
   clear hv hB jK pw pq hx hy cw h0
   go_enter Tryz.func110, Tryz.ntmps110
   go_wp2_with (first
    | (go_at_call 107; refine h.mono ?_; rintro e w1 ⟨rfl, hk⟩; have b1 := b0.same hk; have oR := hS w1 ((kZ0.alloc _).trans hk))
    | (go_at_call 83; refine oR.mono ?_; rintro e w2 ⟨g, cap, rfl, hg, ag, aj⟩; have b2 := b1.same aj; obtain ⟨q0, q1⟩ := HQ.out w2 g (Ti ag iF); have c0 : w2.cell? ⟨w.heap.size, 0, none⟩ = some (.bool false) := b2.cell 0; have c1 : w2.cell? ⟨w.heap.size, 1, none⟩ = some (Q4) := b2.cell 1; have f0 := b2.frozen 0; have f1 := b2.frozen 1; have bg := b2.lt; clear ag))
   have cS := (((((Kept.refl (fun _ => False) w).alloc _).trans hk).trans aj).setCell (p := ⟨w.heap.size, 0, none⟩) (.inl (Nat.le_refl _)) (.bool false)).setCell (p := ⟨w.heap.size, 1, none⟩) (.inl (Nat.le_refl _)) (Q4);have bF := cS.alloc (.cells #[Q1 0, Q1 (y : Int)] 131);have bz := ((b2.stored 0 (.bool false)).stored 1 (Q4)).alloc (.cells #[Q1 0, Q1 (y : Int)] 131);have d0 := bz.cell 0;have d1 := bz.cell 1;simp only [List.set_cons_zero, List.set_cons_succ, List.getElem?_cons_zero, List.getElem?_cons_succ] at d0 d1;refine bodyPost_ret (v := .agg #[.bool false, Q4]) (by simp [results, Tryz.results110, go_sem, d0, d1]) rfl ⟨⟨false, ⟨0, none, 0, []⟩⟩, rfl, rfl, fun b hb => absurd hb (SQ b), TJ _, bF⟩
  ·rw [SL bj eJ h0]
   have oP : x + y ≤ 4096 := by omega
   have dR : ¬ (x : Int) = 0 := by omega
   rw [pw, pq];have lK : stretch raw x y = (raw.drop x).take y := rfl;rw [lK];have pT := Rd.cut hv x y (by omega)
   have cg : ((raw.drop x).take y).length ≤ 1099511627776 := by simp; omega
   obtain ⟨bs, mI⟩ : ∃ bs, (raw.drop x).take y = bs := ⟨_, rfl⟩;rw [mI] at pT cg ⊢;obtain ⟨A, hA⟩ : ∃ A : Addr, (if c = x then ⟨b, off, none⟩ else ⟨b, off + x, none⟩) = A := ⟨_, rfl⟩;rw [hA] at pT
   have pF : ∀ wx : World, (Instr.slice 22 (.slice (some ⟨b, off, none⟩) 4096 c) (some (Q1 (x : Int))) (some (Q1 ((x : Int) + (y : Int)))) none).run Tryz.prog wx = .ok (.slice (some A) y (c - x)) wx := by
    intro wx;rw [run_slice_lh wx 22 (some ⟨b, off, none⟩) 4096 c (by kernel_rfl) .i64 .i64 x (x + y) (by omega) (by omega) (by omega)]
    have fQ : (sizeOf (Tryz.prog.elem 22)).run Tryz.prog wx = .ok 1 wx := by kernel_rfl
    rw [fQ];simp only [Result.andThen, sliced, Int.toNat_natCast, Nat.mul_one];rw [show ((x : Int) + (y : Int)).toNat - x = y from by omega, ← hA]
    split
    ·rfl
    ·simp [addr_add]
   have jg : Hid (Rd .u8 w (.slice (some A) y (c - x)) bs) := pT;clear hv hB jK pw pq hx hy cw h0 mI lK hA pT
   go_enter Tryz.func110, Tryz.ntmps110
   go_wp2_with (first
    | (go_at_call 107; refine h.mono ?_; rintro e w1 ⟨rfl, hk⟩; have b1 := b0.same hk; have oR := hS w1 ((kZ0.alloc _).trans hk))
    | (go_at_call 83; refine oR.mono ?_; rintro e w2 ⟨g, cap, rfl, hg, ag, aj⟩; have b2 := b1.same aj; obtain ⟨q0, q1⟩ := HQ.out w2 g (Ti ag iF); have bg := b2.lt; have bM := (((Kept.refl (fun _ => False) w).alloc _).trans hk).trans aj; clear ag)
    | (go_at_call 109; refine (TG _ bs _ cg (jg.out.same (bM.alloc _))).mono ?_; rintro e w5 ⟨a5, n5, c5, rfl, ag, pL, bF⟩; have b5 := (b2.alloc _).same bF; have c0 : w5.cell? ⟨w.heap.size, 0, none⟩ = some (.bool false) := b5.cell 0; have c1 : w5.cell? ⟨w.heap.size, 1, none⟩ = some (Q4) := b5.cell 1; have f0 := b5.frozen 0; have f1 := b5.frozen 1))
   obtain rfl : n5 = bs.length := by obtain ⟨_, _, he⟩ := ag.rd.form; injection he
   have pC := b5.lt;have eD := (((bM.alloc _).trans bF).setCell (p := ⟨w.heap.size, 0, none⟩) (.inl (Nat.le_refl _)) (.bool true)).setCell (p := ⟨w.heap.size, 1, none⟩) (.inl (Nat.le_refl _)) (.slice a5 bs.length c5);have tr : Kept (fun b => b = w.heap.size) w5 ((w5.setCell ⟨w.heap.size, 0, none⟩ (.bool true)).setCell ⟨w.heap.size, 1, none⟩ (.slice a5 bs.length c5)) := ((Kept.refl (fun b => b = w.heap.size) w5).setCell (p := ⟨w.heap.size, 0, none⟩) (.inr rfl) _).setCell (p := ⟨w.heap.size, 1, none⟩) (.inr rfl) _;simp only [World.size_alloc] at pL;refine bodyPost_ret (v := .agg #[.bool true, .slice a5 bs.length c5]) (by simp [results, Tryz.results110, go_sem, c0, c1]) rfl ⟨⟨true, ⟨5, a5, c5, bs⟩⟩, rfl, rfl, fun b hb => ?_, OwnL.one (ag.kept tr (fun b hb e => ?_)), eD⟩
   ·have := pL b ((Pv _ _ _ _ _).1 hb); omega
   ·have := pL b hb; omega
theorem Rj : (Tryz.prog.info? 5).map (·.size) = some 1 := by kernel_rfl
end Go.Proofs.YtapdfgkbhaoelaaGreatDoor
