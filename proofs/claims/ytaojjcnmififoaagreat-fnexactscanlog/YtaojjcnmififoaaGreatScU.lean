import Derived.Test.YtaojjcnmififoaaGreatG31
import Derived.Test.YtaojjcnmififoaaGreatG01
import Derived.Test.YtaojjcnmififoaaGreatG09
import Derived.Deep.MidRow
import Derived.Deep.AppendSrc
import Derived.Deep.AppendLies
namespace Go.Proofs.YtaojjcnmififoaaGreat
set_option maxRecDepth 100000
set_option maxHeartbeats 4000000
set_option linter.unusedVariables false
set_option linter.unusedSimpArgs false
open Go Go.RowKit
structure UnB (w : World) (u : List Int) (g off cap : Nat) : Prop where
 le : u.length ≤ cap
 max : cap ≤ maxLen
 lt : g < w.heap.size
 there : ∀ j, j < cap → (w.cell? ⟨g, off + j, none⟩).isSome = true ∧ w.frozen? ⟨g, off + j, none⟩ = false
 cells : ∀ j, j < u.length → w.cell? ⟨g, off + j, none⟩ = some (.int .u8 (u.getD j 0))
def Un (lo : Nat) (w : World) (v : Value) (u : List Int) : Prop := (v = .slice none 0 0 ∧ u = []) ∨ ∃ g off cap, v = .slice (some ⟨g, off, none⟩) u.length cap ∧ lo ≤ g ∧ UnB w u g off cap
theorem Un.nil (lo : Nat) (w : World) : Un lo w (.slice none 0 0) [] := .inl ⟨rfl, rfl⟩
theorem Un.form {lo : Nat} {w : World} {v : Value} {u : List Int} (h : Un lo w v u) : ∃ a c, v = .slice a u.length c ∧ u.length ≤ c ∧ c ≤ maxLen ∧ (a = none → c = 0) := by
 rcases h with ⟨rfl, rfl⟩ | ⟨g, off, cap, rfl, _, h⟩
 ·exact ⟨none, 0, rfl, Nat.le_refl _, Nat.zero_le _, fun _ => rfl⟩
 ·exact ⟨_, cap, rfl, h.le, h.max, fun e => by cases e⟩
theorem Un.cap {lo : Nat} {w : World} {a : Option Addr} {n c : Nat} {u : List Int} (h : Un lo w (.slice a n c) u) : u.length ≤ c ∧ c ≤ maxLen := by
 obtain ⟨_, _, e, h1, h2, _⟩ := h.form
 simp only [Value.slice.injEq] at e
 rw [e.2.2]
 exact ⟨h1, h2⟩
theorem Un.rd {lo : Nat} {w : World} {v : Value} {u : List Int} (h : Un lo w v u) : Rd .u8 w v u := by
 rcases h with ⟨rfl, rfl⟩ | ⟨g, off, cap, rfl, _, h⟩
 ·exact ⟨Nat.zero_le _, .inl ⟨rfl, none, 0, rfl, fun _ => rfl⟩⟩
 ·exact ⟨Nat.le_trans h.le h.max, .inr ⟨g, off, cap, rfl, h.le, h.cells⟩⟩
theorem Un.kept {R : Nat → Prop} {lo : Nat} {w w' : World} {v : Value} {u : List Int} (h : Un lo w v u) (hk : Kept R w w') (hr : ∀ b, lo ≤ b → v.ownBlock = some b → (∃ j, (w.cell? ⟨b, j, none⟩).isSome = true) → ¬ R b) : Un lo w' v u := by
 rcases h with h | ⟨g, off, cap, rfl, hl, h⟩
 ·exact .inl h
 ·refine .inr ⟨g, off, cap, rfl, hl, h.le, h.max, Nat.lt_of_lt_of_le h.lt hk.size, fun j hj => ?_, fun j hj => ?_⟩
  ·have hn := hr g hl rfl ⟨_, (h.there j hj).1⟩
   rw [hk.cell (p := ⟨g, off + j, none⟩) h.lt hn, hk.frozen (p := ⟨g, off + j, none⟩) h.lt hn]
   exact h.there j hj
  ·have hn := hr g hl rfl ⟨_, (h.there j (Nat.lt_of_lt_of_le hj h.le)).1⟩
   rw [hk.cell (p := ⟨g, off + j, none⟩) h.lt hn]
   exact h.cells j hj
theorem Un.same {lo : Nat} {w w' : World} {v : Value} {u : List Int} (h : Un lo w v u) (hk : Same w w') : Un lo w' v u := h.kept hk (fun _ _ _ _ => id)
theorem Un.lt {lo : Nat} {w : World} {v : Value} {u : List Int} (h : Un lo w v u) (b : Nat) (hb : v.ownBlock = some b) : lo ≤ b ∧ b < w.heap.size := by
 rcases h with ⟨rfl, rfl⟩ | ⟨g, off, cap, rfl, hl, h⟩
 ·simp [Value.ownBlock] at hb
 ·have e : g = b := by simpa [Value.ownBlock] using hb
  subst e
  exact ⟨hl, h.lt⟩
theorem ZX {B b j : Nat} {w : World} (h : (w.cell? ⟨b, j, none⟩).isSome = true) : ¬ Zd B w b := fun ⟨_, o, ho, hc⟩ => by
 have bH : b < w.heap.size := (Array.getElem?_eq_some_iff.1 ho).1
 cases o <;> simp_all [World.cell?, Obj.isCells]
theorem Un.turn {lo B : Nat} {w w' : World} {v : Value} {u : List Int} (h : Un lo w v u) (hk : Kept (Zd B w) w w') : Un lo w' v u := h.kept hk (fun _ _ _ ⟨_, hj⟩ => ZX hj)
theorem Un.drop {lo : Nat} {w : World} {g off cap n : Nat} {u : List Int} (h : Un lo w (.slice (some ⟨g, off, none⟩) u.length cap) u) (hn : n ≤ u.length) : Un lo w (.slice (some ⟨g, off + n, none⟩) (u.length - n) (cap - n)) (u.drop n) := by
 rcases h with ⟨h, _⟩ | ⟨g', kK, zw, e, hl, h⟩
 ·simp at h
 ·simp only [Value.slice.injEq, Option.some.injEq, Addr.mk.injEq, and_true, true_and] at e
  obtain ⟨⟨rfl, rfl⟩, rfl⟩ := e
  refine .inr ⟨g, off + n, cap - n, by rw [List.length_drop], hl, by rw [List.length_drop]; have := h.le; omega, by have := h.max; omega, h.lt, fun j hj => ?_, fun j hj => ?_⟩
  ·rw [Nat.add_assoc]
   exact h.there (n + j) (by omega)
  ·rw [List.length_drop] at hj
   rw [Nat.add_assoc, h.cells (n + j) (by omega)]
   simp [List.getD, List.getElem?_drop]
theorem Un.dropAll {lo : Nat} {w : World} {g off cap : Nat} {u : List Int} (h : Un lo w (.slice (some ⟨g, off, none⟩) u.length cap) u) (kK : Nat) : Un lo w (.slice (some ⟨g, kK, none⟩) 0 0) [] := by
 have := h.lt g rfl
 exact .inr ⟨g, kK, 0, rfl, this.1, Nat.le_refl _, Nat.zero_le _, this.2, fun j hj => by omega, fun j hj => by simp at hj⟩
theorem jfI {w : World} {x : Value} {xs : List Int} (h : Rd .u8 w x xs) (h0 : 0 < xs.length) : ∀ i0 : TypeInfo, i0.size = 1 → Src Tryz.prog i0.size 22 x xs.length (vals .u8 xs) w := fun i0 h1 => by
 rw [h1]
 rcases h.2 with ⟨rfl, _⟩ | ⟨b, off, c, rfl, hl, hc⟩
 ·simp at h0
 ·exact Src.ofSlice (P := Tryz.prog) w Tryz.underlying22 ⟨b, off, none⟩ xs.length c (vals .u8 xs) (by simp [Rb]) (Wx hc) TN
theorem ZY {ty : TypeId} {lo : Nat} {w : World} {v x : Value} {u xs : List Int} (h : Un lo w v u) (L9 : lo ≤ w.heap.size) (hx : Rd .u8 w x xs) (h0 : 0 < xs.length) (hl : u.length + xs.length ≤ 1099511627776) :
  ∃ a' c' w', (Builtin.append_ #[22, 22] ty #[v, x]).run Tryz.prog w = .ok (.slice a' (u.length + xs.length) c') w' ∧ Un lo w' (.slice a' (u.length + xs.length) c') (u ++ xs) ∧ Kept (fun b => v.ownBlock = some b ∧ ∃ j, (w.cell? ⟨b, j, none⟩).isSome = true) w w' ∧ (∀ b, (Value.slice a' (u.length + xs.length) c').ownBlock = some b → v.ownBlock = some b ∨ w.heap.size ≤ b) := by
 obtain ⟨i0, hi, eL, eT, fM⟩ := info_parts Tryz.infoByte'
 have hs := jfI hx h0 i0 eT
 have grow : ∀ (base : Option Addr) (cap : Nat), v = .slice base u.length cap → cap < u.length + xs.length → cap ≤ maxLen → (Builtin.firstCells i0.size u.length (.slice base u.length cap)).run Tryz.prog w.drew = .ok (vals .u8 u).toArray w.drew →
   ∃ a' c' w', (Builtin.append_ #[22, 22] ty #[v, x]).run Tryz.prog w = .ok (.slice a' (u.length + xs.length) c') w' ∧ Un lo w' (.slice a' (u.length + xs.length) c') (u ++ xs) ∧ Kept (fun b => v.ownBlock = some b ∧ ∃ j, (w.cell? ⟨b, j, none⟩).isSome = true) w w' ∧ (∀ b, (Value.slice a' (u.length + xs.length) c').ownBlock = some b → v.ownBlock = some b ∨ w.heap.size ≤ b) := by
  rintro base cap rfl hc hm hold
  have FQ := nextslicecap_le (need := u.length + xs.length) (old := cap) (by omega)
  have e := run_append_grow_src (P := Tryz.prog) (w := w) 22 22 ty 5 i0 (.int .u8 0) Tryz.underlying22 hi eL base u.length cap _ hold _ xs.length _ hs hc (by omega) (by rw [fM]; omega)
  have Bv := grownCap_ge w (u.length + xs.length) cap 5
  have kx := grownCap_le_maxLen w (u.length + xs.length) cap 5 (by unfold maxLen; omega)
  refine ⟨_, _, _, e, ?_, (kZ0.drew).alloc _, fun b hb => .inr (by have h2 : w.heap.size = b := (by simpa [Value.ownBlock] using hb); omega)⟩
  obtain ⟨c2, sj⟩ : ∃ c, grownCap w (u.length + xs.length) cap 5 = c := ⟨_, rfl⟩
  rw [sj] at Bv kx ⊢
  have hB : Blk (w.drew.alloc (.cells ((vals .u8 u ++ vals .u8 xs).toArray ++ Builtin.zeroCells (Value.int IntKind.u8 0).cells (c2 - (u.length + xs.length))) 5)) w.heap.size 5 ((vals .u8 u ++ vals .u8 xs) ++ (Builtin.zeroCells (Value.int IntKind.u8 0).cells (c2 - (u.length + xs.length))).toList) := by
   have h := Blk.new w.drew ((vals .u8 u ++ vals .u8 xs).toArray ++ Builtin.zeroCells (Value.int IntKind.u8 0).cells (c2 - (u.length + xs.length))) 5
   simpa using h
  have A7 : ((vals .u8 u ++ vals .u8 xs) ++ (Builtin.zeroCells (Value.int IntKind.u8 0).cells (c2 - (u.length + xs.length))).toList).length = c2 := by
   simp [Rb, size_zeroCells, show (Value.int IntKind.u8 0).cells.size = 1 from rfl]
   omega
  refine .inr ⟨w.heap.size, 0, c2, by rw [List.length_append], L9, by rw [List.length_append]; exact Bv, kx, hB.lt, fun j hj => ?_, fun j hj => ?_⟩
  ·rw [Nat.zero_add]
   exact ⟨by rw [hB.cell, List.getElem?_eq_getElem (by rw [A7]; exact hj)]; rfl, hB.frozen j⟩
  ·rw [List.length_append] at hj
   rw [Nat.zero_add, hB.cell, List.getElem?_append_left (by simp [Rb]; omega)]
   rw [show vals .u8 u ++ vals .u8 xs = vals .u8 (u ++ xs) from by simp [vals]]
   simp only [vals, List.getElem?_map, List.getD]
   rw [List.getElem?_eq_getElem (by simp; omega)]
   rfl
 rcases h with ⟨rfl, rfl⟩ | ⟨g, off, cap, rfl, MH, h⟩
 ·exact grow none 0 rfl (by simpa using h0) (Nat.zero_le _) (run_firstCells_none w.drew i0.size 0 0 0)
 ·by_cases hr : u.length + xs.length ≤ cap
  ·have e := run_append_room_src (P := Tryz.prog) w 22 22 ty 5 i0 Tryz.underlying22 hi g off u.length cap _ xs.length _ hs hr
    (fun j hj => by rw [Rb] at hj; rw [eT, Nat.mul_one, Nat.add_assoc]; exact (h.there (u.length + j) (by omega)).1) (fun j hj => by rw [Rb] at hj; rw [eT, Nat.mul_one, Nat.add_assoc]; exact (h.there (u.length + j) (by omega)).2)
   rw [eT, Nat.mul_one] at e
   have hk : Kept (fun b => (Value.slice (some ⟨g, off, none⟩) u.length cap).ownBlock = some b ∧ ∃ j, (w.cell? ⟨b, j, none⟩).isSome = true) w (w.setCells g (off + u.length) (vals .u8 xs)) := Kept.setCells (R := fun b => (Value.slice (some ⟨g, off, none⟩) u.length cap).ownBlock = some b ∧ ∃ j, (w.cell? ⟨b, j, none⟩).isSome = true) (.inr ⟨rfl, _, (h.there 0 (by omega)).1⟩) _ _ kZ0
   refine ⟨_, _, _, e, .inr ⟨g, off, cap, by rw [List.length_append], MH, by rw [List.length_append]; exact hr, h.max, Nat.lt_of_lt_of_le h.lt hk.size, fun j hj => ?_, fun j hj => ?_⟩, hk, fun b hb => .inl hb⟩
   ·exact ⟨World.isSome_setCells g _ _ w _ (h.there j hj).1, by rw [World.frozen?_setCells]; exact (h.there j hj).2⟩
   ·rw [List.length_append] at hj
    by_cases F6 : j < u.length
    ·rw [World.cell?_setCells_out g _ _ w _ (fun _ _ => .inl (show off + j < off + u.length by omega)), h.cells j F6]
     simp [List.getD, List.getElem?_append_left F6]
    ·obtain ⟨k, rfl⟩ : ∃ k, j = u.length + k := ⟨j - u.length, by omega⟩
     have hk : k < xs.length := by omega
     rw [← Nat.add_assoc, World.cell?_setCells_in g _ _ w (fun j hj => by rw [Rb] at hj; rw [Nat.add_assoc]; exact (h.there (u.length + j) (by omega)).1) k (by rw [Rb]; exact hk)]
     simp [vals, List.getD, hk]
  ·refine grow (some ⟨g, off, none⟩) cap rfl (by omega) h.max (run_firstCells_some w.drew i0.size u.length ⟨g, off, none⟩ u.length cap _ (by rw [eT, Rb]; omega) (fun j v hv => ?_))
   have hj : j < u.length := by have h9 := (List.getElem?_eq_some_iff.1 hv).1; rw [Rb] at h9; exact h9
   have hc := h.cells j hj
   simp [vals, hj] at hv
   rw [← hv]
   simpa [Addr.add_lit, List.getD, hj] using hc
theorem Wv {P : Program} {w : World} {ct : Array Oper} {rest : List Oper} {o : Oper} {a : Act} {Q : Exit → Act → World → Prop} (j1 : o.guard = none) (s x : Operand) (t tn : TypeId)
  (ho : o.op = .call { callee := .builtin .append, args := #[s, x], argTypes := #[t, tn] }) (vs vx : Value) (hs : a.eval s = vs) (hx : a.eval x = vx)
  (v' : Value) (w' : World) (hr : (Builtin.append_ #[t, tn] o.type #[vs, vx]).run P w = .ok v' w') (h : wpList P ct Q rest (a.put o.dst v') w') : wpList P ct Q (o :: rest) a w := by
 refine wpList_plain j1 fun _ hK => ?_
 unfold Oper.wp execOp
 simp only [ho, resolve, invoke, builtin, Sem.run_bind, Sem.run_pure, Result.andThen_ok, List.map_toArray, List.map_cons, List.map_nil, hs, hx, hr]
 exact hK _ _ h
theorem OwnFr.snoc {g n cap : Nat} {w w' : World} {v : Value} {qs : List StLogFrame} (p : StLogFrame) (h : OwnFr w v qs) (hp : OwnL w p.rows) (hd : ∀ b, Rf p.rows b → ¬ Sm v qs b)
  (hg : w.grownBy w' v.ownBlock) (jG : w'.ownsRow 0 55 16 (.slice (some ⟨g, 0, none⟩) (n + 1) cap) (n + 1) (kFr.all qs ++ p.cells)) (hn : n = qs.length) (fk : v.ownBlock = some g ∨ g = w.heap.size) :
  OwnFr w' (.slice (some ⟨g, 0, none⟩) (n + 1) cap) (qs ++ [p]) := by
 have hk : Kept (fun b => v.ownBlock = some b) w w' := Kept.of_grown hg (fun k e => e)
 have e : Sb (qs ++ [p]) = Sb qs ++ p.rows := by rw [U7]; simp [Sb]
 refine ⟨h.own.snoc (K := kFr) p (Own.nil _ _ _ _) (fun b hb => by simp [kFr, Value.ownBlock] at hb) hg jG hn fk, ?_, ?_⟩
 ·rw [e]
  exact (h.rows.kept hk (fun b hb hv => h.out b hv hb)).append (hp.kept hk (fun b hb hv => hd b hb (.inl hv))) (fun b hb iq => hd b iq (.inr hb))
 ·intro b hb hf
  have iq : g = b := by simpa [Value.ownBlock] using hb
  subst iq
  rw [e] at hf
  rcases (Q7 _ _ _).1 hf with hf | hf
  ·rcases fk with fk | fk
   ·exact h.out _ fk hf
   ·have := h.rows.lt _ hf; omega
  ·rcases fk with fk | fk
   ·exact hd _ hf (.inl fk)
   ·have := hp.lt _ hf; omega
theorem jbp {g n cap : Nat} {v : Value} {qs : List StLogFrame} {p : StLogFrame} (b : Nat) (hb : Sm (.slice (some ⟨g, 0, none⟩) n cap) (qs ++ [p]) b) : b = g ∨ Sm v qs b ∨ Rf p.rows b := by
 rcases hb with hb | hb
 ·exact .inl (by simpa [Value.ownBlock] using hb.symm)
 ·rw [U7] at hb
  rcases (Q7 _ _ _).1 hb with hb | hb
  ·exact .inr (.inl (.inr hb))
  ·exact .inr (.inr (by simpa [Sb] using hb))
theorem TT (b : Nat) : ¬ Sm (.slice none 0 0) [] b := by
 rintro (h | h)
 ·simp [Value.ownBlock] at h
 ·obtain ⟨p, hp, _⟩ := jas.1 h
  simp at hp
theorem OwnFr.nil (w : World) : OwnFr w (.slice none 0 0) [] := ⟨OwnR.nil _ _ _ _ _, OwnL.nil _, fun b hb => by simp [Value.ownBlock] at hb⟩
def StFrameResult.fr (y : StFrameResult) (lsn : Int) : StLogFrame := ⟨lsn, y.epoch, y.record⟩
theorem TQ {base : Nat} {e : TypeId} {m n B b : Nat} {w : World} {v : Value} {xs : List Value} (h : w.ownsRow base e m v n xs) (hb : v.ownBlock = some b) : ¬ Zd B w b := fun ⟨_, o, ho, hc⟩ => by
 rcases h.2 with ⟨rfl, _⟩ | ⟨g, cap, cur, rfl, _, hg, _⟩
 ·simp [Value.ownBlock] at hb
 ·have e : g = b := by simpa [Value.ownBlock] using hb
  subst e
  rw [hg] at ho
  cases ho
  simp [Obj.isCells] at hc
theorem OwnFr.turn {B : Nat} {w w' : World} {v : Value} {qs : List StLogFrame} (h : OwnFr w v qs) (hk : Kept (Zd B w) w w') : OwnFr w' v qs := h.kept hk (fun b hb => by
 rcases hb with hb | ⟨r, hr, hb⟩
 ·exact TQ h.own.row hb
 ·exact TQ (h.rows.own r hr) hb)
structure ScM (w5 : World) (b1 b2 b3 : Nat) (rest : List Int) (lsn least : Int) (ua : Option Addr) (uc : Nat) (fa : Option Addr) (fn fc : Nat) (qs : List StLogFrame) (W : World) : Prop where
 scan : Blk W b1 29 [.slice fa fn fc, .int .i64 lsn]
 least : Blk W b2 2 [.int .i64 least]
 un : Blk W b3 22 [.slice ua rest.length uc]
 bytes : Un w5.heap.size W (.slice ua rest.length uc) rest
 own : OwnFr W (.slice fa fn fc) qs
 foot : ∀ b, Sm (.slice fa fn fc) qs b → w5.heap.size ≤ b
 apart : ∀ b, Sm (.slice fa fn fc) qs b → ¬ (Value.slice ua rest.length uc).ownBlock = some b
 kept : Kept (fun b => b = b1 ∨ b = b2 ∨ b = b3) w5 W
 low : b1 < w5.heap.size ∧ b2 < w5.heap.size ∧ b3 < w5.heap.size
theorem ScM.turn {w5 : World} {b1 b2 b3 : Nat} {rest : List Int} {lsn least : Int} {ua : Option Addr} {uc : Nat} {fa : Option Addr} {fn fc : Nat} {qs : List StLogFrame} {W W' : World} (h : ScM w5 b1 b2 b3 rest lsn least ua uc fa fn fc qs W) (hk : Kept (Zd w5.heap.size W) W W') : ScM w5 b1 b2 b3 rest lsn least ua uc fa fn fc qs W' :=
 ⟨h.scan.kept hk h.scan.not_bare, h.least.kept hk h.least.not_bare, h.un.kept hk h.un.not_bare, h.bytes.turn hk, h.own.turn hk, h.foot, h.apart, h.kept.next hk (fun i hi e => by have := e.1; omega), h.low⟩
theorem ScM.same {w5 : World} {b1 b2 b3 : Nat} {rest : List Int} {lsn least : Int} {ua : Option Addr} {uc : Nat} {fa : Option Addr} {fn fc : Nat} {qs : List StLogFrame} {W W' : World} (h : ScM w5 b1 b2 b3 rest lsn least ua uc fa fn fc qs W) (hk : Same W W') : ScM w5 b1 b2 b3 rest lsn least ua uc fa fn fc qs W' :=
 ⟨h.scan.same hk, h.least.same hk, h.un.same hk, h.bytes.same hk, h.own.same hk, h.foot, h.apart, h.kept.next hk (fun i hi e => e.elim), h.low⟩
theorem jbq {B : Nat} {A C D : World} (h : KeepsFrom B A C) (k : KeepsFrom B C D) : KeepsFrom B A D := ⟨Nat.le_trans h.1 k.1, fun i o hB ho hc => k.2 i o hB (h.2 i o hB ho hc) hc⟩
theorem jd6 {B : Nat} {A C : World} (h : Same A C) : KeepsFrom B A C := SV h (fun b e => e.elim)
theorem ScM.more {w5 : World} {b1 b2 b3 : Nat} {rest X : List Int} {lsn least : Int} {ua a' : Option Addr} {uc c' : Nat} {fa : Option Addr} {fn fc : Nat} {qs : List StLogFrame} {W w8 : World} (h : ScM w5 b1 b2 b3 rest lsn least ua uc fa fn fc qs W) (OR : b1 ≠ b3) (LQ : b2 ≠ b3)
  (kt : Un w5.heap.size w8 (.slice a' (rest.length + X.length) c') (rest ++ X)) (aG : Kept (fun b => (Value.slice ua rest.length uc).ownBlock = some b ∧ ∃ j, (W.cell? ⟨b, j, none⟩).isSome = true) W w8) (uY : ∀ b, (Value.slice a' (rest.length + X.length) c').ownBlock = some b → (Value.slice ua rest.length uc).ownBlock = some b ∨ W.heap.size ≤ b) :
  ScM w5 b1 b2 b3 (rest ++ X) lsn least a' c' fa fn fc qs (w8.setCell ⟨b3, 0, none⟩ (.slice a' (rest.length + X.length) c')) ∧ KeepsFrom w5.heap.size W (w8.setCell ⟨b3, 0, none⟩ (.slice a' (rest.length + X.length) c')) := by
 have fm : Kept (fun b => b = b3) w8 (w8.setCell ⟨b3, 0, none⟩ (.slice a' (rest.length + X.length) c')) := Kept.setCell (R := fun b => b = b3) kZ0 (p := ⟨b3, 0, none⟩) (.inr rfl) _
 have Ax := h.low
 have nL : ∀ b, b < w5.heap.size → ¬ ((Value.slice ua rest.length uc).ownBlock = some b ∧ ∃ j, (W.cell? ⟨b, j, none⟩).isSome = true) := fun b hb e => by have := (h.bytes.lt b e.1).1; omega
 refine ⟨⟨(h.scan.kept aG (nL _ (by omega))).kept fm OR, (h.least.kept aG (nL _ (by omega))).kept fm LQ, ?_, ?_, ?_, h.foot, ?_, ?_, h.low⟩, ?_⟩
 ·have h1 := (h.un.kept aG (nL _ (by omega))).stored 0 (.slice a' (rest.length + X.length) c')
  rw [List.length_append]
  exact h1
 ·have h1 := kt.kept fm (fun b hb _ _ e => by have e' : b = b3 := e; omega)
  rw [List.length_append]
  exact h1
 ·exact (h.own.kept aG (fun b hb e => h.apart b hb e.1)).kept fm (fun b hb e => by have e' : b = b3 := e; have := h.foot b hb; omega)
 ·intro b hb e
  rw [List.length_append] at e
  rcases uY b e with e | e
  ·exact h.apart b hb e
  ·have := h.own.lt b hb; omega
 ·exact (h.kept.next aG (fun i hi e => absurd e (nL i hi))).next fm (fun i hi e => .inr (.inr e))
 ·exact jbq (SV aG (fun b ⟨_, _, hj⟩ => ZX hj)) (SV fm (fun b e => by
   have e' : b = b3 := e
   subst e'
   exact (h.un.kept aG (nL _ (by omega))).not_bare))
section
variable {F : Fence} {n : Nat} {P : Program} {Q : Exit → Act → World → Prop} {a : Act} {w : World}
theorem wpIn_hide {c : Code} (mG : ¬ LetsOut Q) (h : ∀ QR : Exit → Act → World → Prop, Hid (∀ e a w, Q e a w → QR e a w) → ¬ LetsOut QR → c.wpIn F n P QR a w) : c.wpIn F n P Q a w := h Q (fun _ _ _ h => h) mG
theorem Uj {x y : Code} (h : ∀ K : Act → World → Prop, Hid (∀ a w, y.wpIn F n P Q a w → K a w) → x.wpIn F n P (Exit.then K Q) a w) : (Code.seq x y).wpIn F n P Q a w := wpIn_seq_k (fun K hK => h K hK)
end
theorem jgO (w : World) (a b c : List Value) (ta tb tc : TypeId) : Blk (((w.alloc (.cells a.toArray ta)).alloc (.cells b.toArray tb)).alloc (.cells c.toArray tc)) w.heap.size ta a ∧ Blk (((w.alloc (.cells a.toArray ta)).alloc (.cells b.toArray tb)).alloc (.cells c.toArray tc)) (w.heap.size + 1) tb b ∧
  Blk (((w.alloc (.cells a.toArray ta)).alloc (.cells b.toArray tb)).alloc (.cells c.toArray tc)) (w.heap.size + 1 + 1) tc c ∧ Same w (((w.alloc (.cells a.toArray ta)).alloc (.cells b.toArray tb)).alloc (.cells c.toArray tc)) := by
 have h1 := Blk.newL (w.alloc (.cells a.toArray ta)) b tb
 have h2 := Blk.newL ((w.alloc (.cells a.toArray ta)).alloc (.cells b.toArray tb)) c tc
 simp only [World.size_alloc] at h1 h2
 exact ⟨((Blk.newL w a ta).alloc _).alloc _, h1.alloc _, h2, ((kZ0.alloc _).alloc _).alloc _⟩
theorem jgP (w : World) (a b c d : List Value) (ta tb tc td : TypeId) : Blk ((((w.alloc (.cells a.toArray ta)).alloc (.cells b.toArray tb)).alloc (.cells c.toArray tc)).alloc (.cells d.toArray td)) w.heap.size ta a ∧ Blk ((((w.alloc (.cells a.toArray ta)).alloc (.cells b.toArray tb)).alloc (.cells c.toArray tc)).alloc (.cells d.toArray td)) (w.heap.size + 1) tb b ∧
  Blk ((((w.alloc (.cells a.toArray ta)).alloc (.cells b.toArray tb)).alloc (.cells c.toArray tc)).alloc (.cells d.toArray td)) (w.heap.size + 1 + 1) tc c ∧ Blk ((((w.alloc (.cells a.toArray ta)).alloc (.cells b.toArray tb)).alloc (.cells c.toArray tc)).alloc (.cells d.toArray td)) (w.heap.size + 1 + 1 + 1) td d ∧
  Same w ((((w.alloc (.cells a.toArray ta)).alloc (.cells b.toArray tb)).alloc (.cells c.toArray tc)).alloc (.cells d.toArray td)) ∧ ((((w.alloc (.cells a.toArray ta)).alloc (.cells b.toArray tb)).alloc (.cells c.toArray tc)).alloc (.cells d.toArray td)).heap.size = w.heap.size + 1 + 1 + 1 + 1 := by
 have h1 := Blk.newL (w.alloc (.cells a.toArray ta)) b tb
 have h2 := Blk.newL ((w.alloc (.cells a.toArray ta)).alloc (.cells b.toArray tb)) c tc
 have h3 := Blk.newL (((w.alloc (.cells a.toArray ta)).alloc (.cells b.toArray tb)).alloc (.cells c.toArray tc)) d td
 simp only [World.size_alloc] at h1 h2 h3
 exact ⟨(((Blk.newL w a ta).alloc _).alloc _).alloc _, (h1.alloc _).alloc _, h2.alloc _, h3, (((kZ0.alloc _).alloc _).alloc _).alloc _, by simp only [World.size_alloc]⟩
def StFrameResult.cls (x : StFrameResult) : List Value := [.int .i64 x.code, .int .i64 x.fsz, .int .i64 x.epoch, .int .i64 x.record.kind, .int .i64 x.record.txn, .int .i64 x.record.prev, .int .i64 x.record.page, .int .i64 x.record.slot, .bool x.record.before.used, x.record.before.data.v, .bool x.record.after.used, x.record.after.data.v, .int .i64 x.record.uN, .int .i64 x.record.nT, x.record.txns.v, x.record.dirty.v, x.record.image.v]
theorem StFrameResult.val_cls (x : StFrameResult) : x.val = .agg x.cls.toArray := rfl
theorem StFrameResult.cls_one (x : StFrameResult) : x.cls.toArray.all (·.oneCell') = true := all_oneCell_toArray (fun v hv => by
 simp only [StFrameResult.cls, List.mem_cons, List.not_mem_nil, or_false] at hv
 rcases hv with rfl | rfl | rfl | rfl | rfl | rfl | rfl | rfl | rfl | rfl | rfl | rfl | rfl | rfl | rfl | rfl | rfl <;> rfl)
theorem jav : (Tryz.prog.info? 52).map (·.size) = some 17 := by kernel_rfl
theorem Tryz.infoLF : (Tryz.prog.info? 55).map (fun i => (i.zero, i.size, i.bytes)) = some (some (.agg #[.int .i64 0, .int .i64 0, .int .i64 0, .int .i64 0, .int .i64 0, .int .i64 0, .int .i64 0, .bool false, .slice none 0 0, .bool false, .slice none 0 0, .int .i64 0, .int .i64 0, .slice none 0 0, .slice none 0 0, .slice none 0 0]), 16, 208) := by kernel_rfl
theorem Xb {w : World} {ct : Array Oper} {rest : List Oper} {o : Oper} {a : Act} {Q : Exit → Act → World → Prop} (j1 : o.guard = none) (s x : Operand)
  (ho : o.op = .call { callee := .builtin .append, args := #[s, x], argTypes := #[27, 27] }) {fa : Option Addr} {fn fc B : Nat} {qs : List StLogFrame} {p : StLogFrame} (hs : a.eval s = .slice fa fn fc) (hx : a.eval x = .slice (some ⟨B, 0, none⟩) 1 1)
  (hB : Blk w B 55 p.cells) (hO : OwnFr w (.slice fa fn fc) qs) (hY : OwnL w p.rows) (hd : ∀ b, Rf p.rows b → ¬ Sm (.slice fa fn fc) qs b) (hq : qs.length ≤ 20000)
  (h : ∀ gF cF w', OwnFr w' (.slice (some ⟨gF, 0, none⟩) (fn + 1) cF) (qs ++ [p]) → Kept (fun b => (Value.slice fa fn fc).ownBlock = some b) w w' → (∀ b, Sm (.slice (some ⟨gF, 0, none⟩) (fn + 1) cF) (qs ++ [p]) b → Sm (.slice fa fn fc) qs b ∨ Rf p.rows b ∨ w.heap.size ≤ b) → wpList Tryz.prog ct Q rest (a.put o.dst (.slice (some ⟨gF, 0, none⟩) (fn + 1) cF)) w') : wpList Tryz.prog ct Q (o :: rest) a w := by
 obtain ⟨i0, hi, eL, eT, fM⟩ := info_parts Tryz.infoLF
 have Hz : fn = qs.length := by
  obtain ⟨_, _, h⟩ := hO.own.rd.form
  simp only [Value.slice.injEq] at h
  exact h.2.1
 have jG := hO.own.row
 rw [← Hz] at jG
 refine wpList_append_lies (P := Tryz.prog) w j1 s x 27 ho 0 55 i0 _ 16 208 Tryz.underlying27 hi eL eT fM rfl (by omega) (.slice fa fn fc) fn (kFr.all qs) hs jG ⟨B, 0, none⟩ 1 1 p.cells hx rfl (fun j u hu => ?_) (fun u hu => ?_) (by omega) (by unfold maxLen; omega) (by omega) (Nat.zero_le _) w.heap.size rfl ?_
 ·have h1 := hB.cell j
  rw [hu] at h1
  simpa [Addr.add_lit] using h1
 ·simp only [StLogFrame.cells, List.mem_cons, List.not_mem_nil, or_false] at hu
  rcases hu with rfl | rfl | rfl | rfl | rfl | rfl | rfl | rfl | rfl | rfl | rfl | rfl | rfl | rfl | rfl | rfl <;> rfl
 ·intro gF cF w' aw hg fk bH
  refine h gF cF w' (OwnFr.snoc p hO hY hd hg aw Hz fk) (Kept.of_grown hg (fun k e => e)) (fun b hb => ?_)
  rcases jbp (v := .slice fa fn fc) b hb with rfl | h | h
  ·rcases fk with h | h
   ·exact .inl (.inl h)
   ·exact .inr (.inr (by omega))
  ·exact .inl h
  ·exact .inr (.inl h)
def FRs (wr wx : World) (D : Int × Int × Int × (Int × Int × Int × Int × Int × (Bool × List Int) × (Bool × List Int) × Int × Int × List Int × List Int × List Int)) (v : Value) : Prop := ∃ (Z : Nat) (y : StFrameResult), v = .pointer (some ⟨Z, 0, none⟩) ∧ y.dat = D ∧ wr.heap.size ≤ Z ∧ Blk wx Z 52 y.cls ∧ (∀ b, Rf y.rows b → wr.heap.size ≤ b ∧ ¬ b = Z) ∧ OwnL wx y.rows ∧ Same wr wx
theorem FRs.laid {wr wx : World} {Z : Nat} {y : StFrameResult} {D} {zs : List Value} (hd : y.dat = D) (hZ : wr.heap.size ≤ Z) (hb : Blk wx Z 52 zs) (Kl : zs.length = 17) (hf : ∀ b, Rf y.rows b → wr.heap.size ≤ b ∧ ¬ b = Z) (ho : OwnL wx y.rows) (hk : Same wr wx) : FRs wr (wx.setCells Z 0 y.cls) D (.pointer (some ⟨Z, 0, none⟩)) := by
 have fm : Kept (fun b => b = Z) wx (wx.setCells Z 0 y.cls) := Kept.setCells (R := fun b => b = Z) (.inr rfl) _ _ kZ0
 refine ⟨Z, y, rfl, hd, hZ, ?_, hf, ho.kept fm (fun b hb e => (hf b hb).2 e), hk.next fm (fun i hi e => by have e' : i = Z := e; omega)⟩
 have h1 := hb.setCells y.cls 0 (by rw [Kl]; exact Nat.le_refl _)
 rwa [lay_all _ _ (by rw [Kl]; rfl)] at h1
theorem VL {P : Program} {ct : Array Oper} {o : Oper} {a : Act} {w : World} {K : Act → World → Prop} {Q : Exit → Act → World → Prop} {E : Prop} (j1 : o.guard = none) (ty : TypeId) (x y : Operand) (ho : o.op = .store ty x y)
  (b off : Nat) (cells : Array Value) (hx : a.eval x = .pointer (some ⟨b, off, none⟩)) (hy : a.eval y = .agg cells) (ht : w.there b off cells.size) (hi : (P.info? ty).map (·.size) = some cells.size) (h1 : cells.all (·.oneCell') = true)
  (h : K (a.put o.dst undef) (w.setCells b off cells.toList)) : if Region.wanted o (yielded ct a.tmps) = true then Oper.wp P o a w K Q else E := by
 have hw : Region.wanted o (yielded ct a.tmps) = true := by simp [Region.wanted, j1]
 rw [if_pos hw]
 exact wp_store_mid ty x y ho b off cells hx hy ht hi h1 h
end Go.Proofs.YtaojjcnmififoaaGreat
