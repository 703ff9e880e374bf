import Derived.Test.YtepdakgfioffgaaGreatG01
import Derived.Test.YtepdakgfioffgaaGreatTyLogFrame
import Derived.Test.YtepdakgfioffgaaGreatG00
import Derived.Test.YtepdakgfioffgaaGreatTyLogRecord
import Derived.Lib.SmallJoins
import Derived.Laws.BytesArg
import Derived.Laws.StructEq
import Derived.Laws.BitsAllLaws
import Derived.Tactics
import Derived.Tactics2
import Derived.Defers
import Derived.Laws.Pointers
import Derived.Laws.LoneSync
import Derived.RegionTactic
import Derived.RegionCalls
import Derived.WalkKit
import Derived.OrdersHeld
import Derived.Deep.RegionHeld3
namespace Go.Proofs.YtepdakgfioffgaaGreat
set_option maxRecDepth 100000
set_option maxHeartbeats 8000000
set_option linter.unusedVariables false
set_option linter.unusedSimpArgs false
open Go Go.RowKit Go.ChangeShapes Go.WideShapes Go.ChangeAt
def StLogFrame.cells (x : StLogFrame) : List Value := [.int .i64 x.lsn, .int .i64 x.epoch, .int .i64 x.record.kind, .int .i64 x.record.txn, .int .i64 x.record.prev, .int .i64 x.record.page, .int .i64 x.record.slot, .bool x.record.before.used, x.record.before.data.v, .bool x.record.after.used, x.record.after.data.v, .int .i64 x.record.uN, .int .i64 x.record.nT, x.record.txns.v, x.record.dirty.v, x.record.image.v]
def kFr : RowK StLogFrame := ⟨16, StLogFrame.cells, fun _ => rfl, fun _ => .slice none 0 0, fun _ => []⟩
def zFr : StLogFrame := ⟨0, 0, ⟨0, 0, 0, 0, 0, ⟨false, ⟨0, none, 0, []⟩⟩, ⟨false, ⟨0, none, 0, []⟩⟩, 0, 0, ⟨0, none, 0, 0, []⟩, ⟨0, none, 0, 0, []⟩, ⟨0, none, 0, []⟩⟩⟩
def datFr (ps : List StLogFrame) := ps.map StLogFrame.dat
def szsFr (ps : List StLogFrame) := ps.map StLogFrame.szs
def frRows (ps : List StLogFrame) : List Row := ps.flatMap StLogFrame.rows
theorem datFr_length (ps : List StLogFrame) : (datFr ps).length = ps.length := by simp [datFr]
theorem datFr_at {ps qs : List StLogFrame} (h : datFr ps = datFr qs) (k : Nat) (h1 : k < ps.length) (h2 : k < qs.length) : ps[k].dat = qs[k].dat := by
 have e : (datFr ps)[k]'(by rw [datFr_length]; exact h1) = (datFr qs)[k]'(by rw [datFr_length]; exact h2) := by simp only [h]
 simpa [datFr] using e
theorem frRows_append (ps qs : List StLogFrame) : frRows (ps ++ qs) = frRows ps ++ frRows qs := by simp [frRows]
theorem frRows_cons (p : StLogFrame) (ps : List StLogFrame) : frRows (p :: ps) = p.rows ++ frRows ps := by simp [frRows]
theorem footRows_mem {ps : List StLogFrame} {b : Nat} : FootL (frRows ps) b ↔ ∃ p ∈ ps, FootL p.rows b := by
 unfold FootL frRows
 constructor
 ·rintro ⟨r, hr, hb⟩
  obtain ⟨p, hp, hr⟩ := List.mem_flatMap.1 hr
  exact ⟨p, hp, r, hr, hb⟩
 ·rintro ⟨p, hp, r, hr, hb⟩
  exact ⟨r, List.mem_flatMap.2 ⟨p, hp, hr⟩, hb⟩
structure OwnFr (w : World) (v : Value) (ps : List StLogFrame) : Prop where
 own : OwnR kFr 0 51 5 w v ps
 rows : OwnL w (frRows ps)
 out : ∀ b, v.ownBlock = some b → ¬ FootL (frRows ps) b
def footFr (v : Value) (ps : List StLogFrame) (b : Nat) : Prop := v.ownBlock = some b ∨ FootL (frRows ps) b
structure RdFr (w : World) (v : Value) (ps : List StLogFrame) : Prop where
 row : RdR kFr w v ps
 data : ∀ p ∈ ps, StLogFrame.rd w p
theorem footFr_head {v : Value} {ps : List StLogFrame} {b : Nat} (h : footR kFr v ps b) : v.ownBlock = some b := by
 rcases h with h | ⟨p, _, h⟩
 ·exact h
 ·simp [kFr, Value.ownBlock] at h
theorem OwnFr.kept {R : Nat → Prop} {w w' : World} {v : Value} {ps : List StLogFrame} (h : OwnFr w v ps) (hk : Kept R w w') (hr : ∀ b, footFr v ps b → ¬ R b) : OwnFr w' v ps :=
 ⟨h.own.kept hk (fun b hb => hr b (.inl (footFr_head hb))), h.rows.kept hk (fun b hb => hr b (.inr hb)), h.out⟩
theorem OwnFr.same {w w' : World} {v : Value} {ps : List StLogFrame} (h : OwnFr w v ps) (hk : Same w w') : OwnFr w' v ps := h.kept hk (fun _ _ => id)
theorem OwnFr.lt {w : World} {v : Value} {ps : List StLogFrame} (h : OwnFr w v ps) (b : Nat) (hb : footFr v ps b) : b < w.heap.size := by
 rcases hb with hb | hb
 ·exact (h.own.lt b (.inl hb)).2
 ·exact h.rows.lt b hb
theorem OwnL.mem {w : World} {ps : List StLogFrame} (h : OwnL w (frRows ps)) (p : StLogFrame) (hp : p ∈ ps) : OwnL w p.rows := by
 obtain ⟨a, c, rfl⟩ := List.append_of_mem hp
 rw [frRows_append, frRows_cons] at h
 exact h.right.left
theorem OwnFr.rd {w : World} {v : Value} {ps : List StLogFrame} (h : OwnFr w v ps) : RdFr w v ps := ⟨h.own.rd, fun p hp => StLogFrame.own_rd (h.rows.mem p hp)⟩
theorem RdFr.same {w w' : World} {v : Value} {ps : List StLogFrame} (h : RdFr w v ps) (hk : Same w w') : RdFr w' v ps := ⟨h.row.same hk, fun p hp => (h.data p hp).same hk⟩
theorem RdFr.form {w : World} {v : Value} {ps : List StLogFrame} (h : RdFr w v ps) : ∃ a c, v = .slice a ps.length c := h.row.form
def sizeFr : List StLogFrame → Int
 | [] => 0
 | p :: ps => p.szs + sizeFr ps
theorem sizeFr_append (ps qs : List StLogFrame) : sizeFr (ps ++ qs) = sizeFr ps + sizeFr qs := by
 induction ps with
 | nil => simp [sizeFr]
 | cons p ps ih => simp only [List.cons_append, sizeFr, ih]; omega
theorem sizeFr_step (ps : List StLogFrame) (j : Nat) (h : j < ps.length) : sizeFr (ps.take (j + 1)) = sizeFr (ps.take j) + ps[j].szs := by
 rw [List.take_succ_eq_append_getElem h, sizeFr_append]
 simp [sizeFr]
theorem sizeFr_nonneg (ps : List StLogFrame) : 0 ≤ sizeFr ps := by
 induction ps with
 | nil => exact Int.le_refl _
 | cons p ps ih => have := p.szs_le; simp only [sizeFr]; omega
theorem sizeFr_mem (ps : List StLogFrame) (p : StLogFrame) (h : p ∈ ps) : p.szs ≤ sizeFr ps := by
 induction ps with
 | nil => simp at h
 | cons q ps ih =>
  have h1 := sizeFr_nonneg ps
  have h2 := q.szs_le
  rcases List.mem_cons.1 h with rfl | h
  ·simp only [sizeFr]; omega
  ·have := ih h; simp only [sizeFr]; omega
theorem sizeFr_szs {ps qs : List StLogFrame} (h : szsFr qs = szsFr ps) : sizeFr qs = sizeFr ps := by
 have key : ∀ rs : List StLogFrame, sizeFr rs = (szsFr rs).sum := fun rs => by
  induction rs with
  | nil => rfl
  | cons p rs ih => simp only [sizeFr, szsFr, List.map_cons, List.sum_cons]; rw [ih]; rfl
 rw [key, key, h]
def mzFr : List StLogFrame → Int
 | [] => 0
 | p :: ps => 11 + p.size + mzFr ps
theorem mzFr_append (ps qs : List StLogFrame) : mzFr (ps ++ qs) = mzFr ps + mzFr qs := by
 induction ps with
 | nil => simp [mzFr]
 | cons p ps ih => simp only [List.cons_append, mzFr, ih]; omega
theorem mzFr_step (ps : List StLogFrame) (j : Nat) (h : j < ps.length) : mzFr (ps.take (j + 1)) = mzFr (ps.take j) + 11 + ps[j].size := by
 rw [List.take_succ_eq_append_getElem h, mzFr_append]
 simp only [mzFr]
 omega
theorem mzFr_nonneg (ps : List StLogFrame) : 0 ≤ mzFr ps := by
 induction ps with
 | nil => exact Int.le_refl _
 | cons p ps ih => have := p.size_le; simp only [mzFr]; omega
theorem mzFr_take_le (ps : List StLogFrame) (j : Nat) : mzFr (ps.take j) ≤ mzFr ps := by
 have h := mzFr_append (ps.take j) (ps.drop j)
 rw [List.take_append_drop] at h
 have := mzFr_nonneg (ps.drop j)
 omega
theorem StLogFrame.size_rd {w : World} {x : StLogFrame} (h : StLogFrame.rd w x) : x.size ≤ 4 * x.szs := by
 have h1 := h.2.2.1.2.1
 have h2 := h.2.2.2.1.2.1
 simp only [StLogFrame.size, StLogFrame.szs, StLogRecord.size, StLogRecord.szs, StPageRecord.size, StPageRecord.szs]
 omega
theorem mzFr_rd {w : World} {ps : List StLogFrame} (h : ∀ p ∈ ps, StLogFrame.rd w p) : mzFr ps ≤ 11 * ps.length + 4 * sizeFr ps := by
 induction ps with
 | nil => simp [mzFr, sizeFr]
 | cons p ps ih =>
  have h1 := ih (fun q hq => h q (List.mem_cons_of_mem _ hq))
  have h2 := StLogFrame.size_rd (h p (List.mem_cons_self ..))
  simp only [mzFr, sizeFr, List.length_cons]
  push_cast
  omega
theorem flat_length (f : Nat → List Int) (m : Nat) : ∀ n, (∀ i, i < n → (f i).length = m) → ((List.range n).flatMap f).length = n * m
 | 0, _ => by simp
 | n + 1, h => by
  rw [List.range_succ, List.flatMap_append, List.length_append, flat_length f m n (fun i hi => h i (by omega))]
  simp [h n (by omega), Nat.succ_mul]
theorem flat_at (f : Nat → List Int) (m : Nat) : ∀ n, 0 < m → (∀ i, i < n → (f i).length = m) → ∀ i, i < n * m → ((List.range n).flatMap f).getD i 0 = (f (i / m)).getD (i % m) 0
 | 0, _, _, i, hi => by simp at hi
 | n + 1, hm, h, i, hi => by
  rw [List.range_succ, List.flatMap_append]
  have hl := flat_length f m n (fun i hi => h i (by omega))
  by_cases h1 : i < n * m
  ·have h2 := flat_at f m n hm (fun i hi => h i (by omega)) i h1
   rw [← h2]
   simp only [List.getD]
   rw [List.getElem?_append_left (by omega)]
  ·have h3 : i < n * m + m := by rw [Nat.succ_mul] at hi; exact hi
   have hd : i / m = n := by
    rw [Nat.div_eq_iff hm]
    constructor <;> omega
   have Hn : i % m = i - n * m := by
    have := Nat.div_add_mod i m
    rw [hd, Nat.mul_comm] at this
    omega
   rw [hd, Hn]
   simp only [List.getD]
   rw [List.getElem?_append_right (by omega), hl]
   simp
section
variable {H : Type} {enc : TypeId × Value → H} {w : World} {base : Nat} {spare : Nat → Bool} {held : Bool}
theorem read_flat {t e : TypeId} {m : Nat} (qP : 0 < m) (ht : Tryz.prog.underlying t = some (.slice e)) (hc : Tryz.prog.cellsOf e = m)
  (he : ∀ (n : Nat) (cs : List Value) (x : DataW H × List MemPlace), DataW.trod enc Tryz.prog w base spare held n e cs = some x → ∃ ns : List Int, cs = vals .i64 ns ∧ ns.length = m)
  {fuel : Nat} {v : Value} {x : DataW H × List MemPlace} (h : DataW.trod enc Tryz.prog w base spare held fuel t [v] = some x) : ∃ y : FR, v = y.v ∧ RdF m w y := by
 rcases Deep.open_slice ht h with ⟨dY, _⟩ | ⟨a, len, cap, m', n, D, Pl, dY, hb, hl, hm, II, _, hx⟩
 ·simp at dY
  subst dY
  exact ⟨⟨0, none, 0, 0, []⟩, rfl, Nat.zero_le _, by simp, .inl rfl⟩
 ·simp at dY
  subst dY
  have Un : len ≤ m' := by rw [II]; split <;> omega
  have each : ∀ i, i < len → ∃ ns : List Int, ns.length = m ∧ ∀ j, j < m → w.cell? ((a.add (i * m)).add j) = some (.int .i64 (ns.getD j 0)) := fun i hi => by
   obtain ⟨UD, h1, h2⟩ := hx i (by omega)
   rw [hc] at h1
   obtain ⟨_, gN, jq⟩ := World.cells?_some h1
   obtain ⟨ns, rfl, R9⟩ := he _ _ _ h2
   refine ⟨ns, R9, fun j hj => ?_⟩
   have := jq j (by omega)
   rw [this, vals_at _ _ _ (by omega)]
  obtain ⟨f, hf⟩ := Deep.choose_lt each
  by_cases h0 : len = 0
  ·subst h0
   exact ⟨⟨0, some a, 0, cap, []⟩, rfl, Nat.zero_le _, by simp, .inl rfl⟩
  ·have ha : ∃ b off, a = ⟨b, off, none⟩ := by
    have h1 := (hf 0 (by omega)).2 0 qP
    rw [Nat.zero_mul] at h1
    have e0 : a.add 0 = a := by cases a; simp [Addr.add]
    rw [e0] at h1
    exact addr_form (a := a) h1
   obtain ⟨b, off, rfl⟩ := ha
   refine ⟨⟨0, some ⟨b, off, none⟩, len, cap, (List.range len).flatMap f⟩, rfl, by dsimp only; omega, ?_, .inr ⟨b, off, rfl, hl, fun i hi => ?_⟩⟩
   ·dsimp only
    exact flat_length f m len (fun i hi => (hf i hi).1)
   ·dsimp only at hi ⊢
    have GN : i / m < len := (Nat.div_lt_iff_lt_mul qP).2 hi
    have h1 := (hf (i / m) GN).2 (i % m) (Nat.mod_lt _ qP)
    rw [add_none, add_none] at h1
    rw [flat_at f m len qP (fun i hi => (hf i hi).1) i hi]
    have e : off + i = off + i / m * m + i % m := by
     have := Nat.div_add_mod i m
     rw [Nat.mul_comm] at this
     omega
    rw [e]
    exact h1
theorem ints_cells {e : TypeId} {fs : Array Field} (m : Nat) (hs : Tryz.prog.underlying e = some (.struct fs)) (i1 : fs.size = m) (hc : Tryz.prog.cellsOf e = m)
  (hf : ∀ (i : Nat) (f : Field), fs[i]? = some f → f.type = 2 ∧ f.offset = i) (n : Nat) (cs : List Value) (x : DataW H × List MemPlace) (h : DataW.trod enc Tryz.prog w base spare held n e cs = some x) :
  ∃ ns : List Int, cs = vals .i64 ns ∧ ns.length = m := by
 obtain ⟨xs, k, _, _, hl, j8, hg⟩ := DataW.trod_struct hs h
 have each : ∀ i, i < m → ∃ z : Int, cs[i]? = some (.int .i64 z) := fun i hi => by
  have A6 : i < fs.size := by omega
  obtain ⟨h1, h2⟩ := hf i fs[i] (by simp [A6])
  have h3 := hg i fs[i] (by simp [A6])
  rw [h1, h2, show Tryz.prog.cellsOf 2 = 1 from by kernel_rfl] at h3
  have h4 : xs[i]? = some xs[i] := by simp [j8, A6]
  rw [h4] at h3
  obtain ⟨z, hz, _, _⟩ := DataW.trod_int Tryz.underlying2 h3
  refine ⟨z, ?_⟩
  have h5 := congrArg (fun l => l[0]?) hz
  simpa [List.getElem?_take, List.getElem?_drop] using h5
 obtain ⟨g, TN⟩ := Deep.choose_lt each
 refine ⟨(List.range m).map g, ?_, by simp⟩
 apply List.ext_getElem?
 intro i
 by_cases hi : i < m
 ·rw [TN i hi]
  simp [vals, hi]
 ·rw [List.getElem?_eq_none (by rw [hl, hc]; omega), List.getElem?_eq_none (by simp [vals]; omega)]
theorem read_slotRecord {n : Nat} {c0 c1 : Value} {x : DataW H × List MemPlace} (h : DataW.trod enc Tryz.prog w base spare held n 78 [c0, c1] = some x) :
  ∃ y : StPageRecord, c0 = .bool y.used ∧ c1 = y.data.v ∧ StPageRecord.rd w y ∧ IsB y.data.bs := by
 obtain ⟨y0, y1, k, _, _, h0, h1⟩ := trod_struct2 Tryz.underlying78 h
 have Cc : DataW.trod enc Tryz.prog w base spare held k 4 [c0] = some y0 := h0
 have zN : DataW.trod enc Tryz.prog w base spare held k 45 [c1] = some y1 := h1
 obtain ⟨b, hb, _⟩ := DataW.trod_bool Tryz.underlying4 Cc
 obtain ⟨bs, Ms, hB⟩ := read_intsB Tryz.underlying45 Tryz.underlying5 (by kernel_rfl) zN
 obtain ⟨a, c, rfl⟩ := Ms.form
 simp at hb
 exact ⟨⟨b, ⟨0, a, c, bs⟩⟩, hb, rfl, Ms, fun x hx => by have := hB x hx; exact ⟨this.1, this.2⟩⟩
def StLogFrame.isB (p : StLogFrame) : Prop := IsB p.record.before.data.bs ∧ IsB p.record.after.data.bs ∧ IsB p.record.image.bs
theorem read_logRecord {m : Nat} {c0 c1 c2 c3 c4 c5 c6 c7 c8 c9 c10 c11 c12 c13 : Value} {x : DataW H × List MemPlace} (h : DataW.trod enc Tryz.prog w base spare held m 82 [c0, c1, c2, c3, c4, c5, c6, c7, c8, c9, c10, c11, c12, c13] = some x) :
  ∃ x : StLogRecord, [c0, c1, c2, c3, c4, c5, c6, c7, c8, c9, c10, c11, c12, c13] = [.int .i64 x.kind, .int .i64 x.txn, .int .i64 x.prev, .int .i64 x.page, .int .i64 x.slot, .bool x.before.used, x.before.data.v, .bool x.after.used, x.after.data.v, .int .i64 x.uN, .int .i64 x.nT, x.txns.v, x.dirty.v, x.image.v] ∧ StLogRecord.rd w x ∧ IsB x.before.data.bs ∧ IsB x.after.data.bs ∧ IsB x.image.bs := by
 obtain ⟨xs, n, _, _, _, j8, hg⟩ := DataW.trod_struct Tryz.underlying82 h
 have g0 : ∃ x, DataW.trod enc Tryz.prog w base spare held n 2 [c0] = some x := ⟨xs[0]'(by rw [j8]; decide), by have h := hg 0 _ rfl; rw [List.getElem?_eq_getElem (by rw [j8]; decide)] at h; exact h⟩
 obtain ⟨x0, g0⟩ := g0
 obtain ⟨z0, e0, _, _⟩ := DataW.trod_int Tryz.underlying2 g0
 simp at e0
 subst e0
 have g1 : ∃ x, DataW.trod enc Tryz.prog w base spare held n 2 [c1] = some x := ⟨xs[1]'(by rw [j8]; decide), by have h := hg 1 _ rfl; rw [List.getElem?_eq_getElem (by rw [j8]; decide)] at h; exact h⟩
 obtain ⟨x1, g1⟩ := g1
 obtain ⟨z1, e1, _, _⟩ := DataW.trod_int Tryz.underlying2 g1
 simp at e1
 subst e1
 have g2 : ∃ x, DataW.trod enc Tryz.prog w base spare held n 2 [c2] = some x := ⟨xs[2]'(by rw [j8]; decide), by have h := hg 2 _ rfl; rw [List.getElem?_eq_getElem (by rw [j8]; decide)] at h; exact h⟩
 obtain ⟨x2, g2⟩ := g2
 obtain ⟨z2, e2, _, _⟩ := DataW.trod_int Tryz.underlying2 g2
 simp at e2
 subst e2
 have g3 : ∃ x, DataW.trod enc Tryz.prog w base spare held n 2 [c3] = some x := ⟨xs[3]'(by rw [j8]; decide), by have h := hg 3 _ rfl; rw [List.getElem?_eq_getElem (by rw [j8]; decide)] at h; exact h⟩
 obtain ⟨x3, g3⟩ := g3
 obtain ⟨z3, e3, _, _⟩ := DataW.trod_int Tryz.underlying2 g3
 simp at e3
 subst e3
 have g4 : ∃ x, DataW.trod enc Tryz.prog w base spare held n 2 [c4] = some x := ⟨xs[4]'(by rw [j8]; decide), by have h := hg 4 _ rfl; rw [List.getElem?_eq_getElem (by rw [j8]; decide)] at h; exact h⟩
 obtain ⟨x4, g4⟩ := g4
 obtain ⟨z4, e4, _, _⟩ := DataW.trod_int Tryz.underlying2 g4
 simp at e4
 subst e4
 have g5 : ∃ x, DataW.trod enc Tryz.prog w base spare held n 78 [c5, c6] = some x := ⟨xs[5]'(by rw [j8]; decide), by have h := hg 5 _ rfl; rw [List.getElem?_eq_getElem (by rw [j8]; decide)] at h; exact h⟩
 obtain ⟨x5, g5⟩ := g5
 obtain ⟨y5, rfl, rfl, r5, B5⟩ := read_slotRecord g5
 have g6 : ∃ x, DataW.trod enc Tryz.prog w base spare held n 78 [c7, c8] = some x := ⟨xs[6]'(by rw [j8]; decide), by have h := hg 6 _ rfl; rw [List.getElem?_eq_getElem (by rw [j8]; decide)] at h; exact h⟩
 obtain ⟨x6, g6⟩ := g6
 obtain ⟨y6, rfl, rfl, r6, B6⟩ := read_slotRecord g6
 have g7 : ∃ x, DataW.trod enc Tryz.prog w base spare held n 2 [c9] = some x := ⟨xs[7]'(by rw [j8]; decide), by have h := hg 7 _ rfl; rw [List.getElem?_eq_getElem (by rw [j8]; decide)] at h; exact h⟩
 obtain ⟨x7, g7⟩ := g7
 obtain ⟨z7, e7, _, _⟩ := DataW.trod_int Tryz.underlying2 g7
 simp at e7
 subst e7
 have g8 : ∃ x, DataW.trod enc Tryz.prog w base spare held n 2 [c10] = some x := ⟨xs[8]'(by rw [j8]; decide), by have h := hg 8 _ rfl; rw [List.getElem?_eq_getElem (by rw [j8]; decide)] at h; exact h⟩
 obtain ⟨x8, g8⟩ := g8
 obtain ⟨z8, e8, _, _⟩ := DataW.trod_int Tryz.underlying2 g8
 simp at e8
 subst e8
 have g9 : ∃ x, DataW.trod enc Tryz.prog w base spare held n 79 [c11] = some x := ⟨xs[9]'(by rw [j8]; decide), by have h := hg 9 _ rfl; rw [List.getElem?_eq_getElem (by rw [j8]; decide)] at h; exact h⟩
 obtain ⟨x9, g9⟩ := g9
 obtain ⟨y9, rfl, r9⟩ := read_flat (m := 4) (by decide) Tryz.underlying79 (by kernel_rfl) (ints_cells 4 Tryz.underlying159 rfl (by kernel_rfl) (fun i f hi => by
  match i, hi with
  | 0, hi => simp at hi; subst hi; exact ⟨rfl, rfl⟩
  | 1, hi => simp at hi; subst hi; exact ⟨rfl, rfl⟩
  | 2, hi => simp at hi; subst hi; exact ⟨rfl, rfl⟩
  | 3, hi => simp at hi; subst hi; exact ⟨rfl, rfl⟩
  | j + 4, hi => simp at hi)) g9
 have J3 : ∃ x, DataW.trod enc Tryz.prog w base spare held n 80 [c12] = some x := ⟨xs[10]'(by rw [j8]; decide), by have h := hg 10 _ rfl; rw [List.getElem?_eq_getElem (by rw [j8]; decide)] at h; exact h⟩
 obtain ⟨U1, J3⟩ := J3
 obtain ⟨oO, rfl, Av⟩ := read_flat (m := 2) (by decide) Tryz.underlying80 (by kernel_rfl) (ints_cells 2 Tryz.underlying161 rfl (by kernel_rfl) (fun i f hi => by
  match i, hi with
  | 0, hi => simp at hi; subst hi; exact ⟨rfl, rfl⟩
  | 1, hi => simp at hi; subst hi; exact ⟨rfl, rfl⟩
  | j + 2, hi => simp at hi)) J3
 have Km : ∃ x, DataW.trod enc Tryz.prog w base spare held n 45 [c13] = some x := ⟨xs[11]'(by rw [j8]; decide), by have h := hg 11 _ rfl; rw [List.getElem?_eq_getElem (by rw [j8]; decide)] at h; exact h⟩
 obtain ⟨VD, Km⟩ := Km
 obtain ⟨Sy, Ao, T6⟩ := read_intsB Tryz.underlying45 Tryz.underlying5 (by kernel_rfl) Km
 obtain ⟨Rf, Tg, rfl⟩ := Ao.form
 exact ⟨⟨z0, z1, z2, z3, z4, y5, y6, z7, z8, y9, oO, ⟨0, Rf, Tg, Sy⟩⟩, rfl, ⟨r5, r6, r9, Av, Ao⟩, B5, B6, fun x hx => by have := T6 x hx; exact ⟨this.1, this.2⟩⟩
theorem list16 {cs : List Value} (h : cs.length = 16) : ∃ a0 a1 c0 c1 c2 c3 c4 c5 c6 c7 c8 c9 c10 c11 c12 c13, cs = [a0, a1, c0, c1, c2, c3, c4, c5, c6, c7, c8, c9, c10, c11, c12, c13] := by
 match cs, h with
 | [a0, a1, c0, c1, c2, c3, c4, c5, c6, c7, c8, c9, c10, c11, c12, c13], _ => exact ⟨a0, a1, c0, c1, c2, c3, c4, c5, c6, c7, c8, c9, c10, c11, c12, c13, rfl⟩
theorem read_logFrame (n : Nat) (cs : List Value) (x : DataW H × List MemPlace) (hl : cs.length = 16) (h : DataW.trod enc Tryz.prog w base spare held n 84 cs = some x) :
  ∃ p : StLogFrame, cs = kFr.cells p ∧ Rd .u8 w (kFr.v p) (kFr.bs p) ∧ StLogFrame.rd w p ∧ p.isB := by
 obtain ⟨a0, a1, c0, c1, c2, c3, c4, c5, c6, c7, c8, c9, c10, c11, c12, c13, rfl⟩ := list16 hl
 obtain ⟨xs, n, _, _, _, j8, hg⟩ := DataW.trod_struct Tryz.underlying84 h
 have g0 : ∃ x, DataW.trod enc Tryz.prog w base spare held n 2 [a0] = some x := ⟨xs[0]'(by rw [j8]; decide), by have h := hg 0 _ rfl; rw [List.getElem?_eq_getElem (by rw [j8]; decide)] at h; exact h⟩
 obtain ⟨x0, g0⟩ := g0
 obtain ⟨z0, e0, _, _⟩ := DataW.trod_int Tryz.underlying2 g0
 simp at e0
 subst e0
 have g1 : ∃ x, DataW.trod enc Tryz.prog w base spare held n 2 [a1] = some x := ⟨xs[1]'(by rw [j8]; decide), by have h := hg 1 _ rfl; rw [List.getElem?_eq_getElem (by rw [j8]; decide)] at h; exact h⟩
 obtain ⟨x1, g1⟩ := g1
 obtain ⟨z1, e1, _, _⟩ := DataW.trod_int Tryz.underlying2 g1
 simp at e1
 subst e1
 have g2 : ∃ x, DataW.trod enc Tryz.prog w base spare held n 82 [c0, c1, c2, c3, c4, c5, c6, c7, c8, c9, c10, c11, c12, c13] = some x := ⟨xs[2]'(by rw [j8]; decide), by have h := hg 2 _ rfl; rw [List.getElem?_eq_getElem (by rw [j8]; decide)] at h; exact h⟩
 obtain ⟨x2, g2⟩ := g2
 obtain ⟨r, hr, fG, hB⟩ := read_logRecord g2
 exact ⟨⟨z0, z1, r⟩, by rw [hr]; rfl, ⟨by simp [kFr], .inl ⟨rfl, none, 0, rfl, fun _ => rfl⟩⟩, fG, hB⟩
end
section
variable {H : Type} {enc : TypeId × Value → H} {w : World} {base : Nat} {spare : Nat → Bool} {held : Bool}
theorem open_scan {r : Reach} {b0 : Nat} {v : Value} {d : DataW H} {p : List MemPlace} (hv : Value.okWide Tryz.prog w r b0 24 v) (h : DataW.Trod enc Tryz.prog w base spare held 24 v d p) :
  ∃ v0 ps en, v = .agg #[v0, .int .i64 en] ∧ RdFr w v0 ps ∧ ∀ p ∈ ps, p.isB := by
 obtain ⟨v0, v1, y0, y1, n, rfl, _, _, h0, h1⟩ := Joins.open_agg2 Tryz.underlying24 (by kernel_rfl) (by kernel_rfl) hv h
 have iE : Inhabited StLogFrame := ⟨zFr⟩
 obtain ⟨ps, hr, hq⟩ := read_rows kFr (fun p => StLogFrame.rd w p ∧ p.isB) (by decide) Tryz.underlying22 (by kernel_rfl) (fun n cs x hl h => read_logFrame n cs x hl h) h0
 obtain ⟨en, e, _, b⟩ := DataW.trod_int Tryz.underlying2 h1
 simp at e
 subst e
 exact ⟨v0, ps, en, rfl, ⟨hr, fun p hp => (hq p hp).1⟩, fun p hp => (hq p hp).2⟩
end
theorem conv_any {w : World} {v : Value} {bs : List Int} (h : Rd .u8 w v bs) : (convert 45 9 v).run Tryz.prog w = .ok (.string (strOfNums bs)) w := by
 rcases h.2 with ⟨rfl, a, c, rfl, _⟩ | ⟨b, off, c, rfl, _, hc⟩
 ·rw [run_convert_bytes_string w 45 9 5 _ 0 c (by kernel_rfl) (by kernel_rfl) (by kernel_rfl)]
  cases a <;> simp [Conv.bytesToString, loadCells]
  all_goals rfl
 ·exact run_convert_bytes_arg w 45 5 (by kernel_rfl) (by kernel_rfl) b off bs.length c bs rfl hc 9 (by kernel_rfl)
theorem strOfNums_inj : ∀ {xs bs : List Int}, IsB xs → IsB bs → strOfNums xs = strOfNums bs → xs = bs := by
 intro xs bs ha hb h
 have h2 : xs.map (fun n => UInt8.ofNat n.toNat) = bs.map (fun n => UInt8.ofNat n.toNat) := by
  have h3 := congrArg (fun s => s.data.toList) h
  simpa [strOfNums] using h3
 have hl : xs.length = bs.length := by have := congrArg List.length h2; simpa using this
 apply List.ext_getElem hl
 intro i h1 h4
 have h5 := congrArg (fun l => l[i]?) h2
 simp [h1, h4] at h5
 have h6 := ha _ (List.getElem_mem h1)
 have h7 := hb _ (List.getElem_mem h4)
 have h8 := congrArg UInt8.toNat h5
 simp at h8
 omega
theorem bytesEq_any (va vb : Value) (xs bs : List Int) (w : World) (ha : IsB xs) (hb : IsB bs) (fE : Rd .u8 w va xs) (fT : Rd .u8 w vb bs) :
  Calls Tryz.prog 97 #[va, vb] w fun e w' => e = .returned (.bool (decide (xs = bs))) ∧ Same w w' := by
 have h1 := conv_any fE
 have h2 := conv_any fT
 have HE := (show Hid (((strOfNums xs).toList == (strOfNums bs).toList) = decide (xs = bs)) from by
  by_cases h : xs = bs
  ·subst h
   show _ = _
   simp
  ·rw [decide_eq_false h]
   refine beq_eq_false_iff_ne.2 (fun e => h (strOfNums_inj ha hb ?_))
   rw [ByteArray.toList_eq, ByteArray.toList_eq] at e
   exact ByteArray.ext (Array.ext' e))
 generalize strOfNums xs = s at *
 generalize strOfNums bs = t at *
 clear ha hb fE fT
 go_enter Tryz.func97, Tryz.ntmps97
 go_wp2
 go_ret
 exact ⟨by rw [← HE.out]; rfl, Kept.refl _ _⟩
theorem sameTxnEntry_nil (a : Option Addr) (n c : Nat) (w : World) (hn : n ≤ maxLen) : Calls Tryz.prog 95 #[.slice none 0 0, .slice a n c] w fun e w' => e = .returned (.bool (decide (n = 0))) ∧ Same w w' := by
 by_cases h : n = 0
 ·subst h
  go_enter Tryz.func95, Tryz.ntmps95
  go_wp2
  refine wp_loop_rounds 1 ?_
  rw [rounds_succ]
  go_wp2
  go_ret
  exact ⟨rfl, Kept.refl _ _⟩
 ·have h2 : ¬ (0 : Int) = (n : Int) := by omega
  go_enter Tryz.func95, Tryz.ntmps95
  go_wp2
  go_ret
  exact ⟨by rw [decide_eq_false h]; rfl, Kept.refl _ _⟩
theorem sameTxnEntry_self (x : FR) (w : World) (hn : x.n ≤ 1125899906842624) (hv : RdF 4 w x) : Calls Tryz.prog 95 #[x.v, x.v] w fun e w' => e = .returned (.bool true) ∧ Same w w' := by
 obtain ⟨lC, gN, fR⟩ := hv
 obtain ⟨xe, xa, len, xc, bs⟩ := x
 dsimp only [FR.v] at *
 by_cases h0 : len = 0
 ·subst h0
  go_enter Tryz.func95, Tryz.ntmps95
  go_wp2
  refine wp_loop_rounds 1 ?_
  rw [rounds_succ]
  go_wp2
  go_ret
  exact ⟨rfl, Kept.refl _ _⟩
 ·obtain ⟨b, off, rfl, mj, hc⟩ := fR.resolve_left h0
  have HC := (show Hid (∀ i, i < len * 4 → w.cell? ⟨b, off + i, none⟩ = some (.int .i64 (bs.getD i 0))) from hc)
  clear hc fR gN lC
  go_enter Tryz.func95, Tryz.ntmps95
  go_wp2
  go_loopw [5, 13] (fun _ i wr => ∃ (k : Nat), k ≤ len ∧ i = .int .i64 k ∧ Hid (Same w wr)) (fun _ i _ => len - (intOf i).toNat)
  case atStart => exact ⟨0, Nat.zero_le _, rfl, Kept.refl _ _⟩
  case round =>
   obtain ⟨k, hk, rfl, HK⟩ := hrel
   by_cases dh : k < len
   ·have q0 : wr.cell? ⟨b, off + k * 4, none⟩ = some (.int .i64 (bs.getD (k * 4) 0)) := by have h := HK.out.cellOf (HC.out (k * 4) (by omega)) id; simpa only [Nat.add_assoc] using h
    have q1 : wr.cell? ⟨b, off + k * 4 + 1, none⟩ = some (.int .i64 (bs.getD (k * 4 + 1) 0)) := by have h := HK.out.cellOf (HC.out (k * 4 + 1) (by omega)) id; simpa only [Nat.add_assoc] using h
    have q2 : wr.cell? ⟨b, off + k * 4 + 2, none⟩ = some (.int .i64 (bs.getD (k * 4 + 2) 0)) := by have h := HK.out.cellOf (HC.out (k * 4 + 2) (by omega)) id; simpa only [Nat.add_assoc] using h
    have q3 : wr.cell? ⟨b, off + k * 4 + 3, none⟩ = some (.int .i64 (bs.getD (k * 4 + 3) 0)) := by have h := HK.out.cellOf (HC.out (k * 4 + 3) (by omega)) id; simpa only [Nat.add_assoc] using h
    generalize bs.getD (k * 4) 0 = x0 at *
    generalize bs.getD (k * 4 + 1) 0 = x1 at *
    generalize bs.getD (k * 4 + 2) 0 = x2 at *
    generalize bs.getD (k * 4 + 3) 0 = x3 at *
    go_wp2
    go_quiet (fail)
    go_wp2
    go_roundw
    case rel => exact ⟨k + 1, by omega, by go_num, HK.out.drewN _⟩
    case measure => simp [intOf]; omega
   ·go_wp2
    go_ret
    exact ⟨rfl, HK.out⟩
theorem sameDirtyEntry_nil (a : Option Addr) (n c : Nat) (w : World) (hn : n ≤ maxLen) : Calls Tryz.prog 96 #[.slice none 0 0, .slice a n c] w fun e w' => e = .returned (.bool (decide (n = 0))) ∧ Same w w' := by
 by_cases h : n = 0
 ·subst h
  go_enter Tryz.func96, Tryz.ntmps96
  go_wp2
  refine wp_loop_rounds 1 ?_
  rw [rounds_succ]
  go_wp2
  go_ret
  exact ⟨rfl, Kept.refl _ _⟩
 ·have h2 : ¬ (0 : Int) = (n : Int) := by omega
  go_enter Tryz.func96, Tryz.ntmps96
  go_wp2
  go_ret
  exact ⟨by rw [decide_eq_false h]; rfl, Kept.refl _ _⟩
theorem sameDirtyEntry_self (x : FR) (w : World) (hn : x.n ≤ 1125899906842624) (hv : RdF 2 w x) : Calls Tryz.prog 96 #[x.v, x.v] w fun e w' => e = .returned (.bool true) ∧ Same w w' := by
 obtain ⟨lC, gN, fR⟩ := hv
 obtain ⟨xe, xa, len, xc, bs⟩ := x
 dsimp only [FR.v] at *
 by_cases h0 : len = 0
 ·subst h0
  go_enter Tryz.func96, Tryz.ntmps96
  go_wp2
  refine wp_loop_rounds 1 ?_
  rw [rounds_succ]
  go_wp2
  go_ret
  exact ⟨rfl, Kept.refl _ _⟩
 ·obtain ⟨b, off, rfl, mj, hc⟩ := fR.resolve_left h0
  have HC := (show Hid (∀ i, i < len * 2 → w.cell? ⟨b, off + i, none⟩ = some (.int .i64 (bs.getD i 0))) from hc)
  clear hc fR gN lC
  go_enter Tryz.func96, Tryz.ntmps96
  go_wp2
  go_loopw [5, 13] (fun _ i wr => ∃ (k : Nat), k ≤ len ∧ i = .int .i64 k ∧ Hid (Same w wr)) (fun _ i _ => len - (intOf i).toNat)
  case atStart => exact ⟨0, Nat.zero_le _, rfl, Kept.refl _ _⟩
  case round =>
   obtain ⟨k, hk, rfl, HK⟩ := hrel
   by_cases dh : k < len
   ·have q0 : wr.cell? ⟨b, off + k * 2, none⟩ = some (.int .i64 (bs.getD (k * 2) 0)) := by have h := HK.out.cellOf (HC.out (k * 2) (by omega)) id; simpa only [Nat.add_assoc] using h
    have q1 : wr.cell? ⟨b, off + k * 2 + 1, none⟩ = some (.int .i64 (bs.getD (k * 2 + 1) 0)) := by have h := HK.out.cellOf (HC.out (k * 2 + 1) (by omega)) id; simpa only [Nat.add_assoc] using h
    generalize bs.getD (k * 2) 0 = x0 at *
    generalize bs.getD (k * 2 + 1) 0 = x1 at *
    go_wp2
    go_quiet (fail)
    go_wp2
    go_roundw
    case rel => exact ⟨k + 1, by omega, by go_num, HK.out.drewN _⟩
    case measure => simp [intOf]; omega
   ·go_wp2
    go_ret
    exact ⟨rfl, HK.out⟩
def sh (r : Nat) : Nat := if r % 2 = 1 then r / 2 ^^^ 3988292384 else r / 2
section
variable {P : Program} {fi : Array Oper} {Q : Exit → Act → World → Prop} {md : Region.Mode} {S : World → Prop} {s : Nat}
def wpAnyV (P : Program) (md : Region.Mode) (fi : Array Oper) (Q : Exit → Act → World → Prop) (S : World → Prop) (s : Nat) : Nat → Array Bool → Act → World → Prop
 | 0, listed, a, w => Region.ready md fi listed = [] ∧ Q .normal a w
 | fuel + 1, listed, a, w =>
  (Region.ready md fi listed = [] → Q .normal a w) ∧
  ∀ i ∈ Region.ready md fi listed, wpOp P fi Q i (fun a' w' => (i ≠ s → S w') ∧ wpAnyV P md fi Q S s fuel (listed.setIfInBounds i true) a' w') a w
theorem wpAny_of_V : ∀ (fuel : Nat) (listed : Array Bool) (a : Act) (w : World), wpAnyV P md fi Q S s fuel listed a w → wpAny P md fi Q fuel listed a w
 | 0, _, _, _, h => h
 | fuel + 1, _, _, _, h => ⟨h.1, fun i hi => wpOp_mono (fun a' w' h' => wpAny_of_V fuel _ a' w' h'.2) (h.2 i hi)⟩
def waits (md : Region.Mode) (fi : Array Oper) (s i : Nat) : Bool :=
 match fi[s]? with
 | some o => o.after.any fun e => Region.binds md e && e.on == i
 | none => true
theorem waits_spec {i : Nat} (h : waits md fi s i = true) {os : Oper} (ho : fi[s]? = some os) (hn : ∀ e ∈ os.after, Region.binds md e = true → e.on ≠ i) : False := by
 unfold waits at h
 rw [ho] at h
 obtain ⟨e, he, hb⟩ := Array.any_eq_true'.1 h
 simp only [Bool.and_eq_true, beq_iff_eq] at hb
 exact hn e he hb.1 hb.2
theorem ready_apart {listed : Array Bool} {i j : Nat} (hi : i ∈ Region.ready md fi listed) (hj : j ∈ Region.ready md fi listed) {oj : Oper} (yZ : fi[j]? = some oj) :
  ∀ e ∈ oj.after, Region.binds md e = true → e.on ≠ i := by
 rintro e he hb rfl
 obtain ⟨_, o, ho, I2⟩ := mem_ready.1 hj
 obtain rfl : o = oj := by rw [yZ] at ho; exact (Option.some.inj ho).symm
 have T3 := I2 e he hb
 have lY := (mem_ready.1 hi).1
 by_cases hl : e.on < listed.size <;> simp_all
def Loose (md : Region.Mode) (fi : Array Oper) (i : Nat) (oi : Oper) (listed : Array Bool) : Prop :=
 ∀ j oj, fi[j]? = some oj → j ≠ i → listed.getD j true = false → (∀ e ∈ oj.after, Region.binds md e = true → e.on ≠ i) → oi.apart fi oj = true
theorem Loose.on {i j : Nat} {oi : Oper} {listed : Array Bool} (h : Loose md fi i oi listed) (hj : listed.getD j true = false) : Loose md fi i oi (listed.setIfInBounds j true) := fun k ok hk Ir Ak lY =>
 h k ok hk Ir (if e : j = k then e ▸ hj else (getD_set_ne true e) ▸ Ak) lY
theorem wpAnyV_first {i : Nat} {oi : Oper} {v : Value} (hi : fi[i]? = some oi) (C7 : ∀ (j : Nat) (o : Oper) cs b, fi[j]? = some o → o.op ≠ .select cs b) (hs : waits md fi s i = true)
  (hQ : ∀ c a w, Q (.panic c) (a.put oi.dst v) w → Q (.panic c) a w) (fuel : Nat) : ∀ (listed : Array Bool) (a : Act) (w : World), Loose md fi i oi listed → i ∈ Region.ready md fi listed → YieldsIf P fi S oi v a → S w →
   wpAnyV P md fi Q S s fuel (listed.setIfInBounds i true) (a.put oi.dst v) w → wpAnyV P md fi Q S s (fuel + 1) listed a w := by
 induction fuel with
 | zero =>
  intro listed a w _ hr hy hS H
  constructor
  ·intro h0; simp [h0] at hr
  ·intro j hj
   by_cases e : j = i
   ·exact e ▸ hy.wpOp hi hS ⟨fun _ => hS, H⟩
   ·have := ready_mono hj e
    simp [H.1] at this
 | succ fuel ih =>
  intro listed a w hl hr hy hS H
  constructor
  ·intro h0; simp [h0] at hr
  ·intro j hj
   by_cases e : j = i
   ·exact e ▸ hy.wpOp hi hS ⟨fun _ => hS, H⟩
   ·obtain ⟨Ak, oj, yZ, _⟩ := mem_ready.1 hj
    have NK := ready_apart hr hj yZ
    have Rw : j ≠ s := fun es => waits_spec hs (es ▸ yZ) NK
    refine wpOp_mono ?_ (wpOp_putIf yZ (hl j oj yZ e Ak NK) (fun cs b => C7 i oi cs b hi) (fun cs b => C7 j oj cs b yZ) hQ hy (H.2 j (ready_mono hj e)))
    rintro a' w' ⟨EP, Og, R6⟩
    exact ⟨Og, ih _ a' w' (hl.on Ak) (ready_mono hr (Ne.symm e)) EP (Og Rw) (by rw [Array.setIfInBounds_comm _ _ e]; exact R6)⟩
theorem wpAnyV_take {i : Nat} {oi : Oper} {v : Value} {fuel : Nat} {listed : Array Bool} {a : Act} {w : World} (d : Option Tmp) (hi : fi[i]? = some oi) (hd : oi.dst = d)
  (qU : Region.noSelect fi = true) (hf : Region.free md fi listed i = true) (hr : (Region.ready md fi listed).contains i = true) (hs : waits md fi s i = true)
  (hQ : ∀ c a w, Q (.panic c) (a.put d v) w → Q (.panic c) a w) (hy : YieldsIf P fi S oi v a) (hS : S w)
  (h : wpAnyV P md fi Q S s fuel (listed.setIfInBounds i true) (a.put d v) w) : wpAnyV P md fi Q S s (fuel + 1) listed a w := by
 subst hd
 exact wpAnyV_first hi (Region.noSelect_spec qU) hs hQ fuel listed a w (Region.free_spec hi hf) (by simpa using hr) hy hS h
theorem sA {α : Type} {l : List α} {i : Nat} {a : α} : l.toArray.setIfInBounds i a = (l.set i a).toArray := List.setIfInBounds_toArray ..
theorem s0 {α : Type} {x : α} {xs : List α} {a : α} : (x :: xs).set 0 a = a :: xs := List.set_cons_zero
theorem sS {α : Type} {x : α} {xs : List α} {i : Nat} {a : α} : (x :: xs).set (i + 1) a = x :: xs.set i a := List.set_cons_succ
theorem tk (i d : Nat) {oi : Oper} {v : Value} {fuel : Nat} {listed : Array Bool} {a a' : Act} {w : World} (hS : S w)
  (h : wpAnyV P md fi Q S s fuel (listed.setIfInBounds i true) a' w) (hi : fi[i]? = some oi := by rfl) (hg : Region.wanted oi (yielded fi a.tmps) = true := by rfl) (hd : oi.dst = some d := by rfl)
  (hy : ∀ w, S w → (execOp a.eval oi).run P w = .ok (.value v) w := by intro w lV; (try dsimp (config := { zetaDelta := true }) only at lV); go_simp; (try with_reducible rfl))
  (qU : Region.noSelect fi = true := by kernel_rfl) (hf : Region.free md fi listed i = true := by kernel_rfl) (hr : (Region.ready md fi listed).contains i = true := by kernel_rfl) (hs : waits md fi s i = true := by kernel_rfl)
  (hQ : ∀ c a w, Q (.panic c) (a.put (some d) v) w → Q (.panic c) a w := by exact fun _ _ _ h => h)
  (ha : a.put (some d) v = a' := by first | (simp only [Act.put, sA, s0, sS]; done) | (simp only [Act.put, sA, s0, sS]; rfl) | rfl) : wpAnyV P md fi Q S s (fuel + 1) listed a w :=
 wpAnyV_take (some d) hi hd qU hf hr hs hQ (Or.inl ⟨hg, hy⟩) hS (ha ▸ h)
theorem tkV (i d : Nat) (v : Value) {oi : Oper} {fuel : Nat} {listed : Array Bool} {a a' : Act} {w : World} (hS : S w)
  (h : wpAnyV P md fi Q S s fuel (listed.setIfInBounds i true) a' w) (hi : fi[i]? = some oi := by rfl) (hg : Region.wanted oi (yielded fi a.tmps) = true := by rfl) (hd : oi.dst = some d := by rfl)
  (hy : ∀ w, S w → (execOp a.eval oi).run P w = .ok (.value v) w := by intro w lV; (try dsimp (config := { zetaDelta := true }) only at lV); go_simp; (try omega))
  (qU : Region.noSelect fi = true := by kernel_rfl) (hf : Region.free md fi listed i = true := by kernel_rfl) (hr : (Region.ready md fi listed).contains i = true := by kernel_rfl) (hs : waits md fi s i = true := by kernel_rfl)
  (hQ : ∀ c a w, Q (.panic c) (a.put (some d) v) w → Q (.panic c) a w := by exact fun _ _ _ h => h)
  (ha : a.put (some d) v = a' := by first | (simp only [Act.put, sA, s0, sS]; done) | (simp only [Act.put, sA, s0, sS]; rfl) | rfl) : wpAnyV P md fi Q S s (fuel + 1) listed a w :=
 wpAnyV_take (some d) hi hd qU hf hr hs hQ (Or.inl ⟨hg, hy⟩) hS (ha ▸ h)
theorem tkS (i d : Nat) {oi : Oper} {fuel : Nat} {listed : Array Bool} {a a' : Act} {w : World} (hS : S w)
  (h : wpAnyV P md fi Q S s fuel (listed.setIfInBounds i true) a' w) (hi : fi[i]? = some oi := by rfl) (hg : Region.wanted oi (yielded fi a.tmps) = false := by rfl) (hd : oi.dst = some d := by rfl)
  (qU : Region.noSelect fi = true := by kernel_rfl) (hf : Region.free md fi listed i = true := by kernel_rfl) (hr : (Region.ready md fi listed).contains i = true := by kernel_rfl) (hs : waits md fi s i = true := by kernel_rfl)
  (hQ : ∀ c a w, Q (.panic c) (a.put (some d) undef) w → Q (.panic c) a w := by exact fun _ _ _ h => h)
  (ha : a.put (some d) undef = a' := by first | (simp only [Act.put, sA, s0, sS]; done) | (simp only [Act.put, sA, s0, sS]; rfl) | rfl) : wpAnyV P md fi Q S s (fuel + 1) listed a w :=
 wpAnyV_take (some d) hi hd qU hf hr hs hQ (Or.inr ⟨hg, rfl⟩) hS (ha ▸ h)
theorem wpAnyV_one {i : Nat} {o : Oper} {fuel : Nat} {listed : Array Bool} {a : Act} {w : World} (hr : Region.ready md fi listed = [i]) (ho : fi[i]? = some o)
  (h : ∀ K' : Act → World → Prop, Shut (∀ a w, (i ≠ s → S w) → wpAnyV P md fi Q S s fuel (listed.setIfInBounds i true) a w → K' a w) → if Region.wanted o (yielded fi a.tmps) = true then Oper.wp P o a w K' Q else K' (a.put o.dst undef) w) :
  wpAnyV P md fi Q S s (fuel + 1) listed a w := by
 constructor
 ·intro h0; simp [hr] at h0
 ·intro j hj
  rw [hr] at hj
  obtain rfl : j = i := by simpa using hj
  exact wpOp_step ho (fun K' hK => h K' (fun a w hS hW => hK a w ⟨hS, hW⟩))
theorem wpAnyV_two {i j : Nat} {o o' : Oper} {fuel : Nat} {listed : Array Bool} {a : Act} {w : World} (hr : Region.ready md fi listed = [i, j]) (ho : fi[i]? = some o) (TK : fi[j]? = some o')
  (h : ∀ K' : Act → World → Prop, Shut (∀ a w, (i ≠ s → S w) → wpAnyV P md fi Q S s fuel (listed.setIfInBounds i true) a w → K' a w) → if Region.wanted o (yielded fi a.tmps) = true then Oper.wp P o a w K' Q else K' (a.put o.dst undef) w)
  (h' : ∀ K' : Act → World → Prop, Shut (∀ a w, (j ≠ s → S w) → wpAnyV P md fi Q S s fuel (listed.setIfInBounds j true) a w → K' a w) → if Region.wanted o' (yielded fi a.tmps) = true then Oper.wp P o' a w K' Q else K' (a.put o'.dst undef) w) :
  wpAnyV P md fi Q S s (fuel + 1) listed a w := by
 constructor
 ·intro h0; simp [hr] at h0
 ·intro k hk
  rw [hr] at hk
  simp only [List.mem_cons, List.not_mem_nil, or_false] at hk
  rcases hk with rfl | rfl
  ·exact wpOp_step ho (fun K' hK => h K' (fun a w hS hW => hK a w ⟨hS, hW⟩))
  ·exact wpOp_step TK (fun K' hK => h' K' (fun a w hS hW => hK a w ⟨hS, hW⟩))
theorem wpAnyV_done {fuel : Nat} {listed : Array Bool} {a : Act} {w : World} (hr : Region.ready md fi listed = []) (h : Q .normal a w) : wpAnyV P md fi Q S s fuel listed a w := by
 cases fuel with
 | zero => exact ⟨hr, h⟩
 | succ n => exact ⟨fun _ => h, by rw [hr]; simp⟩
theorem wp_region_V {id : Nat} {a : Act} {w : World} (S : World → Prop) (s n : Nat) (hn : fi.size = n) (hm : P.follows .mixedOrders = true) (h : wpAnyV P .any fi Q S s n (Array.replicate n false) a w.drew) : (Code.region id fi true).wp P Q a w := by
 subst hn
 exact wp_region_any hm (wpAny_of_V _ _ _ _ h)
end
def lows (v : Int) : Nat → List Int
 | 0 => []
 | k + 1 => (v / 256 ^ k % 256) :: lows v k
theorem lows_length (v : Int) (k : Nat) : (lows v k).length = k := by
 induction k with
 | zero => rfl
 | succ k ih => simp [lows, ih]
theorem pow_step (v : Int) (k : Nat) : v / 256 ^ k / 256 = v / 256 ^ (k + 1) := by
 rw [Int.ediv_ediv_of_nonneg (Int.le_of_lt (Int.pow_pos (by decide))), Int.pow_succ]
theorem writeNumber_any (g o n c : Nat) (t : TypeId) (xs : List Value) (v : Int) (w : World) (hb : Blk w g t xs) (ho : o + n ≤ xs.length) (h0 : 0 ≤ v) (hi : v ≤ 9223372036854775807) (hn : n ≤ 1099511627776) :
  Calls Tryz.prog 175 #[.slice (some ⟨g, o, none⟩) n c, .int .i64 v] w fun e w' => e = .returned (.tuple #[]) ∧ Blk w' g t (lay xs o (vals .u8 (lows v n))) ∧ Kept (fun b => b = g) w w' := by
 have HB := (show Hid (Blk w g t xs) from hb)
 clear hb
 go_enter Tryz.func175, Tryz.ntmps175
 go_wp2
 go_loopw [1, 4] (fun x i wr => ∃ k : Nat, k ≤ n ∧ x = .int .i64 (v / 256 ^ k) ∧ i = .int .i64 ((n : Int) - k - 1) ∧ Hid (Blk wr g t (lay xs (o + (n - k)) (vals .u8 (lows v k)))) ∧ Hid (Kept (fun b => b = g) w wr)) (fun _ i _ => (intOf i + 1).toNat)
 case atStart => exact ⟨0, Nat.zero_le _, by simp, by simp, by simpa [lows, vals, lay_nil] using HB, Kept.refl _ _⟩
 case round =>
  obtain ⟨k, hk, rfl, rfl, zE, ef⟩ := hrel
  by_cases dh : k < n
  ·obtain ⟨j, rfl⟩ : ∃ j : Nat, n = k + 1 + j := ⟨n - k - 1, by omega⟩
   have ej : ((k + 1 + j : Nat) : Int) - k - 1 = j := by omega
   have el : (lay xs (o + (k + 1 + j - k)) (vals .u8 (lows v k))).length = xs.length := lay_length _ _ _ (by rw [vals_length, lows_length]; omega)
   have q2 := zE.out.frozen (o + j)
   have q3 := zE.out.cell (o + j)
   rw [List.getElem?_eq_getElem (by rw [el]; omega)] at q3
   have lz : 0 ≤ v / 256 ^ k := Int.ediv_nonneg h0 (Int.le_of_lt (Int.pow_pos (by decide)))
   have VL : v / 256 ^ k ≤ v := Int.ediv_le_self _ h0
   have pV : Hid (v / 256 ^ k / 256 = v / 256 ^ (k + 1)) := pow_step v k
   have TA : Hid ((lay xs (o + j + 1) (vals .u8 (lows v k))).set (o + j) (.int .u8 (v / 256 ^ k % 256)) = lay xs (o + j) (vals .u8 (lows v (k + 1)))) := lay_set xs (o + j) _ (vals .u8 (lows v k)) (by rw [vals_length, lows_length]; omega)
   rw [ej]
   obtain ⟨z, hz⟩ : ∃ z, (lay xs (o + (k + 1 + j - k)) (vals .u8 (lows v k)))[o + j]'(by rw [el]; omega) = z := ⟨_, rfl⟩
   rw [hz] at q3
   clear hz el
   generalize hx : v / 256 ^ k = x at *
   clear hx
   go_wp2
   go_roundw
   case rel =>
    have h := zE.out.stored (o + j) (.int .u8 (x % 256))
    rw [show o + (k + 1 + j - k) = o + j + 1 from by omega, TA.out] at h
    refine ⟨k + 1, by omega, by rw [← pV.out], by go_num, ?_, Kept.setCell (R := fun b => b = g) ef.out (.inr rfl) _⟩
    rw [show o + (k + 1 + j - (k + 1)) = o + j from by omega]
    exact h
   case measure => simp [intOf]
  ·obtain rfl : k = n := by omega
   have ej : ((k : Nat) : Int) - k - 1 = -1 := by omega
   rw [ej]
   generalize hx : v / 256 ^ k = x at *
   go_wp2
   go_end0
   have h := zE.out
   rw [Nat.sub_self] at h
   exact ⟨rfl, h, ef.out⟩
end Go.Proofs.YtepdakgfioffgaaGreat
