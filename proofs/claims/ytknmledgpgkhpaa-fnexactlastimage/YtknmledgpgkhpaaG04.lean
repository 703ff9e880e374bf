import Derived.Test.YtknmledgpgkhpaaG01
import Derived.Test.YtknmledgpgkhpaaTyLogFrame
import Derived.Test.YtknmledgpgkhpaaG00
import Derived.WalkKit
import Derived.OrdersHeld
import Derived.Deep.RegionHeld3
import Derived.RangeFuncWrites
import Derived.RangeFuncCalls
import Derived.RangeFuncLeaves
import Derived.TacticsIn
import Derived.OrdersIn
import Derived.Tactics
import Derived.Tactics2
import Derived.Defers
import Derived.Laws.Pointers
import Derived.Laws.LoneSync
import Derived.RegionTactic
import Derived.RegionCalls
import Derived.Laws.BitsLemmas
import Derived.Laws.Bits64
namespace Go.Proofs.Ytknmledgpgkhpaa
set_option maxRecDepth 100000
set_option maxHeartbeats 8000000
open Go Go.RowKit
set_option linter.unusedVariables false
set_option linter.unusedSimpArgs false
def StLogFrame.cells (x : StLogFrame) : List Value := [.int .i64 x.lsn, .int .i64 x.epoch, .int .i64 x.record.kind, .int .i64 x.record.txn, .int .i64 x.record.prev, .int .i64 x.record.page, .int .i64 x.record.slot, .bool x.record.before.used, x.record.before.data.v, .bool x.record.after.used, x.record.after.data.v, .int .i64 x.record.uN, .int .i64 x.record.nT, x.record.txns.v, x.record.dirty.v, x.record.image.v]
def kFr : RowK StLogFrame := ⟨16, StLogFrame.cells, fun _ => rfl, fun _ => .slice none 0 0, fun _ => []⟩
def zFr : StLogFrame := ⟨0, 0, ⟨0, 0, 0, 0, 0, ⟨false, ⟨0, none, 0, []⟩⟩, ⟨false, ⟨0, none, 0, []⟩⟩, 0, 0, ⟨0, none, 0, 0, []⟩, ⟨0, none, 0, 0, []⟩, ⟨0, none, 0, []⟩⟩⟩
def datFr (ps : List StLogFrame) := ps.map StLogFrame.dat
def szsFr (ps : List StLogFrame) := ps.map StLogFrame.szs
def frRows (ps : List StLogFrame) : List Row := ps.flatMap StLogFrame.rows
theorem datFr_length (ps : List StLogFrame) : (datFr ps).length = ps.length := by simp [datFr]
theorem datFr_at {ps qs : List StLogFrame} (h : datFr ps = datFr qs) (k : Nat) (h1 : k < ps.length) (h2 : k < qs.length) : ps[k].dat = qs[k].dat := by
  have e : (datFr ps)[k]'(by rw [datFr_length]; exact h1) = (datFr qs)[k]'(by rw [datFr_length]; exact h2) := by simp only [h]
  simpa [datFr] using e
theorem frRows_append (ps qs : List StLogFrame) : frRows (ps ++ qs) = frRows ps ++ frRows qs := by simp [frRows]
theorem frRows_cons (p : StLogFrame) (ps : List StLogFrame) : frRows (p :: ps) = p.rows ++ frRows ps := by simp [frRows]
theorem footRows_mem {ps : List StLogFrame} {b : Nat} : FootL (frRows ps) b ↔ ∃ p ∈ ps, FootL p.rows b := by
  unfold FootL frRows
  constructor
  · rintro ⟨r, hr, hb⟩
    obtain ⟨p, hp, hr⟩ := List.mem_flatMap.1 hr
    exact ⟨p, hp, r, hr, hb⟩
  · rintro ⟨p, hp, r, hr, hb⟩
    exact ⟨r, List.mem_flatMap.2 ⟨p, hp, hr⟩, hb⟩
structure OwnFr (w : World) (v : Value) (ps : List StLogFrame) : Prop where
  own : OwnR kFr 0 74 5 w v ps
  rows : OwnL w (frRows ps)
  out : ∀ b, v.ownBlock = some b → ¬ FootL (frRows ps) b
def footFr (v : Value) (ps : List StLogFrame) (b : Nat) : Prop := v.ownBlock = some b ∨ FootL (frRows ps) b
structure RdFr (w : World) (v : Value) (ps : List StLogFrame) : Prop where
  row : RdR kFr w v ps
  data : ∀ p ∈ ps, StLogFrame.rd w p
theorem footFr_head {v : Value} {ps : List StLogFrame} {b : Nat} (h : footR kFr v ps b) : v.ownBlock = some b := by
  rcases h with h | ⟨p, _, h⟩
  · exact h
  · simp [kFr, Value.ownBlock] at h
theorem OwnFr.kept {R : Nat → Prop} {w w' : World} {v : Value} {ps : List StLogFrame} (h : OwnFr w v ps) (hk : Kept R w w') (hr : ∀ b, footFr v ps b → ¬ R b) : OwnFr w' v ps :=
  ⟨h.own.kept hk (fun b hb => hr b (.inl (footFr_head hb))), h.rows.kept hk (fun b hb => hr b (.inr hb)), h.out⟩
theorem OwnFr.same {w w' : World} {v : Value} {ps : List StLogFrame} (h : OwnFr w v ps) (hk : Same w w') : OwnFr w' v ps := h.kept hk (fun _ _ => id)
theorem OwnFr.lt {w : World} {v : Value} {ps : List StLogFrame} (h : OwnFr w v ps) (b : Nat) (hb : footFr v ps b) : b < w.heap.size := by
  rcases hb with hb | hb
  · exact (h.own.lt b (.inl hb)).2
  · exact h.rows.lt b hb
theorem OwnL.mem {w : World} {ps : List StLogFrame} (h : OwnL w (frRows ps)) (p : StLogFrame) (hp : p ∈ ps) : OwnL w p.rows := by
  obtain ⟨a, c, rfl⟩ := List.append_of_mem hp
  rw [frRows_append, frRows_cons] at h
  exact h.right.left
theorem OwnFr.rd {w : World} {v : Value} {ps : List StLogFrame} (h : OwnFr w v ps) : RdFr w v ps := ⟨h.own.rd, fun p hp => StLogFrame.own_rd (h.rows.mem p hp)⟩
theorem RdFr.same {w w' : World} {v : Value} {ps : List StLogFrame} (h : RdFr w v ps) (hk : Same w w') : RdFr w' v ps := ⟨h.row.same hk, fun p hp => (h.data p hp).same hk⟩
theorem RdFr.form {w : World} {v : Value} {ps : List StLogFrame} (h : RdFr w v ps) : ∃ a c, v = .slice a ps.length c := h.row.form
def sizeFr : List StLogFrame → Int
  | [] => 0
  | p :: ps => p.szs + sizeFr ps
theorem sizeFr_append (ps qs : List StLogFrame) : sizeFr (ps ++ qs) = sizeFr ps + sizeFr qs := by
  induction ps with
  | nil => simp [sizeFr]
  | cons p ps ih => simp only [List.cons_append, sizeFr, ih]; omega
theorem sizeFr_step (ps : List StLogFrame) (j : Nat) (h : j < ps.length) : sizeFr (ps.take (j + 1)) = sizeFr (ps.take j) + ps[j].szs := by
  rw [List.take_succ_eq_append_getElem h, sizeFr_append]
  simp [sizeFr]
theorem sizeFr_nonneg (ps : List StLogFrame) : 0 ≤ sizeFr ps := by
  induction ps with
  | nil => exact Int.le_refl _
  | cons p ps ih => have := p.szs_le; simp only [sizeFr]; omega
theorem sizeFr_mem (ps : List StLogFrame) (p : StLogFrame) (h : p ∈ ps) : p.szs ≤ sizeFr ps := by
  induction ps with
  | nil => simp at h
  | cons q ps ih =>
    have h1 := sizeFr_nonneg ps
    have h2 := q.szs_le
    rcases List.mem_cons.1 h with rfl | h
    · simp only [sizeFr]; omega
    · have := ih h; simp only [sizeFr]; omega
theorem sizeFr_szs {ps qs : List StLogFrame} (h : szsFr qs = szsFr ps) : sizeFr qs = sizeFr ps := by
  have key : ∀ rs : List StLogFrame, sizeFr rs = (szsFr rs).sum := fun rs => by
    induction rs with
    | nil => rfl
    | cons p rs ih => simp only [sizeFr, szsFr, List.map_cons, List.sum_cons]; rw [ih]; rfl
  rw [key, key, h]
def mzFr : List StLogFrame → Int
  | [] => 0
  | p :: ps => 11 + p.size + mzFr ps
theorem mzFr_append (ps qs : List StLogFrame) : mzFr (ps ++ qs) = mzFr ps + mzFr qs := by
  induction ps with
  | nil => simp [mzFr]
  | cons p ps ih => simp only [List.cons_append, mzFr, ih]; omega
theorem mzFr_step (ps : List StLogFrame) (j : Nat) (h : j < ps.length) : mzFr (ps.take (j + 1)) = mzFr (ps.take j) + 11 + ps[j].size := by
  rw [List.take_succ_eq_append_getElem h, mzFr_append]
  simp only [mzFr]
  omega
theorem mzFr_nonneg (ps : List StLogFrame) : 0 ≤ mzFr ps := by
  induction ps with
  | nil => exact Int.le_refl _
  | cons p ps ih => have := p.size_le; simp only [mzFr]; omega
theorem mzFr_take_le (ps : List StLogFrame) (j : Nat) : mzFr (ps.take j) ≤ mzFr ps := by
  have h := mzFr_append (ps.take j) (ps.drop j)
  rw [List.take_append_drop] at h
  have := mzFr_nonneg (ps.drop j)
  omega
theorem StLogFrame.size_rd {w : World} {x : StLogFrame} (h : StLogFrame.rd w x) : x.size ≤ 4 * x.szs := by
  have h1 := h.2.2.1.2.1
  have h2 := h.2.2.2.1.2.1
  simp only [StLogFrame.size, StLogFrame.szs, StLogRecord.size, StLogRecord.szs, StPageRecord.size, StPageRecord.szs]
  omega
theorem mzFr_rd {w : World} {ps : List StLogFrame} (h : ∀ p ∈ ps, StLogFrame.rd w p) : mzFr ps ≤ 11 * ps.length + 4 * sizeFr ps := by
  induction ps with
  | nil => simp [mzFr, sizeFr]
  | cons p ps ih =>
    have h1 := ih (fun q hq => h q (List.mem_cons_of_mem _ hq))
    have h2 := StLogFrame.size_rd (h p (List.mem_cons_self ..))
    simp only [mzFr, sizeFr, List.length_cons]
    push_cast
    omega
end Go.Proofs.Ytknmledgpgkhpaa

namespace Go.Proofs.Ytknmledgpgkhpaa
set_option maxRecDepth 100000
set_option maxHeartbeats 2000000
open Go.ChangeShapes Go.WideShapes Go.ChangeAt Go.RowKit
set_option linter.unusedVariables false
set_option linter.unusedSimpArgs false
theorem flat_length (f : Nat → List Int) (m : Nat) : ∀ n, (∀ i, i < n → (f i).length = m) → ((List.range n).flatMap f).length = n * m
  | 0, _ => by simp
  | n + 1, h => by
    rw [List.range_succ, List.flatMap_append, List.length_append, flat_length f m n (fun i hi => h i (by omega))]
    simp [h n (by omega), Nat.succ_mul]
theorem flat_at (f : Nat → List Int) (m : Nat) : ∀ n, 0 < m → (∀ i, i < n → (f i).length = m) → ∀ i, i < n * m → ((List.range n).flatMap f).getD i 0 = (f (i / m)).getD (i % m) 0
  | 0, _, _, i, hi => by simp at hi
  | n + 1, hm, h, i, hi => by
    rw [List.range_succ, List.flatMap_append]
    have hl := flat_length f m n (fun i hi => h i (by omega))
    by_cases h1 : i < n * m
    · have h2 := flat_at f m n hm (fun i hi => h i (by omega)) i h1
      rw [← h2]
      simp only [List.getD]
      rw [List.getElem?_append_left (by omega)]
    · have h3 : i < n * m + m := by rw [Nat.succ_mul] at hi; exact hi
      have hd : i / m = n := by
        rw [Nat.div_eq_iff hm]
        constructor <;> omega
      have hmod : i % m = i - n * m := by
        have := Nat.div_add_mod i m
        rw [hd, Nat.mul_comm] at this
        omega
      rw [hd, hmod]
      simp only [List.getD]
      rw [List.getElem?_append_right (by omega), hl]
      simp
section
variable {H : Type} {enc : TypeId × Value → H} {w : World} {base : Nat} {spare : Nat → Bool} {held : Bool}
theorem read_flat {t e : TypeId} {m : Nat} (hm0 : 0 < m) (ht : Try.prog.underlying t = some (.slice e)) (hc : Try.prog.cellsOf e = m)
    (he : ∀ (n : Nat) (cs : List Value) (x : DataW H × List MemPlace), DataW.trod enc Try.prog w base spare held n e cs = some x → ∃ ns : List Int, cs = vals .i64 ns ∧ ns.length = m)
    {fuel : Nat} {v : Value} {x : DataW H × List MemPlace} (h : DataW.trod enc Try.prog w base spare held fuel t [v] = some x) : ∃ y : FR, v = y.v ∧ RdF m w y := by
  rcases Deep.open_slice ht h with ⟨hcs, _⟩ | ⟨a, len, cap, m', n, D, Pl, hcs, hb, hl, hm, hmm, _, hx⟩
  · simp at hcs
    subst hcs
    exact ⟨⟨0, none, 0, 0, []⟩, rfl, Nat.zero_le _, by simp, .inl rfl⟩
  · simp at hcs
    subst hcs
    have hlm : len ≤ m' := by rw [hmm]; split <;> omega
    have each : ∀ i, i < len → ∃ ns : List Int, ns.length = m ∧ ∀ j, j < m → w.cell? ((a.add (i * m)).add j) = some (.int .i64 (ns.getD j 0)) := fun i hi => by
      obtain ⟨cs', h1, h2⟩ := hx i (by omega)
      rw [hc] at h1
      obtain ⟨_, hlen, hcell⟩ := World.cells?_some h1
      obtain ⟨ns, rfl, hns⟩ := he _ _ _ h2
      refine ⟨ns, hns, fun j hj => ?_⟩
      have := hcell j (by omega)
      rw [this, vals_at _ _ _ (by omega)]
    obtain ⟨f, hf⟩ := Deep.choose_lt each
    by_cases h0 : len = 0
    · subst h0
      exact ⟨⟨0, some a, 0, cap, []⟩, rfl, Nat.zero_le _, by simp, .inl rfl⟩
    · have ha : ∃ b off, a = ⟨b, off, none⟩ := by
        have h1 := (hf 0 (by omega)).2 0 hm0
        rw [Nat.zero_mul] at h1
        have e0 : a.add 0 = a := by cases a; simp [Addr.add]
        rw [e0] at h1
        exact addr_form (a := a) h1
      obtain ⟨b, off, rfl⟩ := ha
      refine ⟨⟨0, some ⟨b, off, none⟩, len, cap, (List.range len).flatMap f⟩, rfl, by dsimp only; omega, ?_, .inr ⟨b, off, rfl, hl, fun i hi => ?_⟩⟩
      · dsimp only
        exact flat_length f m len (fun i hi => (hf i hi).1)
      · dsimp only at hi ⊢
        have hdiv : i / m < len := (Nat.div_lt_iff_lt_mul hm0).2 hi
        have h1 := (hf (i / m) hdiv).2 (i % m) (Nat.mod_lt _ hm0)
        rw [add_none, add_none] at h1
        rw [flat_at f m len hm0 (fun i hi => (hf i hi).1) i hi]
        have e : off + i = off + i / m * m + i % m := by
          have := Nat.div_add_mod i m
          rw [Nat.mul_comm] at this
          omega
        rw [e]
        exact h1
theorem ints_cells {e : TypeId} {fs : Array Field} (m : Nat) (hs : Try.prog.underlying e = some (.struct fs)) (hsz : fs.size = m) (hc : Try.prog.cellsOf e = m)
    (hf : ∀ (i : Nat) (f : Field), fs[i]? = some f → f.type = 2 ∧ f.offset = i) (n : Nat) (cs : List Value) (x : DataW H × List MemPlace) (h : DataW.trod enc Try.prog w base spare held n e cs = some x) :
    ∃ ns : List Int, cs = vals .i64 ns ∧ ns.length = m := by
  obtain ⟨xs, k, _, _, hl, hxl, hg⟩ := DataW.trod_struct hs h
  have each : ∀ i, i < m → ∃ z : Int, cs[i]? = some (.int .i64 z) := fun i hi => by
    have hi' : i < fs.size := by omega
    obtain ⟨h1, h2⟩ := hf i fs[i] (by simp [hi'])
    have h3 := hg i fs[i] (by simp [hi'])
    rw [h1, h2, show Try.prog.cellsOf 2 = 1 from by kernel_rfl] at h3
    have h4 : xs[i]? = some xs[i] := by simp [hxl, hi']
    rw [h4] at h3
    obtain ⟨z, hz, _, _⟩ := DataW.trod_int Try.underlying2 h3
    refine ⟨z, ?_⟩
    have h5 := congrArg (fun l => l[0]?) hz
    simpa [List.getElem?_take, List.getElem?_drop] using h5
  obtain ⟨g, hg2⟩ := Deep.choose_lt each
  refine ⟨(List.range m).map g, ?_, by simp⟩
  apply List.ext_getElem?
  intro i
  by_cases hi : i < m
  · rw [hg2 i hi]
    simp [vals, hi]
  · rw [List.getElem?_eq_none (by rw [hl, hc]; omega), List.getElem?_eq_none (by simp [vals]; omega)]
theorem read_slotRecord {n : Nat} {c0 c1 : Value} {x : DataW H × List MemPlace} (h : DataW.trod enc Try.prog w base spare held n 95 [c0, c1] = some x) :
    ∃ y : StPageRecord, c0 = .bool y.used ∧ c1 = y.data.v ∧ StPageRecord.rd w y ∧ IsB y.data.bs := by
  obtain ⟨y0, y1, k, _, _, h0, h1⟩ := trod_struct2 Try.underlying95 h
  have h0' : DataW.trod enc Try.prog w base spare held k 4 [c0] = some y0 := h0
  have h1' : DataW.trod enc Try.prog w base spare held k 22 [c1] = some y1 := h1
  obtain ⟨b, hb, _⟩ := DataW.trod_bool Try.underlying4 h0'
  obtain ⟨bs, hbs, hB⟩ := read_intsB Try.underlying22 Try.underlying5 (by kernel_rfl) h1'
  obtain ⟨a, c, rfl⟩ := hbs.form
  simp at hb
  exact ⟨⟨b, ⟨0, a, c, bs⟩⟩, hb, rfl, hbs, fun x hx => by have := hB x hx; exact ⟨this.1, this.2⟩⟩
def StLogFrame.isB (p : StLogFrame) : Prop := IsB p.record.before.data.bs ∧ IsB p.record.after.data.bs ∧ IsB p.record.image.bs
theorem read_logRecord {m : Nat} {c0 c1 c2 c3 c4 c5 c6 c7 c8 c9 c10 c11 c12 c13 : Value} {x : DataW H × List MemPlace} (h : DataW.trod enc Try.prog w base spare held m 98 [c0, c1, c2, c3, c4, c5, c6, c7, c8, c9, c10, c11, c12, c13] = some x) :
    ∃ x : StLogRecord, [c0, c1, c2, c3, c4, c5, c6, c7, c8, c9, c10, c11, c12, c13] = [.int .i64 x.kind, .int .i64 x.txn, .int .i64 x.prev, .int .i64 x.page, .int .i64 x.slot, .bool x.before.used, x.before.data.v, .bool x.after.used, x.after.data.v, .int .i64 x.uN, .int .i64 x.nT, x.txns.v, x.dirty.v, x.image.v] ∧ StLogRecord.rd w x ∧ IsB x.before.data.bs ∧ IsB x.after.data.bs ∧ IsB x.image.bs := by
  obtain ⟨xs, n, _, _, _, hxl, hg⟩ := DataW.trod_struct Try.underlying98 h
  have g0 : ∃ x, DataW.trod enc Try.prog w base spare held n 2 [c0] = some x := ⟨xs[0]'(by rw [hxl]; decide), by have h := hg 0 _ rfl; rw [List.getElem?_eq_getElem (by rw [hxl]; decide)] at h; exact h⟩
  obtain ⟨x0, g0⟩ := g0
  obtain ⟨z0, e0, _, _⟩ := DataW.trod_int Try.underlying2 g0
  simp at e0
  subst e0
  have g1 : ∃ x, DataW.trod enc Try.prog w base spare held n 2 [c1] = some x := ⟨xs[1]'(by rw [hxl]; decide), by have h := hg 1 _ rfl; rw [List.getElem?_eq_getElem (by rw [hxl]; decide)] at h; exact h⟩
  obtain ⟨x1, g1⟩ := g1
  obtain ⟨z1, e1, _, _⟩ := DataW.trod_int Try.underlying2 g1
  simp at e1
  subst e1
  have g2 : ∃ x, DataW.trod enc Try.prog w base spare held n 2 [c2] = some x := ⟨xs[2]'(by rw [hxl]; decide), by have h := hg 2 _ rfl; rw [List.getElem?_eq_getElem (by rw [hxl]; decide)] at h; exact h⟩
  obtain ⟨x2, g2⟩ := g2
  obtain ⟨z2, e2, _, _⟩ := DataW.trod_int Try.underlying2 g2
  simp at e2
  subst e2
  have g3 : ∃ x, DataW.trod enc Try.prog w base spare held n 2 [c3] = some x := ⟨xs[3]'(by rw [hxl]; decide), by have h := hg 3 _ rfl; rw [List.getElem?_eq_getElem (by rw [hxl]; decide)] at h; exact h⟩
  obtain ⟨x3, g3⟩ := g3
  obtain ⟨z3, e3, _, _⟩ := DataW.trod_int Try.underlying2 g3
  simp at e3
  subst e3
  have g4 : ∃ x, DataW.trod enc Try.prog w base spare held n 2 [c4] = some x := ⟨xs[4]'(by rw [hxl]; decide), by have h := hg 4 _ rfl; rw [List.getElem?_eq_getElem (by rw [hxl]; decide)] at h; exact h⟩
  obtain ⟨x4, g4⟩ := g4
  obtain ⟨z4, e4, _, _⟩ := DataW.trod_int Try.underlying2 g4
  simp at e4
  subst e4
  have g5 : ∃ x, DataW.trod enc Try.prog w base spare held n 95 [c5, c6] = some x := ⟨xs[5]'(by rw [hxl]; decide), by have h := hg 5 _ rfl; rw [List.getElem?_eq_getElem (by rw [hxl]; decide)] at h; exact h⟩
  obtain ⟨x5, g5⟩ := g5
  obtain ⟨y5, rfl, rfl, r5, B5⟩ := read_slotRecord g5
  have g6 : ∃ x, DataW.trod enc Try.prog w base spare held n 95 [c7, c8] = some x := ⟨xs[6]'(by rw [hxl]; decide), by have h := hg 6 _ rfl; rw [List.getElem?_eq_getElem (by rw [hxl]; decide)] at h; exact h⟩
  obtain ⟨x6, g6⟩ := g6
  obtain ⟨y6, rfl, rfl, r6, B6⟩ := read_slotRecord g6
  have g7 : ∃ x, DataW.trod enc Try.prog w base spare held n 2 [c9] = some x := ⟨xs[7]'(by rw [hxl]; decide), by have h := hg 7 _ rfl; rw [List.getElem?_eq_getElem (by rw [hxl]; decide)] at h; exact h⟩
  obtain ⟨x7, g7⟩ := g7
  obtain ⟨z7, e7, _, _⟩ := DataW.trod_int Try.underlying2 g7
  simp at e7
  subst e7
  have g8 : ∃ x, DataW.trod enc Try.prog w base spare held n 2 [c10] = some x := ⟨xs[8]'(by rw [hxl]; decide), by have h := hg 8 _ rfl; rw [List.getElem?_eq_getElem (by rw [hxl]; decide)] at h; exact h⟩
  obtain ⟨x8, g8⟩ := g8
  obtain ⟨z8, e8, _, _⟩ := DataW.trod_int Try.underlying2 g8
  simp at e8
  subst e8
  have g9 : ∃ x, DataW.trod enc Try.prog w base spare held n 45 [c11] = some x := ⟨xs[9]'(by rw [hxl]; decide), by have h := hg 9 _ rfl; rw [List.getElem?_eq_getElem (by rw [hxl]; decide)] at h; exact h⟩
  obtain ⟨x9, g9⟩ := g9
  obtain ⟨y9, rfl, r9⟩ := read_flat (m := 4) (by decide) Try.underlying45 (by kernel_rfl) (ints_cells 4 Try.underlying113 rfl (by kernel_rfl) (fun i f hi => by
    match i, hi with
    | 0, hi => simp at hi; subst hi; exact ⟨rfl, rfl⟩
    | 1, hi => simp at hi; subst hi; exact ⟨rfl, rfl⟩
    | 2, hi => simp at hi; subst hi; exact ⟨rfl, rfl⟩
    | 3, hi => simp at hi; subst hi; exact ⟨rfl, rfl⟩
    | j + 4, hi => simp at hi)) g9
  have g10 : ∃ x, DataW.trod enc Try.prog w base spare held n 96 [c12] = some x := ⟨xs[10]'(by rw [hxl]; decide), by have h := hg 10 _ rfl; rw [List.getElem?_eq_getElem (by rw [hxl]; decide)] at h; exact h⟩
  obtain ⟨x10, g10⟩ := g10
  obtain ⟨y10, rfl, r10⟩ := read_flat (m := 2) (by decide) Try.underlying96 (by kernel_rfl) (ints_cells 2 Try.underlying192 rfl (by kernel_rfl) (fun i f hi => by
    match i, hi with
    | 0, hi => simp at hi; subst hi; exact ⟨rfl, rfl⟩
    | 1, hi => simp at hi; subst hi; exact ⟨rfl, rfl⟩
    | j + 2, hi => simp at hi)) g10
  have g11 : ∃ x, DataW.trod enc Try.prog w base spare held n 22 [c13] = some x := ⟨xs[11]'(by rw [hxl]; decide), by have h := hg 11 _ rfl; rw [List.getElem?_eq_getElem (by rw [hxl]; decide)] at h; exact h⟩
  obtain ⟨x11, g11⟩ := g11
  obtain ⟨b11, r11, B11⟩ := read_intsB Try.underlying22 Try.underlying5 (by kernel_rfl) g11
  obtain ⟨a11, k11, rfl⟩ := r11.form
  exact ⟨⟨z0, z1, z2, z3, z4, y5, y6, z7, z8, y9, y10, ⟨0, a11, k11, b11⟩⟩, rfl, ⟨r5, r6, r9, r10, r11⟩, B5, B6, fun x hx => by have := B11 x hx; exact ⟨this.1, this.2⟩⟩
instance : Inhabited StLogFrame := ⟨zFr⟩
theorem list16 {cs : List Value} (h : cs.length = 16) : ∃ a0 a1 c0 c1 c2 c3 c4 c5 c6 c7 c8 c9 c10 c11 c12 c13, cs = [a0, a1, c0, c1, c2, c3, c4, c5, c6, c7, c8, c9, c10, c11, c12, c13] := by
  match cs, h with
  | [a0, a1, c0, c1, c2, c3, c4, c5, c6, c7, c8, c9, c10, c11, c12, c13], _ => exact ⟨a0, a1, c0, c1, c2, c3, c4, c5, c6, c7, c8, c9, c10, c11, c12, c13, rfl⟩
theorem read_logFrame (n : Nat) (cs : List Value) (x : DataW H × List MemPlace) (hl : cs.length = 16) (h : DataW.trod enc Try.prog w base spare held n 100 cs = some x) :
    ∃ p : StLogFrame, cs = kFr.cells p ∧ Rd .u8 w (kFr.v p) (kFr.bs p) ∧ StLogFrame.rd w p ∧ p.isB := by
  obtain ⟨a0, a1, c0, c1, c2, c3, c4, c5, c6, c7, c8, c9, c10, c11, c12, c13, rfl⟩ := list16 hl
  obtain ⟨xs, n, _, _, _, hxl, hg⟩ := DataW.trod_struct Try.underlying100 h
  have g0 : ∃ x, DataW.trod enc Try.prog w base spare held n 2 [a0] = some x := ⟨xs[0]'(by rw [hxl]; decide), by have h := hg 0 _ rfl; rw [List.getElem?_eq_getElem (by rw [hxl]; decide)] at h; exact h⟩
  obtain ⟨x0, g0⟩ := g0
  obtain ⟨z0, e0, _, _⟩ := DataW.trod_int Try.underlying2 g0
  simp at e0
  subst e0
  have g1 : ∃ x, DataW.trod enc Try.prog w base spare held n 2 [a1] = some x := ⟨xs[1]'(by rw [hxl]; decide), by have h := hg 1 _ rfl; rw [List.getElem?_eq_getElem (by rw [hxl]; decide)] at h; exact h⟩
  obtain ⟨x1, g1⟩ := g1
  obtain ⟨z1, e1, _, _⟩ := DataW.trod_int Try.underlying2 g1
  simp at e1
  subst e1
  have g2 : ∃ x, DataW.trod enc Try.prog w base spare held n 98 [c0, c1, c2, c3, c4, c5, c6, c7, c8, c9, c10, c11, c12, c13] = some x := ⟨xs[2]'(by rw [hxl]; decide), by have h := hg 2 _ rfl; rw [List.getElem?_eq_getElem (by rw [hxl]; decide)] at h; exact h⟩
  obtain ⟨x2, g2⟩ := g2
  obtain ⟨r, hr, hrd, hB⟩ := read_logRecord g2
  exact ⟨⟨z0, z1, r⟩, by rw [hr]; rfl, ⟨by simp [kFr], .inl ⟨rfl, none, 0, rfl, fun _ => rfl⟩⟩, hrd, hB⟩
theorem open_frames {r : Reach} {b0 : Nat} {v : Value} {d : DataW H} {p : List MemPlace} (hv : Value.okWide Try.prog w r b0 33 v) (h : DataW.Trod enc Try.prog w base spare held 33 v d p) :
    ∃ ps : List StLogFrame, RdFr w v ps ∧ ∀ p ∈ ps, p.isB := by
  obtain ⟨fuel, hf⟩ := h
  obtain ⟨a, n, c, rfl⟩ := okWide_slice Try.underlying33 hv
  obtain ⟨ps, h1, h2⟩ := read_rows kFr (fun p => StLogFrame.rd w p ∧ p.isB) (by decide) Try.underlying33 (by kernel_rfl) (fun n cs x hl h => read_logFrame n cs x hl h) hf
  exact ⟨ps, ⟨h1, fun p hp => (h2 p hp).1⟩, fun p hp => (h2 p hp).2⟩
end
end Go.Proofs.Ytknmledgpgkhpaa

namespace Go.Proofs.Ytknmledgpgkhpaa
open Go
section
variable {P : Program} {ops : Array Oper} {Q : Exit → Act → World → Prop} {md : Region.Mode} {S : World → Prop} {s : Nat}
def wpAnyV (P : Program) (md : Region.Mode) (ops : Array Oper) (Q : Exit → Act → World → Prop) (S : World → Prop) (s : Nat) : Nat → Array Bool → Act → World → Prop
  | 0, listed, a, w => Region.ready md ops listed = [] ∧ Q .normal a w
  | fuel + 1, listed, a, w =>
    (Region.ready md ops listed = [] → Q .normal a w) ∧
    ∀ i ∈ Region.ready md ops listed, wpOp P ops Q i (fun a' w' => (i ≠ s → S w') ∧ wpAnyV P md ops Q S s fuel (listed.setIfInBounds i true) a' w') a w
theorem wpAny_of_V : ∀ (fuel : Nat) (listed : Array Bool) (a : Act) (w : World), wpAnyV P md ops Q S s fuel listed a w → wpAny P md ops Q fuel listed a w
  | 0, _, _, _, h => h
  | fuel + 1, _, _, _, h => ⟨h.1, fun i hi => wpOp_mono (fun a' w' h' => wpAny_of_V fuel _ a' w' h'.2) (h.2 i hi)⟩
def waits (md : Region.Mode) (ops : Array Oper) (s i : Nat) : Bool :=
  match ops[s]? with
  | some o => o.after.any fun e => Region.binds md e && e.on == i
  | none => true
theorem waits_spec {i : Nat} (h : waits md ops s i = true) {os : Oper} (ho : ops[s]? = some os) (hn : ∀ e ∈ os.after, Region.binds md e = true → e.on ≠ i) : False := by
  unfold waits at h
  rw [ho] at h
  obtain ⟨e, he, hb⟩ := Array.any_eq_true'.1 h
  simp only [Bool.and_eq_true, beq_iff_eq] at hb
  exact hn e he hb.1 hb.2
theorem ready_apart {listed : Array Bool} {i j : Nat} (hi : i ∈ Region.ready md ops listed) (hj : j ∈ Region.ready md ops listed) {oj : Oper} (hoj : ops[j]? = some oj) :
    ∀ e ∈ oj.after, Region.binds md e = true → e.on ≠ i := by
  rintro e he hb rfl
  obtain ⟨_, o, ho, hall⟩ := mem_ready.1 hj
  obtain rfl : o = oj := by rw [hoj] at ho; exact (Option.some.inj ho).symm
  have hyes := hall e he hb
  have hno := (mem_ready.1 hi).1
  by_cases hl : e.on < listed.size <;> simp_all
def Loose (md : Region.Mode) (ops : Array Oper) (i : Nat) (oi : Oper) (listed : Array Bool) : Prop :=
  ∀ j oj, ops[j]? = some oj → j ≠ i → listed.getD j true = false → (∀ e ∈ oj.after, Region.binds md e = true → e.on ≠ i) → oi.apart ops oj = true
theorem Loose.on {i j : Nat} {oi : Oper} {listed : Array Bool} (h : Loose md ops i oi listed) (hj : listed.getD j true = false) : Loose md ops i oi (listed.setIfInBounds j true) := fun k ok hk hki hun hno =>
  h k ok hk hki (if e : j = k then e ▸ hj else (getD_set_ne true e) ▸ hun) hno
theorem wpAnyV_first {i : Nat} {oi : Oper} {v : Value} (hi : ops[i]? = some oi) (hsel : ∀ (j : Nat) (o : Oper) cs b, ops[j]? = some o → o.op ≠ .select cs b) (hs : waits md ops s i = true)
    (hQ : ∀ c a w, Q (.panic c) (a.put oi.dst v) w → Q (.panic c) a w) (fuel : Nat) : ∀ (listed : Array Bool) (a : Act) (w : World), Loose md ops i oi listed → i ∈ Region.ready md ops listed → YieldsIf P ops S oi v a → S w →
      wpAnyV P md ops Q S s fuel (listed.setIfInBounds i true) (a.put oi.dst v) w → wpAnyV P md ops Q S s (fuel + 1) listed a w := by
  induction fuel with
  | zero =>
    intro listed a w _ hr hy hS H
    constructor
    · intro h0; simp [h0] at hr
    · intro j hj
      by_cases e : j = i
      · exact e ▸ hy.wpOp hi hS ⟨fun _ => hS, H⟩
      · have := ready_mono hj e
        simp [H.1] at this
  | succ fuel ih =>
    intro listed a w hl hr hy hS H
    constructor
    · intro h0; simp [h0] at hr
    · intro j hj
      by_cases e : j = i
      · exact e ▸ hy.wpOp hi hS ⟨fun _ => hS, H⟩
      · obtain ⟨hun, oj, hoj, _⟩ := mem_ready.1 hj
        have hap := ready_apart hr hj hoj
        have hjs : j ≠ s := fun es => waits_spec hs (es ▸ hoj) hap
        refine wpOp_mono ?_ (wpOp_putIf hoj (hl j oj hoj e hun hap) (fun cs b => hsel i oi cs b hi) (fun cs b => hsel j oj cs b hoj) hQ hy (H.2 j (ready_mono hj e)))
        rintro a' w' ⟨hy', hS', hw'⟩
        exact ⟨hS', ih _ a' w' (hl.on hun) (ready_mono hr (Ne.symm e)) hy' (hS' hjs) (by rw [Array.setIfInBounds_comm _ _ e]; exact hw')⟩
theorem wpAnyV_take {i : Nat} {oi : Oper} {v : Value} {fuel : Nat} {listed : Array Bool} {a : Act} {w : World} (d : Option Tmp) (hi : ops[i]? = some oi) (hd : oi.dst = d)
    (hsl : Region.noSelect ops = true) (hf : Region.free md ops listed i = true) (hr : (Region.ready md ops listed).contains i = true) (hs : waits md ops s i = true)
    (hQ : ∀ c a w, Q (.panic c) (a.put d v) w → Q (.panic c) a w) (hy : YieldsIf P ops S oi v a) (hS : S w)
    (h : wpAnyV P md ops Q S s fuel (listed.setIfInBounds i true) (a.put d v) w) : wpAnyV P md ops Q S s (fuel + 1) listed a w := by
  subst hd
  exact wpAnyV_first hi (Region.noSelect_spec hsl) hs hQ fuel listed a w (Region.free_spec hi hf) (by simpa using hr) hy hS h
theorem sA {α : Type} {l : List α} {i : Nat} {a : α} : l.toArray.setIfInBounds i a = (l.set i a).toArray := List.setIfInBounds_toArray ..
theorem s0 {α : Type} {x : α} {xs : List α} {a : α} : (x :: xs).set 0 a = a :: xs := List.set_cons_zero
theorem sS {α : Type} {x : α} {xs : List α} {i : Nat} {a : α} : (x :: xs).set (i + 1) a = x :: xs.set i a := List.set_cons_succ
theorem tk (i d : Nat) {oi : Oper} {v : Value} {fuel : Nat} {listed : Array Bool} {a a' : Act} {w : World} (hS : S w)
    (h : wpAnyV P md ops Q S s fuel (listed.setIfInBounds i true) a' w) (hi : ops[i]? = some oi := by rfl) (hg : Region.wanted oi (yielded ops a.tmps) = true := by rfl) (hd : oi.dst = some d := by rfl)
    (hy : ∀ w, S w → (execOp a.eval oi).run P w = .ok (.value v) w := by intro w hSw; (try dsimp only at hSw); go_simp; (try with_reducible rfl))
    (hsl : Region.noSelect ops = true := by kernel_rfl) (hf : Region.free md ops listed i = true := by kernel_rfl) (hr : (Region.ready md ops listed).contains i = true := by kernel_rfl) (hs : waits md ops s i = true := by kernel_rfl)
    (hQ : ∀ c a w, Q (.panic c) (a.put (some d) v) w → Q (.panic c) a w := by exact fun _ _ _ h => h)
    (ha : a.put (some d) v = a' := by first | (simp only [Act.put, sA, s0, sS]; done) | (simp only [Act.put, sA, s0, sS]; rfl) | rfl) : wpAnyV P md ops Q S s (fuel + 1) listed a w :=
  wpAnyV_take (some d) hi hd hsl hf hr hs hQ (Or.inl ⟨hg, hy⟩) hS (ha ▸ h)
theorem tkV (i d : Nat) (v : Value) {oi : Oper} {fuel : Nat} {listed : Array Bool} {a a' : Act} {w : World} (hS : S w)
    (h : wpAnyV P md ops Q S s fuel (listed.setIfInBounds i true) a' w) (hi : ops[i]? = some oi := by rfl) (hg : Region.wanted oi (yielded ops a.tmps) = true := by rfl) (hd : oi.dst = some d := by rfl)
    (hy : ∀ w, S w → (execOp a.eval oi).run P w = .ok (.value v) w := by intro w hSw; (try dsimp only at hSw); go_simp; (try omega))
    (hsl : Region.noSelect ops = true := by kernel_rfl) (hf : Region.free md ops listed i = true := by kernel_rfl) (hr : (Region.ready md ops listed).contains i = true := by kernel_rfl) (hs : waits md ops s i = true := by kernel_rfl)
    (hQ : ∀ c a w, Q (.panic c) (a.put (some d) v) w → Q (.panic c) a w := by exact fun _ _ _ h => h)
    (ha : a.put (some d) v = a' := by first | (simp only [Act.put, sA, s0, sS]; done) | (simp only [Act.put, sA, s0, sS]; rfl) | rfl) : wpAnyV P md ops Q S s (fuel + 1) listed a w :=
  wpAnyV_take (some d) hi hd hsl hf hr hs hQ (Or.inl ⟨hg, hy⟩) hS (ha ▸ h)
theorem wpAnyV_one {i : Nat} {o : Oper} {fuel : Nat} {listed : Array Bool} {a : Act} {w : World} (hr : Region.ready md ops listed = [i]) (ho : ops[i]? = some o)
    (h : ∀ K' : Act → World → Prop, Shut (∀ a w, (i ≠ s → S w) → wpAnyV P md ops Q S s fuel (listed.setIfInBounds i true) a w → K' a w) → if Region.wanted o (yielded ops a.tmps) = true then Oper.wp P o a w K' Q else K' (a.put o.dst undef) w) :
    wpAnyV P md ops Q S s (fuel + 1) listed a w := by
  constructor
  · intro h0; simp [hr] at h0
  · intro j hj
    rw [hr] at hj
    obtain rfl : j = i := by simpa using hj
    exact wpOp_step ho (fun K' hK => h K' (fun a w hS hW => hK a w ⟨hS, hW⟩))
theorem wpAnyV_done {fuel : Nat} {listed : Array Bool} {a : Act} {w : World} (hr : Region.ready md ops listed = []) (h : Q .normal a w) : wpAnyV P md ops Q S s fuel listed a w := by
  cases fuel with
  | zero => exact ⟨hr, h⟩
  | succ n => exact ⟨fun _ => h, by rw [hr]; simp⟩
theorem wp_region_V {id : Nat} {a : Act} {w : World} (S : World → Prop) (s n : Nat) (hn : ops.size = n) (hm : P.follows .mixedOrders = true) (h : wpAnyV P .any ops Q S s n (Array.replicate n false) a w.drew) : (Code.region id ops true).wp P Q a w := by
  subst hn
  exact wp_region_any hm (wpAny_of_V _ _ _ _ h)
end
end Go.Proofs.Ytknmledgpgkhpaa

namespace Go.Proofs.Ytknmledgpgkhpaa
open Go Go.RowKit
set_option linter.unusedVariables false
section
variable {P : Program} {ops : Array Oper} {Q : Exit → Act → World → Prop} {l m : Nat}
def noDefer (o : Oper) : Bool := match o.op with
  | .defer _ => false
  | _ => true
theorem noDefer_spec {o : Oper} (h : noDefer o = true) (c : Call) : o.op ≠ .defer c := fun e => by simp [noDefer, e] at h
theorem wp_round {o : Oper} {a : Act} {w : World} {K K' : Act → World → Prop} (hd : noDefer o = true) (hK : ∀ a w, K a w → K' a w) (h : o.wp P a w K Q) : o.wpIn (Fence.wide.inRound l) m P a w K' Q := by
  unfold Oper.wp at h
  refine ⟨fun _ _ => trivial, ?_⟩
  rw [show (Fence.wide.inRound l).round = some l from rfl, Oper.semAt_some l _ _ (noDefer_spec hd)]
  generalize (execOp a.eval o).run P w = r at h ⊢
  cases r with
  | ok x w' =>
    cases x <;> simp only [Oper.upon] at h <;> simp only [Oper.uponIn]
    all_goals first
      | exact hK _ _ h
      | exact h.elim
      | (refine ⟨fun h => by simp [Fence.wide, Fence.inRound] at h, ?_⟩
         refine CallsIn.inRound l (callsIn_wide.2 (Calls.mono h ?_))
         intro e w'' he
         cases e <;> first | exact hK _ _ he | exact he)
      | (refine ⟨fun h => by simp [Fence.wide, Fence.inRound] at h, ?_⟩
         intro c cs _
         obtain ⟨v, w'', hr, hs⟩ := h c cs
         exact ⟨v, w'', hK _ _ hr, stepsIn_wide.2 hs⟩)
  | halt x w' => cases x <;> simp only [Oper.upon] at h <;> simp only [Oper.uponIn] <;> exact h
theorem wpList_round (hLO : ¬ LetsOut Q) : ∀ (os : List Oper) (a : Act) (w : World), os.all noDefer = true → wpList P ops Q os a w → wpListIn (Fence.wide.inRound l) m P ops Q os a w
  | [], _, _, _, h => h
  | o :: os, a, w, hd, h => by
    simp only [List.all_cons, Bool.and_eq_true] at hd
    unfold wpList at h
    unfold wpListIn
    split
    · rename_i hw
      rw [if_pos hw] at h
      rcases h with h | h
      · exact wp_round hd.1 (fun a w hk => wpList_round hLO os a w hd.2 hk) h
      · exact absurd h.2 hLO
    · rename_i hw
      rw [if_neg hw] at h
      exact ⟨fun _ _ => trivial, wpList_round hLO os _ w hd.2 h⟩
theorem round_region {id : Nat} {os : List Oper} {a : Act} {w : World} (hLO : ¬ LetsOut Q) (hd : os.all noDefer = true) (h : wpList P os.toArray Q os a w) : (Code.region id os.toArray false).wpIn (Fence.wide.inRound l) m P Q a w :=
  wpIn_region_lit (wpList_round hLO os a w hd h)
theorem letsOut_then {K : Act → World → Prop} (h : ¬ LetsOut Q) : ¬ LetsOut (Exit.then K Q) := fun ⟨a, w, hq⟩ => h ⟨a, w, hq⟩
theorem letsOut_block {id : Nat} (h : ¬ LetsOut Q) : ¬ LetsOut (Exit.inBlock id Q) := fun ⟨a, w, hq⟩ => h ⟨a, w, hq⟩
theorem letsOut_ownG {α : Type} {B : Nat} {Kp : World → World → Prop} {I : List α → World → Prop} {Ix : Code → List α → World → Prop} {xs : List α} {W : World} : ¬ LetsOut (ownPostG B Kp I Ix xs W) := fun ⟨_, _, h⟩ => h
end
def Bare (B : Nat) (w : World) (b : Nat) : Prop := B ≤ b ∧ ∃ o : Obj, w.heap[b]? = some o ∧ o.isCells = false
theorem kept_turn {B : Nat} {W W' : World} {row : Option Nat} (hg : W.grownBy W' row) (hr : ∀ r, row = some r → B ≤ r ∧ ∃ o : Obj, W.heap[r]? = some o ∧ o.isCells = false) : Kept (Bare B W) W W' :=
  Kept.of_grown hg (fun k e => hr k e)
theorem Blk.not_bare {w : World} {b B : Nat} {e : TypeId} {vs : List Value} (h : Blk w b e vs) : ¬ Bare B w b := fun ⟨_, o, ho, hc⟩ => by
  rw [show w.heap[b]? = _ from h] at ho
  cases ho
  cases hc
theorem Own.not_bare {base : Nat} {e : TypeId} {k : IntKind} {w : World} {v : Value} {bs : List Int} {B b : Nat} (h : Own base e k w v bs) (hb : v.ownBlock = some b) : ¬ Bare B w b := fun ⟨_, o, ho, hc⟩ => by
  rcases h.2 with ⟨rfl, _⟩ | ⟨g, cap, cur, rfl, _, hg, _⟩
  · simp [Value.ownBlock] at hb
  · have : g = b := by simpa [Value.ownBlock] using hb
    subst this
    rw [hg] at ho
    cases ho
    cases hc
theorem OwnR.not_bare {E : Type} {K : RowK E} {base : Nat} {tw tb : TypeId} {w : World} {v : Value} {qs : List E} {B b : Nat} (h : OwnR K base tw tb w v qs) (hb : footR K v qs b) : ¬ Bare B w b := by
  rcases hb with hb | ⟨p, hp, hb⟩
  · rintro ⟨_, o, ho, hc⟩
    rcases h.row.2 with ⟨rfl, _⟩ | ⟨g, cap, cur, rfl, _, hg, _⟩
    · simp [Value.ownBlock] at hb
    · have : g = b := by simpa [Value.ownBlock] using hb
      subst this
      rw [hg] at ho
      cases ho
      cases hc
  · exact (h.data p hp).not_bare hb
theorem keepsFrom_of {R : Nat → Prop} {B : Nat} {W W' : World} (hk : Kept R W W') (hr : ∀ b, R b → ¬ Bare B W b) : KeepsFrom B W W' :=
  ⟨hk.size, fun k o hB ho hc => (hk.block k (Array.getElem?_eq_some_iff.1 ho).1 (fun e => hr k e ⟨hB, o, ho, hc⟩)).trans ho⟩
end Go.Proofs.Ytknmledgpgkhpaa

namespace Go.Proofs.Ytknmledgpgkhpaa
set_option maxRecDepth 100000
set_option maxHeartbeats 1600000
open Go.RowKit
set_option linter.unusedVariables false
end Go.Proofs.Ytknmledgpgkhpaa

namespace Go.Proofs.Ytknmledgpgkhpaa
set_option maxRecDepth 100000
set_option maxHeartbeats 1000000
open Go.RowKit
set_option linter.unusedVariables false
def lows (v : Int) : Nat → List Int
  | 0 => []
  | k + 1 => (v / 256 ^ k % 256) :: lows v k
theorem lows_length (v : Int) (k : Nat) : (lows v k).length = k := by
  induction k with
  | zero => rfl
  | succ k ih => simp [lows, ih]
end Go.Proofs.Ytknmledgpgkhpaa

namespace Go.Proofs.Ytknmledgpgkhpaa
set_option maxRecDepth 100000
set_option maxHeartbeats 1000000
open Go.RowKit
set_option linter.unusedVariables false
def num (bs : List Int) : Int := bs.foldl (fun v b => v * 256 + b) 0
theorem num_cons (x : Int) (bs : List Int) : num (x :: bs) = x * 256 ^ bs.length + num bs := by
  have key : ∀ (bs : List Int) (v : Int), bs.foldl (fun v b => v * 256 + b) v = v * 256 ^ bs.length + num bs := fun bs => by
    induction bs with
    | nil => intro v; simp [num]
    | cons y bs ih =>
      intro v
      simp only [List.foldl_cons, num, List.length_cons]
      rw [ih, ih, Int.pow_succ, Int.add_mul, Int.mul_assoc, Int.mul_comm 256, Int.zero_mul, Int.zero_add]
      omega
  have := key bs x
  simpa [num] using this
def getN (bs : List Int) : Int := if bs.length < 1 ∨ 8 < bs.length ∨ 9223372036854775807 < num bs then -1 else num bs
end Go.Proofs.Ytknmledgpgkhpaa

namespace Go.Proofs.Ytknmledgpgkhpaa
open Go.RowKit
set_option linter.unusedVariables false
/-! ### Numbers -/
theorem num_lows (v : Nat) (k : Nat) : num (lows (v : Int) k) = ((v % 256 ^ k : Nat) : Int) := by
  induction k with
  | zero => simp [lows, num, Nat.mod_one]
  | succ k ih =>
    have e : lows (v : Int) (k + 1) = ((v : Int) / 256 ^ k % 256) :: lows (v : Int) k := rfl
    rw [e, num_cons, lows_length, ih, Nat.pow_succ, Nat.mod_mul]
    have e2 : ((v : Int) / 256 ^ k % 256) = ((v / 256 ^ k % 256 : Nat) : Int) := by simp
    rw [e2]
    have e3 : (256 : Int) ^ k = ((256 ^ k : Nat) : Int) := by simp
    rw [e3, ← Int.natCast_mul, ← Int.natCast_add, Nat.mul_comm, Nat.add_comm]
end Go.Proofs.Ytknmledgpgkhpaa

namespace Go.Proofs.Ytknmledgpgkhpaa
set_option maxRecDepth 100000
set_option maxHeartbeats 4000000
open Go.RowKit
set_option linter.unusedVariables false
set_option linter.unusedSimpArgs false
theorem Blk.rd {w : World} {B : Nat} {e : TypeId} {bs : List Int} (h : Blk w B e (vals .u8 bs)) (o n c : Nat) (hn : o + n ≤ bs.length) (hc : n ≤ c) (hm : bs.length ≤ maxLen) : Rd .u8 w (.slice (some ⟨B, o, none⟩) n c) ((bs.drop o).take n) := by
  have hl : ((bs.drop o).take n).length = n := by simp; omega
  refine ⟨by omega, .inr ⟨B, o, c, by rw [hl], by omega, fun i hi => ?_⟩⟩
  rw [h.cell, vals_at _ _ _ (by omega)]
  simp [List.getD, List.getElem?_take, show i < n by omega]
end Go.Proofs.Ytknmledgpgkhpaa

namespace Go.Proofs.Ytknmledgpgkhpaa
open Go.RowKit
set_option linter.unusedVariables false
set_option linter.unusedSimpArgs false
def spCells (sum : List Int) (lsn num bot : Int) (sl raw : List Int) : List Value :=
  vals .u8 sum ++ (.int .i64 lsn :: .int .i64 num :: .int .i64 bot :: (vals .i64 sl ++ vals .u8 raw))
structure SP (w : World) (B : Nat) (sum : List Int) (lsn num bot : Int) (sl raw : List Int) : Prop where
  blk : Blk w B 86 (spCells sum lsn num bot sl raw)
  l1 : sum.length = 4
  l2 : sl.length = 64
  l3 : raw.length = 4096
section
variable {w w' : World} {B : Nat} {sum : List Int} {lsn num bot : Int} {sl raw : List Int}
theorem SP.kept {R : Nat → Prop} (h : SP w B sum lsn num bot sl raw) (hk : Kept R w w') (hr : ¬ R B) : SP w' B sum lsn num bot sl raw := ⟨h.blk.kept hk hr, h.l1, h.l2, h.l3⟩
theorem SP.same (h : SP w B sum lsn num bot sl raw) (hk : Same w w') : SP w' B sum lsn num bot sl raw := ⟨h.blk.same hk, h.l1, h.l2, h.l3⟩
end
/-! ### What is written from the front on -/
def cont (A raw : List Int) : List Int := A ++ raw.drop A.length
theorem cont_length (A raw : List Int) (h : A.length ≤ raw.length) : (cont A raw).length = raw.length := by simp [cont]; omega
theorem lay_cont (A raw xs : List Int) (h : A.length + xs.length ≤ raw.length) : lay (vals .u8 (cont A raw)) A.length (vals .u8 xs) = vals .u8 (cont (A ++ xs) raw) := by
  unfold lay cont
  simp [vals, Nat.add_comm]
  rw [List.drop_append, List.drop_of_length_le (by simp), List.drop_drop, List.nil_append, List.length_map]
  congr 1
  omega
theorem Blk.more {w : World} {B : Nat} {e : TypeId} {A raw : List Int} (n : Nat) (xs : List Int) (h : Blk w B e (lay (vals .u8 (cont A raw)) n (vals .u8 xs))) (hn : n = A.length) (hl : A.length + xs.length ≤ raw.length) : Blk w B e (vals .u8 (cont (A ++ xs) raw)) := by
  subst hn
  rwa [lay_cont _ _ _ hl] at h
def headB (sum : List Int) (lsn num bot : Int) : List Int := sum ++ lows lsn 8 ++ lows num 4 ++ lows bot 2 ++ lows 0 2
theorem headB_length (sum : List Int) (lsn num bot : Int) (h : sum.length = 4) : (headB sum lsn num bot).length = 20 := by simp [headB, lows_length, h]
def slotB (sl : List Int) : List Int := sl.flatMap fun x => lows x 2
theorem slotB_length (sl : List Int) : (slotB sl).length = 2 * sl.length := by
  induction sl with
  | nil => rfl
  | cons x sl ih => simp only [slotB, List.flatMap_cons, List.length_append, lows_length, List.length_cons] at ih ⊢; omega
def encB (sum : List Int) (lsn num bot : Int) (sl raw : List Int) : List Int := cont (headB sum lsn num bot ++ slotB sl) raw
theorem encB_length {sum : List Int} {lsn num bot : Int} {sl raw : List Int} (h1 : sum.length = 4) (h2 : sl.length = 64) (h3 : raw.length = 4096) : (encB sum lsn num bot sl raw).length = 4096 := by
  unfold encB
  rw [cont_length, h3]
  rw [List.length_append, headB_length _ _ _ _ h1, slotB_length, h2, h3]
  decide
section
variable {P : Program} {ops : Array Oper} {o : Oper} {a : Act} {w : World} {K : Act → World → Prop} {Q : Exit → Act → World → Prop} {E : Prop}
end
end Go.Proofs.Ytknmledgpgkhpaa

namespace Go.Proofs.Ytknmledgpgkhpaa
set_option maxRecDepth 100000
set_option maxHeartbeats 16000000
open Go.RowKit
set_option linter.unusedVariables false
set_option linter.unusedSimpArgs false
structure Num3 (lsn num bot : Int) (sl : List Int) : Prop where
  a : 0 ≤ lsn ∧ lsn ≤ 9223372036854775807
  b : 0 ≤ num ∧ num ≤ 9223372036854775807
  c : 0 ≤ bot ∧ bot ≤ 9223372036854775807
  d : ∀ x ∈ sl, 0 ≤ x ∧ x ≤ 9223372036854775807
theorem Num3.at {lsn num bot : Int} {sl : List Int} (h : Num3 lsn num bot sl) (k : Nat) : 0 ≤ sl.getD k 0 ∧ sl.getD k 0 ≤ 9223372036854775807 := by
  by_cases hk : k < sl.length
  · have : sl.getD k 0 = sl[k] := by simp [hk]
    rw [this]
    exact h.d _ (List.getElem_mem hk)
  · simp [List.getD, List.getElem?_eq_none (show sl.length ≤ k by omega)]
structure EncS (w wx : World) (B : Nat) (sum : List Int) (lsn num bot : Int) (sl raw A : List Int) : Prop where
  sp : SP wx B sum lsn num bot sl raw
  arr : Blk wx (w.heap.size + 1) 84 (vals .u8 (cont A raw))
  res : Blk wx w.heap.size 84 Try.zeroCells84.toList
  same : Same w wx
  sz : w.heap.size + 2 ≤ wx.heap.size
  lt : B < w.heap.size
theorem EncS.next {w wx wy : World} {B : Nat} {sum : List Int} {lsn num bot : Int} {sl raw A A' : List Int} (h : EncS w wx B sum lsn num bot sl raw A) (hk : Kept (fun b => b = w.heap.size + 1) wx wy) (hb : Blk wy (w.heap.size + 1) 84 (vals .u8 (cont A' raw))) : EncS w wy B sum lsn num bot sl raw A' :=
  have hlt := h.lt
  ⟨h.sp.kept hk (by omega), hb, h.res.kept hk (by omega), h.same.next hk (fun i hi e => by omega), Nat.le_trans h.sz hk.size, h.lt⟩
theorem EncS.on {w wx wy : World} {B : Nat} {sum : List Int} {lsn num bot : Int} {sl raw A : List Int} (h : EncS w wx B sum lsn num bot sl raw A) (hk : Same wx wy) : EncS w wy B sum lsn num bot sl raw A :=
  ⟨h.sp.same hk, h.arr.same hk, h.res.same hk, h.same.trans hk, Nat.le_trans h.sz hk.size, h.lt⟩
end Go.Proofs.Ytknmledgpgkhpaa
