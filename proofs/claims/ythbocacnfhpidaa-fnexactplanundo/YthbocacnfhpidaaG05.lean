import Derived.Test.YthbocacnfhpidaaG01
import Derived.Test.YthbocacnfhpidaaTyLogFrame
import Derived.Test.YthbocacnfhpidaaG00
import Derived.Test.YthbocacnfhpidaaTyTxnEntryS
import Derived.Deep.DeepCutAuto
import Derived.Deep.RegionHeld3
import Derived.Deep.AppendLies
namespace Go.Proofs.Ythbocacnfhpidaa
set_option maxRecDepth 100000
set_option maxHeartbeats 8000000
open Go Go.RowKit
set_option linter.unusedVariables false
set_option linter.unusedSimpArgs false
def StLogFrame.cells (x : StLogFrame) : List Value := [.int .i64 x.lsn, .int .i64 x.epoch, .int .i64 x.record.kind, .int .i64 x.record.txn, .int .i64 x.record.prev, .int .i64 x.record.page, .int .i64 x.record.slot, .bool x.record.before.used, x.record.before.data.v, .bool x.record.after.used, x.record.after.data.v, .int .i64 x.record.uN, .int .i64 x.record.nT, x.record.txns.v, x.record.dirty.v, x.record.image.v]
def kFr : RowK StLogFrame := ⟨16, StLogFrame.cells, fun _ => rfl, fun _ => .slice none 0 0, fun _ => []⟩
def zFr : StLogFrame := ⟨0, 0, ⟨0, 0, 0, 0, 0, ⟨false, ⟨0, none, 0, []⟩⟩, ⟨false, ⟨0, none, 0, []⟩⟩, 0, 0, ⟨0, none, 0, 0, []⟩, ⟨0, none, 0, 0, []⟩, ⟨0, none, 0, []⟩⟩⟩
def datFr (ps : List StLogFrame) := ps.map StLogFrame.dat
def szsFr (ps : List StLogFrame) := ps.map StLogFrame.szs
def frRows (ps : List StLogFrame) : List Row := ps.flatMap StLogFrame.rows
theorem datFr_length (ps : List StLogFrame) : (datFr ps).length = ps.length := by simp [datFr]
theorem datFr_at {ps qs : List StLogFrame} (h : datFr ps = datFr qs) (k : Nat) (h1 : k < ps.length) (h2 : k < qs.length) : ps[k].dat = qs[k].dat := by
  have e : (datFr ps)[k]'(by rw [datFr_length]; exact h1) = (datFr qs)[k]'(by rw [datFr_length]; exact h2) := by simp only [h]
  simpa [datFr] using e
theorem frRows_append (ps qs : List StLogFrame) : frRows (ps ++ qs) = frRows ps ++ frRows qs := by simp [frRows]
theorem frRows_cons (p : StLogFrame) (ps : List StLogFrame) : frRows (p :: ps) = p.rows ++ frRows ps := by simp [frRows]
theorem footRows_mem {ps : List StLogFrame} {b : Nat} : FootL (frRows ps) b ↔ ∃ p ∈ ps, FootL p.rows b := by
  unfold FootL frRows
  constructor
  · rintro ⟨r, hr, hb⟩
    obtain ⟨p, hp, hr⟩ := List.mem_flatMap.1 hr
    exact ⟨p, hp, r, hr, hb⟩
  · rintro ⟨p, hp, r, hr, hb⟩
    exact ⟨r, List.mem_flatMap.2 ⟨p, hp, hr⟩, hb⟩
structure OwnFr (w : World) (v : Value) (ps : List StLogFrame) : Prop where
  own : OwnR kFr 0 60 5 w v ps
  rows : OwnL w (frRows ps)
  out : ∀ b, v.ownBlock = some b → ¬ FootL (frRows ps) b
def footFr (v : Value) (ps : List StLogFrame) (b : Nat) : Prop := v.ownBlock = some b ∨ FootL (frRows ps) b
structure RdFr (w : World) (v : Value) (ps : List StLogFrame) : Prop where
  row : RdR kFr w v ps
  data : ∀ p ∈ ps, StLogFrame.rd w p
theorem footFr_head {v : Value} {ps : List StLogFrame} {b : Nat} (h : footR kFr v ps b) : v.ownBlock = some b := by
  rcases h with h | ⟨p, _, h⟩
  · exact h
  · simp [kFr, Value.ownBlock] at h
theorem OwnFr.kept {R : Nat → Prop} {w w' : World} {v : Value} {ps : List StLogFrame} (h : OwnFr w v ps) (hk : Kept R w w') (hr : ∀ b, footFr v ps b → ¬ R b) : OwnFr w' v ps :=
  ⟨h.own.kept hk (fun b hb => hr b (.inl (footFr_head hb))), h.rows.kept hk (fun b hb => hr b (.inr hb)), h.out⟩
theorem OwnFr.same {w w' : World} {v : Value} {ps : List StLogFrame} (h : OwnFr w v ps) (hk : Same w w') : OwnFr w' v ps := h.kept hk (fun _ _ => id)
theorem OwnFr.lt {w : World} {v : Value} {ps : List StLogFrame} (h : OwnFr w v ps) (b : Nat) (hb : footFr v ps b) : b < w.heap.size := by
  rcases hb with hb | hb
  · exact (h.own.lt b (.inl hb)).2
  · exact h.rows.lt b hb
theorem OwnL.mem {w : World} {ps : List StLogFrame} (h : OwnL w (frRows ps)) (p : StLogFrame) (hp : p ∈ ps) : OwnL w p.rows := by
  obtain ⟨a, c, rfl⟩ := List.append_of_mem hp
  rw [frRows_append, frRows_cons] at h
  exact h.right.left
theorem OwnFr.rd {w : World} {v : Value} {ps : List StLogFrame} (h : OwnFr w v ps) : RdFr w v ps := ⟨h.own.rd, fun p hp => StLogFrame.own_rd (h.rows.mem p hp)⟩
theorem RdFr.same {w w' : World} {v : Value} {ps : List StLogFrame} (h : RdFr w v ps) (hk : Same w w') : RdFr w' v ps := ⟨h.row.same hk, fun p hp => (h.data p hp).same hk⟩
theorem RdFr.form {w : World} {v : Value} {ps : List StLogFrame} (h : RdFr w v ps) : ∃ a c, v = .slice a ps.length c := h.row.form
def sizeFr : List StLogFrame → Int
  | [] => 0
  | p :: ps => p.szs + sizeFr ps
theorem sizeFr_append (ps qs : List StLogFrame) : sizeFr (ps ++ qs) = sizeFr ps + sizeFr qs := by
  induction ps with
  | nil => simp [sizeFr]
  | cons p ps ih => simp only [List.cons_append, sizeFr, ih]; omega
theorem sizeFr_step (ps : List StLogFrame) (j : Nat) (h : j < ps.length) : sizeFr (ps.take (j + 1)) = sizeFr (ps.take j) + ps[j].szs := by
  rw [List.take_succ_eq_append_getElem h, sizeFr_append]
  simp [sizeFr]
theorem sizeFr_nonneg (ps : List StLogFrame) : 0 ≤ sizeFr ps := by
  induction ps with
  | nil => exact Int.le_refl _
  | cons p ps ih => have := p.szs_le; simp only [sizeFr]; omega
theorem sizeFr_mem (ps : List StLogFrame) (p : StLogFrame) (h : p ∈ ps) : p.szs ≤ sizeFr ps := by
  induction ps with
  | nil => simp at h
  | cons q ps ih =>
    have h1 := sizeFr_nonneg ps
    have h2 := q.szs_le
    rcases List.mem_cons.1 h with rfl | h
    · simp only [sizeFr]; omega
    · have := ih h; simp only [sizeFr]; omega
theorem sizeFr_szs {ps qs : List StLogFrame} (h : szsFr qs = szsFr ps) : sizeFr qs = sizeFr ps := by
  have key : ∀ rs : List StLogFrame, sizeFr rs = (szsFr rs).sum := fun rs => by
    induction rs with
    | nil => rfl
    | cons p rs ih => simp only [sizeFr, szsFr, List.map_cons, List.sum_cons]; rw [ih]; rfl
  rw [key, key, h]
def mzFr : List StLogFrame → Int
  | [] => 0
  | p :: ps => 11 + p.size + mzFr ps
theorem mzFr_append (ps qs : List StLogFrame) : mzFr (ps ++ qs) = mzFr ps + mzFr qs := by
  induction ps with
  | nil => simp [mzFr]
  | cons p ps ih => simp only [List.cons_append, mzFr, ih]; omega
theorem mzFr_step (ps : List StLogFrame) (j : Nat) (h : j < ps.length) : mzFr (ps.take (j + 1)) = mzFr (ps.take j) + 11 + ps[j].size := by
  rw [List.take_succ_eq_append_getElem h, mzFr_append]
  simp only [mzFr]
  omega
theorem mzFr_nonneg (ps : List StLogFrame) : 0 ≤ mzFr ps := by
  induction ps with
  | nil => exact Int.le_refl _
  | cons p ps ih => have := p.size_le; simp only [mzFr]; omega
theorem mzFr_take_le (ps : List StLogFrame) (j : Nat) : mzFr (ps.take j) ≤ mzFr ps := by
  have h := mzFr_append (ps.take j) (ps.drop j)
  rw [List.take_append_drop] at h
  have := mzFr_nonneg (ps.drop j)
  omega
theorem StLogFrame.size_rd {w : World} {x : StLogFrame} (h : StLogFrame.rd w x) : x.size ≤ 4 * x.szs := by
  have h1 := h.2.2.1.2.1
  have h2 := h.2.2.2.1.2.1
  simp only [StLogFrame.size, StLogFrame.szs, StLogRecord.size, StLogRecord.szs, StPageRecord.size, StPageRecord.szs]
  omega
theorem mzFr_rd {w : World} {ps : List StLogFrame} (h : ∀ p ∈ ps, StLogFrame.rd w p) : mzFr ps ≤ 11 * ps.length + 4 * sizeFr ps := by
  induction ps with
  | nil => simp [mzFr, sizeFr]
  | cons p ps ih =>
    have h1 := ih (fun q hq => h q (List.mem_cons_of_mem _ hq))
    have h2 := StLogFrame.size_rd (h p (List.mem_cons_self ..))
    simp only [mzFr, sizeFr, List.length_cons]
    push_cast
    omega
end Go.Proofs.Ythbocacnfhpidaa

namespace Go.Proofs.Ythbocacnfhpidaa
set_option maxRecDepth 100000
set_option maxHeartbeats 2000000
open Go.ChangeShapes Go.WideShapes Go.ChangeAt Go.RowKit
set_option linter.unusedVariables false
set_option linter.unusedSimpArgs false
theorem flat_length (f : Nat → List Int) (m : Nat) : ∀ n, (∀ i, i < n → (f i).length = m) → ((List.range n).flatMap f).length = n * m
  | 0, _ => by simp
  | n + 1, h => by
    rw [List.range_succ, List.flatMap_append, List.length_append, flat_length f m n (fun i hi => h i (by omega))]
    simp [h n (by omega), Nat.succ_mul]
theorem flat_at (f : Nat → List Int) (m : Nat) : ∀ n, 0 < m → (∀ i, i < n → (f i).length = m) → ∀ i, i < n * m → ((List.range n).flatMap f).getD i 0 = (f (i / m)).getD (i % m) 0
  | 0, _, _, i, hi => by simp at hi
  | n + 1, hm, h, i, hi => by
    rw [List.range_succ, List.flatMap_append]
    have hl := flat_length f m n (fun i hi => h i (by omega))
    by_cases h1 : i < n * m
    · have h2 := flat_at f m n hm (fun i hi => h i (by omega)) i h1
      rw [← h2]
      simp only [List.getD]
      rw [List.getElem?_append_left (by omega)]
    · have h3 : i < n * m + m := by rw [Nat.succ_mul] at hi; exact hi
      have hd : i / m = n := by
        rw [Nat.div_eq_iff hm]
        constructor <;> omega
      have hmod : i % m = i - n * m := by
        have := Nat.div_add_mod i m
        rw [hd, Nat.mul_comm] at this
        omega
      rw [hd, hmod]
      simp only [List.getD]
      rw [List.getElem?_append_right (by omega), hl]
      simp
section
variable {H : Type} {enc : TypeId × Value → H} {w : World} {base : Nat} {spare : Nat → Bool} {held : Bool}
theorem read_flat {t e : TypeId} {m : Nat} (hm0 : 0 < m) (ht : Try.prog.underlying t = some (.slice e)) (hc : Try.prog.cellsOf e = m)
    (he : ∀ (n : Nat) (cs : List Value) (x : DataW H × List MemPlace), DataW.trod enc Try.prog w base spare held n e cs = some x → ∃ ns : List Int, cs = vals .i64 ns ∧ ns.length = m)
    {fuel : Nat} {v : Value} {x : DataW H × List MemPlace} (h : DataW.trod enc Try.prog w base spare held fuel t [v] = some x) : ∃ y : FR, v = y.v ∧ RdF m w y := by
  rcases Deep.open_slice ht h with ⟨hcs, _⟩ | ⟨a, len, cap, m', n, D, Pl, hcs, hb, hl, hm, hmm, _, hx⟩
  · simp at hcs
    subst hcs
    exact ⟨⟨0, none, 0, 0, []⟩, rfl, Nat.zero_le _, by simp, .inl rfl⟩
  · simp at hcs
    subst hcs
    have hlm : len ≤ m' := by rw [hmm]; split <;> omega
    have each : ∀ i, i < len → ∃ ns : List Int, ns.length = m ∧ ∀ j, j < m → w.cell? ((a.add (i * m)).add j) = some (.int .i64 (ns.getD j 0)) := fun i hi => by
      obtain ⟨cs', h1, h2⟩ := hx i (by omega)
      rw [hc] at h1
      obtain ⟨_, hlen, hcell⟩ := World.cells?_some h1
      obtain ⟨ns, rfl, hns⟩ := he _ _ _ h2
      refine ⟨ns, hns, fun j hj => ?_⟩
      have := hcell j (by omega)
      rw [this, vals_at _ _ _ (by omega)]
    obtain ⟨f, hf⟩ := Deep.choose_lt each
    by_cases h0 : len = 0
    · subst h0
      exact ⟨⟨0, some a, 0, cap, []⟩, rfl, Nat.zero_le _, by simp, .inl rfl⟩
    · have ha : ∃ b off, a = ⟨b, off, none⟩ := by
        have h1 := (hf 0 (by omega)).2 0 hm0
        rw [Nat.zero_mul] at h1
        have e0 : a.add 0 = a := by cases a; simp [Addr.add]
        rw [e0] at h1
        exact addr_form (a := a) h1
      obtain ⟨b, off, rfl⟩ := ha
      refine ⟨⟨0, some ⟨b, off, none⟩, len, cap, (List.range len).flatMap f⟩, rfl, by dsimp only; omega, ?_, .inr ⟨b, off, rfl, hl, fun i hi => ?_⟩⟩
      · dsimp only
        exact flat_length f m len (fun i hi => (hf i hi).1)
      · dsimp only at hi ⊢
        have hdiv : i / m < len := (Nat.div_lt_iff_lt_mul hm0).2 hi
        have h1 := (hf (i / m) hdiv).2 (i % m) (Nat.mod_lt _ hm0)
        rw [add_none, add_none] at h1
        rw [flat_at f m len hm0 (fun i hi => (hf i hi).1) i hi]
        have e : off + i = off + i / m * m + i % m := by
          have := Nat.div_add_mod i m
          rw [Nat.mul_comm] at this
          omega
        rw [e]
        exact h1
theorem ints_cells {e : TypeId} {fs : Array Field} (m : Nat) (hs : Try.prog.underlying e = some (.struct fs)) (hsz : fs.size = m) (hc : Try.prog.cellsOf e = m)
    (hf : ∀ (i : Nat) (f : Field), fs[i]? = some f → f.type = 2 ∧ f.offset = i) (n : Nat) (cs : List Value) (x : DataW H × List MemPlace) (h : DataW.trod enc Try.prog w base spare held n e cs = some x) :
    ∃ ns : List Int, cs = vals .i64 ns ∧ ns.length = m := by
  obtain ⟨xs, k, _, _, hl, hxl, hg⟩ := DataW.trod_struct hs h
  have each : ∀ i, i < m → ∃ z : Int, cs[i]? = some (.int .i64 z) := fun i hi => by
    have hi' : i < fs.size := by omega
    obtain ⟨h1, h2⟩ := hf i fs[i] (by simp [hi'])
    have h3 := hg i fs[i] (by simp [hi'])
    rw [h1, h2, show Try.prog.cellsOf 2 = 1 from by kernel_rfl] at h3
    have h4 : xs[i]? = some xs[i] := by simp [hxl, hi']
    rw [h4] at h3
    obtain ⟨z, hz, _, _⟩ := DataW.trod_int Try.underlying2 h3
    refine ⟨z, ?_⟩
    have h5 := congrArg (fun l => l[0]?) hz
    simpa [List.getElem?_take, List.getElem?_drop] using h5
  obtain ⟨g, hg2⟩ := Deep.choose_lt each
  refine ⟨(List.range m).map g, ?_, by simp⟩
  apply List.ext_getElem?
  intro i
  by_cases hi : i < m
  · rw [hg2 i hi]
    simp [vals, hi]
  · rw [List.getElem?_eq_none (by rw [hl, hc]; omega), List.getElem?_eq_none (by simp [vals]; omega)]
theorem read_slotRecord {n : Nat} {c0 c1 : Value} {x : DataW H × List MemPlace} (h : DataW.trod enc Try.prog w base spare held n 44 [c0, c1] = some x) :
    ∃ y : StPageRecord, c0 = .bool y.used ∧ c1 = y.data.v ∧ StPageRecord.rd w y ∧ IsB y.data.bs := by
  obtain ⟨y0, y1, k, _, _, h0, h1⟩ := trod_struct2 Try.underlying44 h
  have h0' : DataW.trod enc Try.prog w base spare held k 4 [c0] = some y0 := h0
  have h1' : DataW.trod enc Try.prog w base spare held k 42 [c1] = some y1 := h1
  obtain ⟨b, hb, _⟩ := DataW.trod_bool Try.underlying4 h0'
  obtain ⟨bs, hbs, hB⟩ := read_intsB Try.underlying42 Try.underlying5 (by kernel_rfl) h1'
  obtain ⟨a, c, rfl⟩ := hbs.form
  simp at hb
  exact ⟨⟨b, ⟨0, a, c, bs⟩⟩, hb, rfl, hbs, fun x hx => by have := hB x hx; exact ⟨this.1, this.2⟩⟩
def StLogFrame.isB (p : StLogFrame) : Prop := IsB p.record.before.data.bs ∧ IsB p.record.after.data.bs ∧ IsB p.record.image.bs
theorem read_logRecord {m : Nat} {c0 c1 c2 c3 c4 c5 c6 c7 c8 c9 c10 c11 c12 c13 : Value} {x : DataW H × List MemPlace} (h : DataW.trod enc Try.prog w base spare held m 47 [c0, c1, c2, c3, c4, c5, c6, c7, c8, c9, c10, c11, c12, c13] = some x) :
    ∃ x : StLogRecord, [c0, c1, c2, c3, c4, c5, c6, c7, c8, c9, c10, c11, c12, c13] = [.int .i64 x.kind, .int .i64 x.txn, .int .i64 x.prev, .int .i64 x.page, .int .i64 x.slot, .bool x.before.used, x.before.data.v, .bool x.after.used, x.after.data.v, .int .i64 x.uN, .int .i64 x.nT, x.txns.v, x.dirty.v, x.image.v] ∧ StLogRecord.rd w x ∧ IsB x.before.data.bs ∧ IsB x.after.data.bs ∧ IsB x.image.bs := by
  obtain ⟨xs, n, _, _, _, hxl, hg⟩ := DataW.trod_struct Try.underlying47 h
  have g0 : ∃ x, DataW.trod enc Try.prog w base spare held n 2 [c0] = some x := ⟨xs[0]'(by rw [hxl]; decide), by have h := hg 0 _ rfl; rw [List.getElem?_eq_getElem (by rw [hxl]; decide)] at h; exact h⟩
  obtain ⟨x0, g0⟩ := g0
  obtain ⟨z0, e0, _, _⟩ := DataW.trod_int Try.underlying2 g0
  simp at e0
  subst e0
  have g1 : ∃ x, DataW.trod enc Try.prog w base spare held n 2 [c1] = some x := ⟨xs[1]'(by rw [hxl]; decide), by have h := hg 1 _ rfl; rw [List.getElem?_eq_getElem (by rw [hxl]; decide)] at h; exact h⟩
  obtain ⟨x1, g1⟩ := g1
  obtain ⟨z1, e1, _, _⟩ := DataW.trod_int Try.underlying2 g1
  simp at e1
  subst e1
  have g2 : ∃ x, DataW.trod enc Try.prog w base spare held n 2 [c2] = some x := ⟨xs[2]'(by rw [hxl]; decide), by have h := hg 2 _ rfl; rw [List.getElem?_eq_getElem (by rw [hxl]; decide)] at h; exact h⟩
  obtain ⟨x2, g2⟩ := g2
  obtain ⟨z2, e2, _, _⟩ := DataW.trod_int Try.underlying2 g2
  simp at e2
  subst e2
  have g3 : ∃ x, DataW.trod enc Try.prog w base spare held n 2 [c3] = some x := ⟨xs[3]'(by rw [hxl]; decide), by have h := hg 3 _ rfl; rw [List.getElem?_eq_getElem (by rw [hxl]; decide)] at h; exact h⟩
  obtain ⟨x3, g3⟩ := g3
  obtain ⟨z3, e3, _, _⟩ := DataW.trod_int Try.underlying2 g3
  simp at e3
  subst e3
  have g4 : ∃ x, DataW.trod enc Try.prog w base spare held n 2 [c4] = some x := ⟨xs[4]'(by rw [hxl]; decide), by have h := hg 4 _ rfl; rw [List.getElem?_eq_getElem (by rw [hxl]; decide)] at h; exact h⟩
  obtain ⟨x4, g4⟩ := g4
  obtain ⟨z4, e4, _, _⟩ := DataW.trod_int Try.underlying2 g4
  simp at e4
  subst e4
  have g5 : ∃ x, DataW.trod enc Try.prog w base spare held n 44 [c5, c6] = some x := ⟨xs[5]'(by rw [hxl]; decide), by have h := hg 5 _ rfl; rw [List.getElem?_eq_getElem (by rw [hxl]; decide)] at h; exact h⟩
  obtain ⟨x5, g5⟩ := g5
  obtain ⟨y5, rfl, rfl, r5, B5⟩ := read_slotRecord g5
  have g6 : ∃ x, DataW.trod enc Try.prog w base spare held n 44 [c7, c8] = some x := ⟨xs[6]'(by rw [hxl]; decide), by have h := hg 6 _ rfl; rw [List.getElem?_eq_getElem (by rw [hxl]; decide)] at h; exact h⟩
  obtain ⟨x6, g6⟩ := g6
  obtain ⟨y6, rfl, rfl, r6, B6⟩ := read_slotRecord g6
  have g7 : ∃ x, DataW.trod enc Try.prog w base spare held n 2 [c9] = some x := ⟨xs[7]'(by rw [hxl]; decide), by have h := hg 7 _ rfl; rw [List.getElem?_eq_getElem (by rw [hxl]; decide)] at h; exact h⟩
  obtain ⟨x7, g7⟩ := g7
  obtain ⟨z7, e7, _, _⟩ := DataW.trod_int Try.underlying2 g7
  simp at e7
  subst e7
  have g8 : ∃ x, DataW.trod enc Try.prog w base spare held n 2 [c10] = some x := ⟨xs[8]'(by rw [hxl]; decide), by have h := hg 8 _ rfl; rw [List.getElem?_eq_getElem (by rw [hxl]; decide)] at h; exact h⟩
  obtain ⟨x8, g8⟩ := g8
  obtain ⟨z8, e8, _, _⟩ := DataW.trod_int Try.underlying2 g8
  simp at e8
  subst e8
  have g9 : ∃ x, DataW.trod enc Try.prog w base spare held n 23 [c11] = some x := ⟨xs[9]'(by rw [hxl]; decide), by have h := hg 9 _ rfl; rw [List.getElem?_eq_getElem (by rw [hxl]; decide)] at h; exact h⟩
  obtain ⟨x9, g9⟩ := g9
  obtain ⟨y9, rfl, r9⟩ := read_flat (m := 4) (by decide) Try.underlying23 (by kernel_rfl) (ints_cells 4 Try.underlying63 rfl (by kernel_rfl) (fun i f hi => by
    match i, hi with
    | 0, hi => simp at hi; subst hi; exact ⟨rfl, rfl⟩
    | 1, hi => simp at hi; subst hi; exact ⟨rfl, rfl⟩
    | 2, hi => simp at hi; subst hi; exact ⟨rfl, rfl⟩
    | 3, hi => simp at hi; subst hi; exact ⟨rfl, rfl⟩
    | j + 4, hi => simp at hi)) g9
  have g10 : ∃ x, DataW.trod enc Try.prog w base spare held n 45 [c12] = some x := ⟨xs[10]'(by rw [hxl]; decide), by have h := hg 10 _ rfl; rw [List.getElem?_eq_getElem (by rw [hxl]; decide)] at h; exact h⟩
  obtain ⟨x10, g10⟩ := g10
  obtain ⟨y10, rfl, r10⟩ := read_flat (m := 2) (by decide) Try.underlying45 (by kernel_rfl) (ints_cells 2 Try.underlying102 rfl (by kernel_rfl) (fun i f hi => by
    match i, hi with
    | 0, hi => simp at hi; subst hi; exact ⟨rfl, rfl⟩
    | 1, hi => simp at hi; subst hi; exact ⟨rfl, rfl⟩
    | j + 2, hi => simp at hi)) g10
  have g11 : ∃ x, DataW.trod enc Try.prog w base spare held n 42 [c13] = some x := ⟨xs[11]'(by rw [hxl]; decide), by have h := hg 11 _ rfl; rw [List.getElem?_eq_getElem (by rw [hxl]; decide)] at h; exact h⟩
  obtain ⟨x11, g11⟩ := g11
  obtain ⟨b11, r11, B11⟩ := read_intsB Try.underlying42 Try.underlying5 (by kernel_rfl) g11
  obtain ⟨a11, k11, rfl⟩ := r11.form
  exact ⟨⟨z0, z1, z2, z3, z4, y5, y6, z7, z8, y9, y10, ⟨0, a11, k11, b11⟩⟩, rfl, ⟨r5, r6, r9, r10, r11⟩, B5, B6, fun x hx => by have := B11 x hx; exact ⟨this.1, this.2⟩⟩
theorem list16 {cs : List Value} (h : cs.length = 16) : ∃ a0 a1 c0 c1 c2 c3 c4 c5 c6 c7 c8 c9 c10 c11 c12 c13, cs = [a0, a1, c0, c1, c2, c3, c4, c5, c6, c7, c8, c9, c10, c11, c12, c13] := by
  match cs, h with
  | [a0, a1, c0, c1, c2, c3, c4, c5, c6, c7, c8, c9, c10, c11, c12, c13], _ => exact ⟨a0, a1, c0, c1, c2, c3, c4, c5, c6, c7, c8, c9, c10, c11, c12, c13, rfl⟩
theorem read_logFrame (n : Nat) (cs : List Value) (x : DataW H × List MemPlace) (hl : cs.length = 16) (h : DataW.trod enc Try.prog w base spare held n 49 cs = some x) :
    ∃ p : StLogFrame, cs = kFr.cells p ∧ Rd .u8 w (kFr.v p) (kFr.bs p) ∧ StLogFrame.rd w p ∧ p.isB := by
  obtain ⟨a0, a1, c0, c1, c2, c3, c4, c5, c6, c7, c8, c9, c10, c11, c12, c13, rfl⟩ := list16 hl
  obtain ⟨xs, n, _, _, _, hxl, hg⟩ := DataW.trod_struct Try.underlying49 h
  have g0 : ∃ x, DataW.trod enc Try.prog w base spare held n 2 [a0] = some x := ⟨xs[0]'(by rw [hxl]; decide), by have h := hg 0 _ rfl; rw [List.getElem?_eq_getElem (by rw [hxl]; decide)] at h; exact h⟩
  obtain ⟨x0, g0⟩ := g0
  obtain ⟨z0, e0, _, _⟩ := DataW.trod_int Try.underlying2 g0
  simp at e0
  subst e0
  have g1 : ∃ x, DataW.trod enc Try.prog w base spare held n 2 [a1] = some x := ⟨xs[1]'(by rw [hxl]; decide), by have h := hg 1 _ rfl; rw [List.getElem?_eq_getElem (by rw [hxl]; decide)] at h; exact h⟩
  obtain ⟨x1, g1⟩ := g1
  obtain ⟨z1, e1, _, _⟩ := DataW.trod_int Try.underlying2 g1
  simp at e1
  subst e1
  have g2 : ∃ x, DataW.trod enc Try.prog w base spare held n 47 [c0, c1, c2, c3, c4, c5, c6, c7, c8, c9, c10, c11, c12, c13] = some x := ⟨xs[2]'(by rw [hxl]; decide), by have h := hg 2 _ rfl; rw [List.getElem?_eq_getElem (by rw [hxl]; decide)] at h; exact h⟩
  obtain ⟨x2, g2⟩ := g2
  obtain ⟨r, hr, hrd, hB⟩ := read_logRecord g2
  exact ⟨⟨z0, z1, r⟩, by rw [hr]; rfl, ⟨by simp [kFr], .inl ⟨rfl, none, 0, rfl, fun _ => rfl⟩⟩, hrd, hB⟩
theorem open_frames {r : Reach} {b0 : Nat} {v : Value} {d : DataW H} {p : List MemPlace} (hv : Value.okWide Try.prog w r b0 22 v) (h : DataW.Trod enc Try.prog w base spare held 22 v d p) :
    ∃ ps : List StLogFrame, RdFr w v ps ∧ ∀ p ∈ ps, p.isB := by
  obtain ⟨fuel, hf⟩ := h
  obtain ⟨a, n, c, rfl⟩ := okWide_slice Try.underlying22 hv
  have iE : Inhabited StLogFrame := ⟨zFr⟩
  obtain ⟨ps, h1, h2⟩ := read_rows kFr (fun p => StLogFrame.rd w p ∧ p.isB) (by decide) Try.underlying22 (by kernel_rfl) (fun n cs x hl h => read_logFrame n cs x hl h) hf
  exact ⟨ps, ⟨h1, fun p hp => (h2 p hp).1⟩, fun p hp => (h2 p hp).2⟩
end
end Go.Proofs.Ythbocacnfhpidaa

namespace Go.Proofs.Ythbocacnfhpidaa
open Go
set_option linter.unusedVariables false
set_option linter.unusedSimpArgs false
abbrev F5 := Int × Int × Int × Int × Int
abbrev Q4 := Int × Int × Int × Int
abbrev U3 := Int × Int × Int
def q4z : Q4 := (0, 0, 0, 0)
def nbg {α : Type} (f : α → α → Bool) : List α → Bool
  | a :: b :: t => f a b || nbg f (b :: t)
  | _ => false
theorem nbg_iff {α : Type} (f : α → α → Bool) : ∀ ls : List α, nbg f ls = true ↔ ∃ (k : Nat) (h : k + 1 < ls.length), f ls[k] ls[k + 1] = true
  | [] => by simp [nbg]
  | [a] => by simp [nbg]
  | a :: b :: t => by
    have ih := nbg_iff f (b :: t)
    simp only [nbg, Bool.or_eq_true]
    constructor
    · rintro (h | h)
      · exact ⟨0, by simp, h⟩
      · obtain ⟨k, hk, h⟩ := ih.1 h
        exact ⟨k + 1, by simpa using hk, by simpa using h⟩
    · rintro ⟨k, hk, h⟩
      match k, hk, h with
      | 0, _, h => exact .inl h
      | k + 1, hk, h => exact .inr (ih.2 ⟨k, by simpa using hk, by simpa using h⟩)
theorem nbg_no {α : Type} {f : α → α → Bool} {ls : List α} (h : ∀ (k : Nat) (h : k + 1 < ls.length), f ls[k] ls[k + 1] = false) : nbg f ls = false := by
  cases e : nbg f ls with
  | false => rfl
  | true => obtain ⟨k, hk, hf⟩ := (nbg_iff f ls).1 e; rw [h k hk] at hf; cases hf
theorem nbg_yes {α : Type} {f : α → α → Bool} {ls : List α} (k : Nat) (h : k + 1 < ls.length) (hf : f ls[k] ls[k + 1] = true) : nbg f ls = true := (nbg_iff f ls).2 ⟨k, h, hf⟩
theorem nbg_at {α : Type} {f : α → α → Bool} {ls : List α} (hn : nbg f ls = false) (k : Nat) (h : k + 1 < ls.length) : f ls[k] ls[k + 1] = false := by
  cases e : f ls[k] ls[k + 1] with
  | false => rfl
  | true => rw [nbg_yes k h e] at hn; cases hn
def fAfter (a b : F5) : Bool := decide (b.1 ≤ a.1)
def tAfter (a b : Q4) : Bool := decide (b.1 ≤ a.1)
def tNeg (e : Q4) : Bool := decide (e.2.2.2 < 0)
def puBad (fs : List F5) (ts : List Q4) : Bool := nbg fAfter fs || (nbg tAfter ts || (decide (8 < ts.length) || ts.any tNeg))
theorem rise_at {fs : List F5} (h : nbg fAfter fs = false) : ∀ (j i : Nat) (hj : j < fs.length) (hi : i < j), fs[i].1 < fs[j].1
  | 0, i, hj, hi => by omega
  | j + 1, i, hj, hi => by
    have h1 := nbg_at h j hj
    simp only [fAfter, decide_eq_false_iff_not, Int.not_le] at h1
    by_cases e : i = j
    · subst e; exact h1
    · have := rise_at h j i (by omega) (by omega)
      omega
def findF (fs : List F5) (u : Int) : Option F5 := fs.find? (fun d => d.1 == u)
theorem findF_at {fs : List F5} (h : nbg fAfter fs = false) {i : Nat} (hi : i < fs.length) : findF fs fs[i].1 = some fs[i] := by
  unfold findF
  rw [List.find?_eq_some_iff_getElem]
  refine ⟨by simp, i, hi, rfl, fun j hj => ?_⟩
  have := rise_at h i j hi hj
  simp only [Bool.not_eq_true', beq_eq_false_iff_ne]
  omega
theorem findF_none {fs : List F5} {u : Int} (h : ∀ (i : Nat) (hi : i < fs.length), fs[i].1 ≠ u) : findF fs u = none := by
  unfold findF
  rw [List.find?_eq_none]
  intro d hd
  obtain ⟨i, hi, rfl⟩ := List.getElem_of_mem hd
  simpa using h i hi
def backTo (d : F5) : Int := if d.2.1 = 1 then d.2.2.2.1 else d.2.2.2.2
def backSt (d : F5) (e : Q4) : List U3 := if d.2.1 = 1 then [(2, e.1, e.2.2.2)] else []
def stepU (fs : List F5) (e : Q4) : Option (List U3 × Int) :=
  match findF fs e.2.2.2 with
  | none => none
  | some d => if (d.2.1 = 1 ∨ d.2.1 = 2) ∧ d.2.2.1 = e.1 then (if backTo d < e.2.2.2 then some (backSt d e, backTo d) else none) else none
def gJ (left : List Q4) : Nat → Nat
  | 0 => 0
  | i + 1 => if (left.getD (gJ left i) q4z).2.2.2 < (left.getD i q4z).2.2.2 then i else gJ left i
def gmx (left : List Q4) : Nat := gJ left left.length
theorem gJ_lt (left : List Q4) : ∀ i, 0 < left.length → i ≤ left.length → gJ left i < left.length
  | 0, h, _ => h
  | i + 1, h, hi => by
    unfold gJ
    split
    · omega
    · exact gJ_lt left i h (by omega)
theorem gJ_max (left : List Q4) : ∀ i j, j < i → (left.getD j q4z).2.2.2 ≤ (left.getD (gJ left i) q4z).2.2.2
  | 0, j, h => by omega
  | i + 1, j, h => by
    unfold gJ
    by_cases e : j = i
    · subst e
      split <;> omega
    · have := gJ_max left i j (by omega)
      split <;> omega
def updU (e : Q4) (nx : Int) : Q4 := (e.1, e.2.1, e.2.2.1, nx)
def planM (fs : List F5) : Nat → List Q4 → List U3 → Int × List U3
  | _, [], st => (0, st)
  | 0, _ :: _, st => (3, [])
  | n + 1, a :: t, st => match stepU fs ((a :: t).getD (gmx (a :: t)) q4z) with
    | none => (1, [])
    | some (ss, nx) => if nx = 0 then planM fs n ((a :: t).eraseIdx (gmx (a :: t))) (st ++ ss ++ [(5, ((a :: t).getD (gmx (a :: t)) q4z).1, 0)]) else planM fs n ((a :: t).set (gmx (a :: t)) (updU ((a :: t).getD (gmx (a :: t)) q4z) nx)) (st ++ ss)
def planP (fs : List F5) : Nat → List Q4 → List U3 → Int × List U3
  | _, [], st => (0, st)
  | 0, _ :: _, st => (3, [])
  | n + 1, a :: t, st => match stepU fs ((a :: t).getD (gmx (a :: t)) q4z) with
    | none => (1, [])
    | some (ss, nx) => if nx = 0 then planP fs n ((a :: t).eraseIdx (gmx (a :: t))) (st ++ ss ++ [(5, ((a :: t).getD (gmx (a :: t)) q4z).1, 0)]) else planP fs n ((a :: t).eraseIdx (gmx (a :: t)) ++ [updU ((a :: t).getD (gmx (a :: t)) q4z) nx]) (st ++ ss)
def mu1 (fs : List F5) (e : Q4) : Nat := (fs.countP (fun d => decide (d.1 ≤ e.2.2.2))) + 1
def mu (fs : List F5) (left : List Q4) : Nat := (left.map (mu1 fs)).sum
theorem stepU_lt {fs : List F5} {e : Q4} {ss : List U3} {nx : Int} (h : stepU fs e = some (ss, nx)) : nx < e.2.2.2 ∧ ∃ d ∈ fs, d.1 = e.2.2.2 := by
  unfold stepU at h
  cases hf : findF fs e.2.2.2 with
  | none => rw [hf] at h; simp at h
  | some d =>
    rw [hf] at h
    simp only at h
    split at h
    · split at h
      · simp only [Option.some.injEq, Prod.mk.injEq] at h
        refine ⟨by omega, d, List.mem_of_find?_eq_some hf, ?_⟩
        have := List.find?_some hf
        simpa using this
      · simp at h
    · simp at h
theorem countP_lt {fs : List F5} {a b : Int} (hab : a < b) (hb : ∃ d ∈ fs, d.1 = b) : fs.countP (fun d => decide (d.1 ≤ a)) < fs.countP (fun d => decide (d.1 ≤ b)) := by
  obtain ⟨d, hd, hdb⟩ := hb
  induction fs with
  | nil => simp at hd
  | cons c t ih =>
    have hle : t.countP (fun d => decide (d.1 ≤ a)) ≤ t.countP (fun d => decide (d.1 ≤ b)) := List.countP_mono_left (fun x _ h => by simp at h ⊢; omega)
    rw [List.countP_cons, List.countP_cons]
    rcases List.mem_cons.1 hd with rfl | hd
    · have h1 : ¬ d.1 ≤ a := by omega
      have h2 : d.1 ≤ b := by omega
      simp [h1, h2]
      omega
    · have := ih hd
      by_cases h1 : c.1 ≤ a
      · have h2 : c.1 ≤ b := by omega
        simp [h1, h2]
        omega
      · by_cases h2 : c.1 ≤ b
        · simp [h1, h2]
          omega
        · simp [h1, h2]
          omega
theorem mu1_lt {fs : List F5} {e : Q4} {ss : List U3} {nx : Int} (h : stepU fs e = some (ss, nx)) : mu1 fs (updU e nx) < mu1 fs e := by
  obtain ⟨h1, h2⟩ := stepU_lt h
  have := countP_lt h1 h2
  show fs.countP (fun d => decide (d.1 ≤ nx)) + 1 < fs.countP (fun d => decide (d.1 ≤ e.2.2.2)) + 1
  omega
theorem mu_perm (fs : List F5) {a b : List Q4} (h : a.Perm b) : mu fs a = mu fs b := (h.map _).sum_nat
theorem mu_cons (fs : List F5) (e : Q4) (t : List Q4) : mu fs (e :: t) = mu1 fs e + mu fs t := by simp [mu]
theorem cons_erase : ∀ (l : List Q4) (k : Nat) (h : k < l.length), (l[k] :: l.eraseIdx k).Perm l
  | a :: t, 0, _ => List.Perm.refl _
  | a :: t, k + 1, h => (List.Perm.swap a (t[k]'(by simpa using h)) (t.eraseIdx k)).trans ((cons_erase t k (by simpa using h)).cons a)
theorem erase_perm {left : List Q4} {k : Nat} (hk : k < left.length) : (left.getD k q4z :: left.eraseIdx k).Perm left := by
  rw [List.getD_eq_getElem?_getD, List.getElem?_eq_getElem hk]
  exact cons_erase left k hk
theorem set_perm {left : List Q4} {k : Nat} (hk : k < left.length) (e : Q4) : (left.set k e).Perm (e :: left.eraseIdx k) := by
  have h := cons_erase (left.set k e) k (by simpa using hk)
  rw [List.getElem_set_self, List.eraseIdx_set_eq] at h
  exact h.symm
theorem snoc_perm (t : List Q4) (e : Q4) : (t ++ [e]).Perm (e :: t) := by
  exact List.perm_append_comm (l₁ := t) (l₂ := [e])
theorem gmx_lt {left : List Q4} (h : 0 < left.length) : gmx left < left.length := gJ_lt left _ h (Nat.le_refl _)
theorem gmx_mem {left : List Q4} (h : 0 < left.length) : left.getD (gmx left) q4z ∈ left := by
  rw [List.getD_eq_getElem?_getD, List.getElem?_eq_getElem (gmx_lt h)]
  exact List.getElem_mem _
theorem gmx_max {left : List Q4} {e : Q4} (h : e ∈ left) : e.2.2.2 ≤ (left.getD (gmx left) q4z).2.2.2 := by
  obtain ⟨j, hj, rfl⟩ := List.getElem_of_mem h
  have := gJ_max left left.length j hj
  rw [List.getD_eq_getElem?_getD, List.getElem?_eq_getElem hj] at this
  exact this
theorem planM_step {fs : List F5} {n : Nat} {left : List Q4} {st : List U3} (h : 0 < left.length) : planM fs (n + 1) left st = match stepU fs (left.getD (gmx left) q4z) with
    | none => (1, [])
    | some (ss, nx) => if nx = 0 then planM fs n (left.eraseIdx (gmx left)) (st ++ ss ++ [(5, (left.getD (gmx left) q4z).1, 0)]) else planM fs n (left.set (gmx left) (updU (left.getD (gmx left) q4z) nx)) (st ++ ss) := by
  cases left with
  | nil => simp at h
  | cons a t => rfl
theorem planP_step {fs : List F5} {n : Nat} {left : List Q4} {st : List U3} (h : 0 < left.length) : planP fs (n + 1) left st = match stepU fs (left.getD (gmx left) q4z) with
    | none => (1, [])
    | some (ss, nx) => if nx = 0 then planP fs n (left.eraseIdx (gmx left)) (st ++ ss ++ [(5, (left.getD (gmx left) q4z).1, 0)]) else planP fs n (left.eraseIdx (gmx left) ++ [updU (left.getD (gmx left) q4z) nx]) (st ++ ss) := by
  cases left with
  | nil => simp at h
  | cons a t => rfl
theorem mu_pos {fs : List F5} {left : List Q4} (h : 0 < left.length) : 0 < mu fs left := by
  cases left with
  | nil => simp at h
  | cons a t =>
    rw [mu_cons]
    have : 0 < mu1 fs a := Nat.succ_pos _
    omega
theorem mu_erase {fs : List F5} {left : List Q4} (h : 0 < left.length) : mu fs (left.eraseIdx (gmx left)) < mu fs left := by
  rw [← mu_perm fs (erase_perm (gmx_lt h)), mu_cons]
  have : 0 < mu1 fs (left.getD (gmx left) q4z) := Nat.succ_pos _
  omega
theorem mu_upd {fs : List F5} {left : List Q4} (h : 0 < left.length) {ss : List U3} {nx : Int} (hs : stepU fs (left.getD (gmx left) q4z) = some (ss, nx)) : mu fs (updU (left.getD (gmx left) q4z) nx :: left.eraseIdx (gmx left)) < mu fs left := by
  rw [← mu_perm fs (erase_perm (gmx_lt h)), mu_cons, mu_cons]
  have := mu1_lt hs
  omega
theorem bad_keep {fs : List F5} {left : List Q4} {e : Q4} (he : e ∈ left) (hb : stepU fs e = none) {p : List U3 × Int} (hs : stepU fs (left.getD (gmx left) q4z) = some p) : e ∈ left.eraseIdx (gmx left) := by
  have h0 : 0 < left.length := List.length_pos_of_mem he
  rcases List.mem_cons.1 ((erase_perm (gmx_lt h0)).symm.mem_iff.1 he) with h | h
  · rw [← h, hb] at hs; cases hs
  · exact h
theorem planM_bad {fs : List F5} {e : Q4} (hb : stepU fs e = none) : ∀ (n : Nat) (left : List Q4) (st : List U3), e ∈ left → mu fs left ≤ n → planM fs n left st = (1, [])
  | 0, left, st, he, hm => by have := mu_pos (fs := fs) (List.length_pos_of_mem he); omega
  | n + 1, left, st, he, hm => by
    have h0 := List.length_pos_of_mem he
    rw [planM_step h0]
    cases hs : stepU fs (left.getD (gmx left) q4z) with
    | none => rfl
    | some p =>
      obtain ⟨ss, nx⟩ := p
      have hk := bad_keep he hb hs
      simp only
      split
      · exact planM_bad hb n _ _ hk (by have := mu_erase (fs := fs) h0; omega)
      · exact planM_bad hb n _ _ ((set_perm (gmx_lt h0) _).mem_iff.2 (List.mem_cons_of_mem _ hk)) (by rw [mu_perm fs (set_perm (gmx_lt h0) _)]; have := mu_upd h0 hs; omega)
theorem planP_bad {fs : List F5} {e : Q4} (hb : stepU fs e = none) : ∀ (n : Nat) (left : List Q4) (st : List U3), e ∈ left → mu fs left ≤ n → planP fs n left st = (1, [])
  | 0, left, st, he, hm => by have := mu_pos (fs := fs) (List.length_pos_of_mem he); omega
  | n + 1, left, st, he, hm => by
    have h0 := List.length_pos_of_mem he
    rw [planP_step h0]
    cases hs : stepU fs (left.getD (gmx left) q4z) with
    | none => rfl
    | some p =>
      obtain ⟨ss, nx⟩ := p
      have hk := bad_keep he hb hs
      simp only
      split
      · exact planP_bad hb n _ _ hk (by have := mu_erase (fs := fs) h0; omega)
      · exact planP_bad hb n _ _ (List.mem_append_left _ hk) (by rw [mu_perm fs (snoc_perm _ _)]; have := mu_upd h0 hs; omega)
theorem same_un {fs : List F5} {a b : Q4} {p q : List U3 × Int} (ha : stepU fs a = some p) (hb : stepU fs b = some q) (h : a.2.2.2 = b.2.2.2) : a.1 = b.1 := by
  unfold stepU at ha hb
  rw [h] at ha
  cases hf : findF fs b.2.2.2 with
  | none => rw [hf] at ha; simp at ha
  | some d =>
    rw [hf] at ha hb
    simp only at ha hb
    split at ha
    · split at hb
      · omega
      · simp at hb
    · simp at ha
theorem nodup_same {l : List Q4} (h : (l.map (·.1)).Nodup) {a b : Q4} (ha : a ∈ l) (hb : b ∈ l) (e : a.1 = b.1) : a = b := by
  induction l with
  | nil => simp at ha
  | cons c t ih =>
    simp only [List.map_cons, List.nodup_cons, List.mem_map, not_exists, not_and] at h
    rcases List.mem_cons.1 ha with rfl | ha'
    · rcases List.mem_cons.1 hb with rfl | hb'
      · rfl
      · exact absurd e.symm (h.1 b hb')
    · rcases List.mem_cons.1 hb with rfl | hb'
      · exact absurd e (h.1 a ha')
      · exact ih h.2 ha' hb'
theorem plan_same {fs : List F5} : ∀ (n : Nat) (left left' : List Q4) (st : List U3), left.Perm left' → (left.map (·.1)).Nodup → mu fs left ≤ n → planM fs n left st = planP fs n left' st
  | n, [], left', st, hp, _, _ => by rw [List.nil_perm.1 hp]; cases n <;> rfl
  | 0, a :: t, left', st, hp, hn, hm => by have := mu_pos (fs := fs) (left := a :: t) (by simp); omega
  | n + 1, a :: t, left', st, hp, hn, hm => by
    generalize hl : a :: t = left at *
    have h0 : 0 < left.length := by rw [← hl]; simp
    have h0' : 0 < left'.length := by rw [← hp.length_eq]; exact h0
    by_cases hbad : ∃ e ∈ left, stepU fs e = none
    · obtain ⟨e, he, hb⟩ := hbad
      rw [planM_bad hb _ _ _ he hm, planP_bad hb _ _ _ (hp.mem_iff.1 he) (by rw [← mu_perm fs hp]; exact hm)]
    · have hgood : ∀ e ∈ left, ∃ p, stepU fs e = some p := fun e he => by
        cases hs : stepU fs e with
        | none => exact absurd ⟨e, he, hs⟩ hbad
        | some p => exact ⟨p, rfl⟩
      have hm1 := gmx_mem h0
      have hm2 := hp.mem_iff.2 (gmx_mem h0')
      have he : left.getD (gmx left) q4z = left'.getD (gmx left') q4z := by
        obtain ⟨p, hs1⟩ := hgood _ hm1
        obtain ⟨q, hs2⟩ := hgood _ hm2
        have hu : (left.getD (gmx left) q4z).2.2.2 = (left'.getD (gmx left') q4z).2.2.2 := by
          have h1 := gmx_max hm2
          have h2 := gmx_max (hp.mem_iff.1 hm1)
          omega
        exact nodup_same hn hm1 hm2 (same_un hs1 hs2 hu)
      have hE : (left.eraseIdx (gmx left)).Perm (left'.eraseIdx (gmx left')) := by
        have h1 := ((erase_perm (gmx_lt h0)).trans hp).trans (erase_perm (gmx_lt h0')).symm
        rw [he] at h1
        exact h1.cons_inv
      have hN : ((left.getD (gmx left) q4z).1 :: (left.eraseIdx (gmx left)).map (·.1)).Nodup := by
        have := ((erase_perm (gmx_lt h0)).map (·.1)).nodup_iff.2 hn
        simpa using this
      rw [planM_step h0, planP_step h0', ← he]
      cases hs : stepU fs (left.getD (gmx left) q4z) with
      | none => rfl
      | some p =>
        obtain ⟨ss, nx⟩ := p
        simp only
        split
        · exact plan_same n _ _ _ hE (List.nodup_cons.1 hN).2 (by have := mu_erase (fs := fs) h0; omega)
        · refine plan_same n _ _ _ ?_ ?_ ?_
          · exact (set_perm (gmx_lt h0) _).trans ((hE.cons _).trans (snoc_perm _ _).symm)
          · refine ((set_perm (gmx_lt h0) _).map (·.1)).nodup_iff.2 ?_
            simpa [updU] using hN
          · rw [mu_perm fs (set_perm (gmx_lt h0) _)]
            have := mu_upd h0 hs
            omega
theorem stepU_ss {fs : List F5} {e : Q4} {ss : List U3} {nx : Int} (h : stepU fs e = some (ss, nx)) : ss.length ≤ 1 := by
  unfold stepU at h
  cases hf : findF fs e.2.2.2 with
  | none => rw [hf] at h; simp at h
  | some d =>
    rw [hf] at h
    simp only at h
    split at h
    · split at h
      · simp only [Option.some.injEq, Prod.mk.injEq] at h
        rw [← h.1]
        unfold backSt
        split <;> simp
      · simp at h
    · simp at h
def isDone (e : Q4) : Bool := decide (e.2.1 = 2) || decide (e.2.2.2 = 0)
def leftU (ts : List Q4) : List Q4 := ts.filter (fun e => !isDone e)
def endsU (ts : List Q4) : List U3 := (ts.filter isDone).map (fun e => (5, e.1, 0))
theorem leftU_snoc (ts : List Q4) (e : Q4) : leftU (ts ++ [e]) = if isDone e = true then leftU ts else leftU ts ++ [e] := by
  unfold leftU
  rw [List.filter_append]
  by_cases h : isDone e = true
  · simp [h]
  · simp [h]
theorem endsU_snoc (ts : List Q4) (e : Q4) : endsU (ts ++ [e]) = if isDone e = true then endsU ts ++ [(5, e.1, 0)] else endsU ts := by
  unfold endsU
  rw [List.filter_append]
  by_cases h : isDone e = true
  · simp [h]
  · simp [h]
def flat3U : List U3 → List Int
  | [] => []
  | (a, b, c) :: t => a :: b :: c :: flat3U t
theorem flat3U_append : ∀ xs ys : List U3, flat3U (xs ++ ys) = flat3U xs ++ flat3U ys
  | [], ys => rfl
  | (a, b, c) :: t, ys => by simp [flat3U, flat3U_append t ys]
theorem flat3U_length : ∀ ls : List U3, (flat3U ls).length = ls.length * 3
  | [] => rfl
  | (a, b, c) :: t => by simp [flat3U, flat3U_length t]; omega
def fuelU (fs : List F5) (ts : List Q4) : Nat := mu fs (leftU ts)
def planD (fs : List F5) (ts : List Q4) : Int × List Int := if puBad fs ts = true then (2, []) else ((planM fs (fuelU fs ts) (leftU ts) (endsU ts)).1, flat3U (planM fs (fuelU fs ts) (leftU ts) (endsU ts)).2)
theorem mu_le (fs : List F5) : ∀ left : List Q4, mu fs left ≤ left.length * (fs.length + 1)
  | [] => by simp [mu]
  | e :: t => by
    have ih := mu_le fs t
    have h1 : mu1 fs e ≤ fs.length + 1 := by have := List.countP_le_length (p := fun d : F5 => decide (d.1 ≤ e.2.2.2)) (l := fs); unfold mu1; omega
    rw [mu_cons, List.length_cons, Nat.succ_mul]
    omega
theorem planM_len {fs : List F5} : ∀ (n : Nat) (left : List Q4) (st : List U3), (planM fs n left st).2.length ≤ st.length + 2 * n
  | n, [], st => by cases n <;> simp [planM]
  | 0, a :: t, st => by simp [planM]
  | n + 1, a :: t, st => by
    have h0 : 0 < (a :: t).length := by simp
    rw [planM_step h0]
    cases hs : stepU fs ((a :: t).getD (gmx (a :: t)) q4z) with
    | none => simp
    | some p =>
      obtain ⟨ss, nx⟩ := p
      have hss := stepU_ss hs
      simp only
      split
      · have := planM_len (fs := fs) n ((a :: t).eraseIdx (gmx (a :: t))) (st ++ ss ++ [(5, ((a :: t).getD (gmx (a :: t)) q4z).1, 0)])
        simp only [List.length_append, List.length_cons, List.length_nil] at this
        omega
      · have := planM_len (fs := fs) n ((a :: t).set (gmx (a :: t)) (updU ((a :: t).getD (gmx (a :: t)) q4z) nx)) (st ++ ss)
        simp only [List.length_append] at this
        omega
theorem leftU_len (ts : List Q4) : (leftU ts).length ≤ ts.length := List.length_filter_le _ _
theorem endsU_len (ts : List Q4) : (endsU ts).length ≤ ts.length := by unfold endsU; rw [List.length_map]; exact List.length_filter_le _ _
theorem fuel_le {fs : List F5} {ts : List Q4} (h : ts.length ≤ 8) : fuelU fs ts ≤ 8 * (fs.length + 1) := Nat.le_trans (mu_le fs _) (Nat.mul_le_mul_right _ (Nat.le_trans (leftU_len ts) h))
theorem bad_len {fs : List F5} {ts : List Q4} (h : puBad fs ts = false) : ts.length ≤ 8 := by
  simp only [puBad, Bool.or_eq_false_iff, decide_eq_false_iff_not] at h
  omega
theorem planD_len (fs : List F5) (ts : List Q4) : (planD fs ts).2.length ≤ 3 * (8 + 16 * (fs.length + 1)) := by
  unfold planD
  split
  · simp
  · rename_i h
    have hb := bad_len (by simpa using h)
    rw [flat3U_length]
    have h1 := planM_len (fs := fs) (fuelU fs ts) (leftU ts) (endsU ts)
    have h2 := fuel_le (fs := fs) hb
    have h3 := endsU_len ts
    omega
theorem txn_nodup {ts : List Q4} (h : nbg tAfter ts = false) : (ts.map (·.1)).Nodup := by
  have hr : ∀ (j i : Nat) (hj : j < ts.length) (hi : i < j), ts[i].1 < ts[j].1 := by
    intro j
    induction j with
    | zero => intro i hj hi; omega
    | succ j ih =>
      intro i hj hi
      have h1 := nbg_at h j hj
      simp only [tAfter, decide_eq_false_iff_not, Int.not_le] at h1
      by_cases e : i = j
      · subst e; exact h1
      · have := ih i (by omega) (by omega)
        omega
  unfold List.Nodup
  rw [List.pairwise_map, List.pairwise_iff_getElem]
  intro i j hi hj hij
  have := hr j i hj hij
  omega
theorem plan_eq {fs : List F5} {ts : List Q4} (h : puBad fs ts = false) : planM fs (fuelU fs ts) (leftU ts) (endsU ts) = planP fs (fuelU fs ts) (leftU ts) (endsU ts) := by
  simp only [puBad, Bool.or_eq_false_iff] at h
  refine plan_same _ _ _ _ (List.Perm.refl _) ?_ (Nat.le_refl _)
  exact (List.filter_sublist.map _).nodup (txn_nodup h.2.1)
end Go.Proofs.Ythbocacnfhpidaa

namespace Go.Proofs.Ythbocacnfhpidaa
set_option maxHeartbeats 2000000
open Go.RowKit
set_option linter.unusedVariables false
set_option linter.unusedSimpArgs false
theorem Try.infoUndoStep : (Try.prog.info? 54).map (fun i => (i.zero, i.size, i.bytes)) = some (some (.agg #[.int .i64 0, .int .i64 0, .int .i64 0]), 3, 24) := by kernel_rfl
theorem eqUndoStep_any (x0 x1 x2 : Int) (w : World) : Calls Try.prog 44 #[.agg #[.int .i64 x0, .int .i64 x1, .int .i64 x2], .agg #[.int .i64 x0, .int .i64 x1, .int .i64 x2]] w fun e w' => e = .returned (.bool true) ∧ Same w w' := by
  go_enter Try.func44, Try.ntmps44
  go_wp2
  go_ret
  exact ⟨rfl, ((Kept.refl _ _).alloc _).alloc _⟩
theorem eqUndoStepS_own (x y : FR) (w : World) (hn : (x.bs.length : Int) ≤ 1125899906842624) (hd : x.bs = y.bs) (ha : OwnL w (x.rows 3)) (hb : OwnL w (y.rows 3)) :
    Calls Try.prog 30 #[x.v, y.v] w fun e w' => e = .returned (.bool true) ∧ Same w w' := by
  have hla := FR.own_len ha
  have hlb := FR.own_len hb
  have hfa := FR.own_form ha
  have hfb := FR.own_form hb
  obtain ⟨xe, xa, xn, xc, bs⟩ := x
  obtain ⟨ye, ya, yn, yc, bs'⟩ := y
  dsimp only at hn hd hla hlb hfa hfb
  subst hd
  obtain rfl : xn = yn := by omega
  dsimp only [FR.v]
  clear ha hb
  rcases hfa with ⟨rfl, rfl, rfl⟩ | ⟨ga, rfl, hac, hcm, hoa⟩
  · have hz : (0 : Nat) = 0 := rfl
    go_enter Try.func30, Try.ntmps30
    go_wp2
    refine wp_loop_rounds 1 ?_
    rw [rounds_succ]
    go_wp2
    go_ret
    exact ⟨rfl, Kept.refl _ _⟩
  rcases hfb with ⟨rfl, rfl, rfl⟩ | ⟨gb, rfl, hbc, hcm', hob⟩
  · clear hoa
    go_enter Try.func30, Try.ntmps30
    go_wp2
    refine wp_loop_rounds 1 ?_
    rw [rounds_succ]
    go_wp2
    go_ret
    exact ⟨rfl, Kept.refl _ _⟩
  have HA := (show Hid (OwnF 3 xe w ga xn xc bs) from hoa)
  have HB := (show Hid (OwnF 3 ye w gb xn yc bs) from hob)
  have hxn : (xn : Int) ≤ 1125899906842624 := by omega
  clear hoa hob hla hlb hn
  go_enter Try.func30, Try.ntmps30
  go_wp2
  go_loopw [5] (fun i wr => ∃ (k : Nat), k ≤ xn ∧ i = .int .i64 k ∧ Hid (Same w wr)) (fun i _ => xn - (intOf i).toNat)
  case atStart => exact ⟨0, Nat.zero_le _, rfl, Kept.refl _ _⟩
  case round =>
    obtain ⟨k, hk, rfl, HK⟩ := hrel
    by_cases hlt : k < xn
    · have hoa := HA.out.same HK.out
      have hob := HB.out.same HK.out
      have ha0 : wr.cell? ⟨ga, k * 3, none⟩ = some (.int .i64 (bs.getD (k * 3) 0)) := hoa.cell _ (by omega)
      have ha1 : wr.cell? ⟨ga, k * 3 + 1, none⟩ = some (.int .i64 (bs.getD (k * 3 + 1) 0)) := hoa.cell _ (by omega)
      have ha2 : wr.cell? ⟨ga, k * 3 + 2, none⟩ = some (.int .i64 (bs.getD (k * 3 + 2) 0)) := hoa.cell _ (by omega)
      have hb0 : wr.cell? ⟨gb, k * 3, none⟩ = some (.int .i64 (bs.getD (k * 3) 0)) := hob.cell _ (by omega)
      have hb1 : wr.cell? ⟨gb, k * 3 + 1, none⟩ = some (.int .i64 (bs.getD (k * 3 + 1) 0)) := hob.cell _ (by omega)
      have hb2 : wr.cell? ⟨gb, k * 3 + 2, none⟩ = some (.int .i64 (bs.getD (k * 3 + 2) 0)) := hob.cell _ (by omega)
      clear hoa hob
      generalize bs.getD (k * 3) 0 = x0 at *
      generalize bs.getD (k * 3 + 1) 0 = x1 at *
      generalize bs.getD (k * 3 + 2) 0 = x2 at *
      go_wp2_with fail
      go_region_with (go_at_call 44; refine (eqUndoStep_any x0 x1 x2 _).mono ?_; rintro e w1 ⟨rfl, hk1⟩)
      all_goals
        have HK1 : Hid (Same w w1) := HK.out.drew.trans hk1
        clear hk1 ha0 hb0 ha1 hb1 ha2 hb2
        go_wp2
        go_roundw
        case rel => exact ⟨k + 1, by omega, by go_num, HK1⟩
        case measure => simp [intOf]; omega
    · go_wp2
      go_ret
      exact ⟨rfl, HK.out⟩
end Go.Proofs.Ythbocacnfhpidaa

namespace Go.Proofs.Ythbocacnfhpidaa
open Go.RowKit
set_option linter.unusedVariables false
set_option linter.unusedSimpArgs false
def quad : List Int → List Q4
  | a :: b :: c :: d :: t => (a, b, c, d) :: quad t
  | _ => []
def flat4 : List Q4 → List Int
  | [] => []
  | (a, b, c, d) :: t => a :: b :: c :: d :: flat4 t
theorem quad_length : ∀ (n : Nat) (bs : List Int), bs.length = n * 4 → (quad bs).length = n
  | 0, bs, h => by obtain rfl : bs = [] := List.length_eq_zero_iff.1 (by omega); rfl
  | n + 1, a :: b :: c :: d :: t, h => by simp [quad, quad_length n t (by simp at h; omega)]
  | n + 1, [], h => by simp at h
  | n + 1, [a], h => by simp at h; omega
  | n + 1, [a, b], h => by simp at h; omega
  | n + 1, [a, b, c], h => by simp at h; omega
theorem flat4_length : ∀ ls : List Q4, (flat4 ls).length = ls.length * 4
  | [] => rfl
  | (a, b, c, d) :: t => by simp [flat4, flat4_length t]; omega
theorem flat4_append : ∀ xs ys : List Q4, flat4 (xs ++ ys) = flat4 xs ++ flat4 ys
  | [], ys => rfl
  | (a, b, c, d) :: t, ys => by simp [flat4, flat4_append t ys]
theorem flat4_at : ∀ (ls : List Q4) (k : Nat), k < ls.length → (flat4 ls).getD (k * 4) 0 = (ls.getD k q4z).1 ∧ (flat4 ls).getD (k * 4 + 1) 0 = (ls.getD k q4z).2.1 ∧ (flat4 ls).getD (k * 4 + 2) 0 = (ls.getD k q4z).2.2.1 ∧ (flat4 ls).getD (k * 4 + 3) 0 = (ls.getD k q4z).2.2.2
  | (a, b, c, d) :: t, 0, h => by simp [flat4]
  | (a, b, c, d) :: t, k + 1, h => by
    have ih := flat4_at t k (by simpa using h)
    rw [show (k + 1) * 4 = k * 4 + 4 by omega]
    simpa [flat4, List.getD, show k * 4 + 4 + 1 = k * 4 + 1 + 4 by omega, show k * 4 + 4 + 2 = k * 4 + 2 + 4 by omega, show k * 4 + 4 + 3 = k * 4 + 3 + 4 by omega] using ih
  | [], k, h => by simp at h
theorem flat4_quad : ∀ (n : Nat) (bs : List Int), bs.length = n * 4 → flat4 (quad bs) = bs
  | 0, bs, h => by obtain rfl : bs = [] := List.length_eq_zero_iff.1 (by omega); rfl
  | n + 1, a :: b :: c :: d :: t, h => by simp [quad, flat4, flat4_quad n t (by simp at h; omega)]
  | n + 1, [], h => by simp at h
  | n + 1, [a], h => by simp at h; omega
  | n + 1, [a, b], h => by simp at h; omega
  | n + 1, [a, b, c], h => by simp at h; omega
theorem flat4_set : ∀ (ls : List Q4) (k : Nat) (x : Int), k < ls.length → (flat4 ls).set (k * 4 + 3) x = flat4 (ls.set k (updU (ls.getD k q4z) x))
  | (a, b, c, d) :: t, 0, x, h => by simp [flat4, updU]
  | (a, b, c, d) :: t, k + 1, x, h => by
    have ih := flat4_set t k x (by simpa using h)
    rw [show (k + 1) * 4 + 3 = k * 4 + 3 + 4 by omega]
    simpa [flat4, List.getD] using ih
  | [], k, x, h => by simp at h
theorem flat4_take (ls : List Q4) (k : Nat) : (flat4 ls).take (k * 4) = flat4 (ls.take k) := by
  induction ls generalizing k with
  | nil => simp [flat4]
  | cons e t ih =>
    obtain ⟨a, b, c, d⟩ := e
    cases k with
    | zero => simp [flat4]
    | succ k => rw [show (k + 1) * 4 = k * 4 + 4 by omega]; simp [flat4, ih]
theorem flat4_drop (ls : List Q4) (k : Nat) : (flat4 ls).drop (k * 4) = flat4 (ls.drop k) := by
  induction ls generalizing k with
  | nil => simp [flat4]
  | cons e t ih =>
    obtain ⟨a, b, c, d⟩ := e
    cases k with
    | zero => simp [flat4]
    | succ k => rw [show (k + 1) * 4 = k * 4 + 4 by omega]; simp [flat4, ih]
theorem RdF.quad {w : World} {e : TypeId} {b off n c : Nat} {ls : List Q4} (h : RdF 4 w ⟨e, some ⟨b, off, none⟩, n, c, flat4 ls⟩) (k : Nat) (hk : k < ls.length) (x y z u : Int) (hx : ls.getD k q4z = (x, y, z, u)) :
    w.cell? ⟨b, off + k * 4, none⟩ = some (.int .i64 x) ∧ w.cell? ⟨b, off + k * 4 + 1, none⟩ = some (.int .i64 y) ∧ w.cell? ⟨b, off + k * 4 + 2, none⟩ = some (.int .i64 z) ∧ w.cell? ⟨b, off + k * 4 + 3, none⟩ = some (.int .i64 u) := by
  have hl : (flat4 ls).length = n * 4 := h.2.1
  rw [flat4_length] at hl
  have h4 := flat4_at ls k hk
  rw [hx] at h4
  rcases h.2.2 with h0 | ⟨b', off', he, hle, hc⟩
  · dsimp only at h0; omega
  · dsimp only at he hc
    injection he with he
    injection he with e1 e2
    subst e1 e2
    exact ⟨by rw [hc _ (by omega), h4.1], by rw [Nat.add_assoc, hc _ (by omega), h4.2.1], by rw [Nat.add_assoc, hc _ (by omega), h4.2.2.1], by rw [Nat.add_assoc, hc _ (by omega), h4.2.2.2]⟩
theorem RdF.someQ {m : Nat} {w : World} {x : FR} (h : RdF m w x) (h0 : 0 < x.n) : ∃ b off, x.a = some ⟨b, off, none⟩ ∧ x.n ≤ x.c := by
  rcases h.2.2 with h1 | ⟨b, off, he, hle, _⟩
  · omega
  · exact ⟨b, off, he, hle⟩
def OwQ (m : Nat) (e : TypeId) (w : World) (a : Option Addr) (n c : Nat) (bs : List Int) : Prop := w.ownsRow 0 e m (.slice a n c) n (vals .i64 bs)
theorem OwQ.kept {R : Nat → Prop} {m : Nat} {e : TypeId} {w w' : World} {a : Option Addr} {n c : Nat} {bs : List Int} (h : OwQ m e w a n c bs) (hk : Kept R w w') (hr : ∀ b, (Value.slice a n c).ownBlock = some b → ¬ R b) : OwQ m e w' a n c bs := hk.owns h hr
theorem OwQ.same {m : Nat} {e : TypeId} {w w' : World} {a : Option Addr} {n c : Nat} {bs : List Int} (h : OwQ m e w a n c bs) (hk : Same w w') : OwQ m e w' a n c bs := hk.owns h (fun _ _ => id)
theorem OwQ.nil (m : Nat) (e : TypeId) (w : World) : OwQ m e w none 0 0 [] := ⟨by simp [vals], .inl ⟨rfl, rfl⟩⟩
theorem OwQ.len {m : Nat} {e : TypeId} {w : World} {a : Option Addr} {n c : Nat} {bs : List Int} (h : OwQ m e w a n c bs) : bs.length = n * m := by
  have := h.1
  rwa [vals_length] at this
theorem OwQ.rows {m : Nat} {e : TypeId} {w : World} {a : Option Addr} {n c : Nat} {bs : List Int} (h : OwQ m e w a n c bs) : OwnL w (FR.rows m ⟨e, a, n, c, bs⟩) :=
  ⟨fun r hr => by rw [List.mem_singleton.1 hr]; exact h, List.pairwise_singleton _ _⟩
theorem OwQ.lt {m : Nat} {e : TypeId} {w : World} {a : Option Addr} {n c : Nat} {bs : List Int} (h : OwQ m e w a n c bs) : ∀ b, (Value.slice a n c).ownBlock = some b → b < w.heap.size := fun b hb => h.rows.lt b ((FootL_one _ _).2 hb)
theorem OwQ.rd {m : Nat} {e : TypeId} {w : World} {a : Option Addr} {n c : Nat} {bs : List Int} (h : OwQ m e w a n c bs) : RdF m w ⟨e, a, n, c, bs⟩ := FR.own_rd h.rows
theorem OwQ.form {m : Nat} {e : TypeId} {w : World} {a : Option Addr} {n c : Nat} {bs : List Int} (h : OwQ m e w a n c bs) (h0 : 0 < n) : ∃ g, a = some ⟨g, 0, none⟩ ∧ n ≤ c ∧ c ≤ maxLen ∧ OwnF m e w g n c bs := by
  rcases FR.own_form h.rows with ⟨h1, h2, h3⟩ | ⟨g, h1, h2, h3, h4⟩
  · dsimp only at h1; omega
  · exact ⟨g, h1, h2, h3, h4⟩
theorem OwQ.max {m : Nat} {e : TypeId} {w : World} {a : Option Addr} {n c : Nat} {bs : List Int} (h : OwQ m e w a n c bs) : n ≤ maxLen := (h.rd).1
theorem OwQ.of4 {e : TypeId} {w : World} {a : Option Addr} {n c : Nat} {ls : List Q4} {x y z u : Int} (h : w.ownsRow 0 e 4 (.slice a n c) n (vals .i64 (flat4 ls) ++ [.int .i64 x, .int .i64 y, .int .i64 z, .int .i64 u])) : OwQ 4 e w a n c (flat4 (ls ++ [(x, y, z, u)])) := by
  unfold OwQ
  have e : vals .i64 (flat4 (ls ++ [(x, y, z, u)])) = vals .i64 (flat4 ls) ++ [.int .i64 x, .int .i64 y, .int .i64 z, .int .i64 u] := by rw [flat4_append]; simp [vals, flat4]
  rw [e]
  exact h
theorem OwQ.of3 {e : TypeId} {w : World} {a : Option Addr} {n c : Nat} {ls : List U3} {x y z : Int} (h : w.ownsRow 0 e 3 (.slice a n c) n (vals .i64 (flat3U ls) ++ [.int .i64 x, .int .i64 y, .int .i64 z])) : OwQ 3 e w a n c (flat3U (ls ++ [(x, y, z)])) := by
  unfold OwQ
  have e : vals .i64 (flat3U (ls ++ [(x, y, z)])) = vals .i64 (flat3U ls) ++ [.int .i64 x, .int .i64 y, .int .i64 z] := by rw [flat3U_append]; simp [vals, flat3U]
  rw [e]
  exact h
def f5 (p : StLogFrame) : F5 := (p.lsn, p.record.kind, p.record.txn, p.record.prev, p.record.uN)
def fs5 (ps : List StLogFrame) : List F5 := ps.map f5
theorem fs5_length (ps : List StLogFrame) : (fs5 ps).length = ps.length := by simp [fs5]
theorem fs5_at (ps : List StLogFrame) (k : Nat) (h : k < ps.length) : (fs5 ps)[k]'(by rw [fs5_length]; exact h) = f5 ps[k] := by simp [fs5]
end Go.Proofs.Ythbocacnfhpidaa
