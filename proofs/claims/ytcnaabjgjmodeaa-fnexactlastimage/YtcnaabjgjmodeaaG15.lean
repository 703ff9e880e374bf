import Derived.Test.YtcnaabjgjmodeaaG06
import Derived.Test.YtcnaabjgjmodeaaTyLogFrame
import Derived.Test.YtcnaabjgjmodeaaG12
import Derived.Test.YtcnaabjgjmodeaaG01
import Derived.Deep.RegionWith
import Derived.Deep.DeepMust
import Derived.Deep.DeepCutAuto
namespace Go.Proofs.Ytcnaabjgjmodeaa
set_option maxRecDepth 100000
set_option maxHeartbeats 8000000
open Go Go.RowKit
set_option linter.unusedVariables false
set_option linter.unusedSimpArgs false
def StLogFrame.cells (x : StLogFrame) : List Value := [.int .i64 x.lsn, .int .i64 x.epoch, .int .i64 x.record.kind, .int .i64 x.record.txn, .int .i64 x.record.prev, .int .i64 x.record.page, .int .i64 x.record.slot, .bool x.record.before.used, x.record.before.data.v, .bool x.record.after.used, x.record.after.data.v, .int .i64 x.record.uN, .int .i64 x.record.nT, x.record.txns.v, x.record.dirty.v, x.record.image.v]
def kFr : RowK StLogFrame := ⟨16, StLogFrame.cells, fun _ => rfl, fun _ => .slice none 0 0, fun _ => []⟩
def zFr : StLogFrame := ⟨0, 0, ⟨0, 0, 0, 0, 0, ⟨false, ⟨0, none, 0, []⟩⟩, ⟨false, ⟨0, none, 0, []⟩⟩, 0, 0, ⟨0, none, 0, 0, []⟩, ⟨0, none, 0, 0, []⟩, ⟨0, none, 0, []⟩⟩⟩
def datFr (ps : List StLogFrame) := ps.map StLogFrame.dat
def szsFr (ps : List StLogFrame) := ps.map StLogFrame.szs
def frRows (ps : List StLogFrame) : List Row := ps.flatMap StLogFrame.rows
theorem datFr_length (ps : List StLogFrame) : (datFr ps).length = ps.length := by simp [datFr]
theorem datFr_at {ps qs : List StLogFrame} (h : datFr ps = datFr qs) (k : Nat) (h1 : k < ps.length) (h2 : k < qs.length) : ps[k].dat = qs[k].dat := by
  have e : (datFr ps)[k]'(by rw [datFr_length]; exact h1) = (datFr qs)[k]'(by rw [datFr_length]; exact h2) := by simp only [h]
  simpa [datFr] using e
theorem frRows_append (ps qs : List StLogFrame) : frRows (ps ++ qs) = frRows ps ++ frRows qs := by simp [frRows]
theorem frRows_cons (p : StLogFrame) (ps : List StLogFrame) : frRows (p :: ps) = p.rows ++ frRows ps := by simp [frRows]
theorem footRows_mem {ps : List StLogFrame} {b : Nat} : FootL (frRows ps) b ↔ ∃ p ∈ ps, FootL p.rows b := by
  unfold FootL frRows
  constructor
  · rintro ⟨r, hr, hb⟩
    obtain ⟨p, hp, hr⟩ := List.mem_flatMap.1 hr
    exact ⟨p, hp, r, hr, hb⟩
  · rintro ⟨p, hp, r, hr, hb⟩
    exact ⟨r, List.mem_flatMap.2 ⟨p, hp, hr⟩, hb⟩
structure OwnFr (w : World) (v : Value) (ps : List StLogFrame) : Prop where
  own : OwnR kFr 0 101 5 w v ps
  rows : OwnL w (frRows ps)
  out : ∀ b, v.ownBlock = some b → ¬ FootL (frRows ps) b
def footFr (v : Value) (ps : List StLogFrame) (b : Nat) : Prop := v.ownBlock = some b ∨ FootL (frRows ps) b
structure RdFr (w : World) (v : Value) (ps : List StLogFrame) : Prop where
  row : RdR kFr w v ps
  data : ∀ p ∈ ps, StLogFrame.rd w p
theorem footFr_head {v : Value} {ps : List StLogFrame} {b : Nat} (h : footR kFr v ps b) : v.ownBlock = some b := by
  rcases h with h | ⟨p, _, h⟩
  · exact h
  · simp [kFr, Value.ownBlock] at h
theorem OwnFr.kept {R : Nat → Prop} {w w' : World} {v : Value} {ps : List StLogFrame} (h : OwnFr w v ps) (hk : Kept R w w') (hr : ∀ b, footFr v ps b → ¬ R b) : OwnFr w' v ps :=
  ⟨h.own.kept hk (fun b hb => hr b (.inl (footFr_head hb))), h.rows.kept hk (fun b hb => hr b (.inr hb)), h.out⟩
theorem OwnFr.same {w w' : World} {v : Value} {ps : List StLogFrame} (h : OwnFr w v ps) (hk : Same w w') : OwnFr w' v ps := h.kept hk (fun _ _ => id)
theorem OwnFr.lt {w : World} {v : Value} {ps : List StLogFrame} (h : OwnFr w v ps) (b : Nat) (hb : footFr v ps b) : b < w.heap.size := by
  rcases hb with hb | hb
  · exact (h.own.lt b (.inl hb)).2
  · exact h.rows.lt b hb
theorem OwnL.mem {w : World} {ps : List StLogFrame} (h : OwnL w (frRows ps)) (p : StLogFrame) (hp : p ∈ ps) : OwnL w p.rows := by
  obtain ⟨a, c, rfl⟩ := List.append_of_mem hp
  rw [frRows_append, frRows_cons] at h
  exact h.right.left
theorem OwnFr.rd {w : World} {v : Value} {ps : List StLogFrame} (h : OwnFr w v ps) : RdFr w v ps := ⟨h.own.rd, fun p hp => StLogFrame.own_rd (h.rows.mem p hp)⟩
theorem RdFr.same {w w' : World} {v : Value} {ps : List StLogFrame} (h : RdFr w v ps) (hk : Same w w') : RdFr w' v ps := ⟨h.row.same hk, fun p hp => (h.data p hp).same hk⟩
theorem RdFr.form {w : World} {v : Value} {ps : List StLogFrame} (h : RdFr w v ps) : ∃ a c, v = .slice a ps.length c := h.row.form
def sizeFr : List StLogFrame → Int
  | [] => 0
  | p :: ps => p.szs + sizeFr ps
theorem sizeFr_append (ps qs : List StLogFrame) : sizeFr (ps ++ qs) = sizeFr ps + sizeFr qs := by
  induction ps with
  | nil => simp [sizeFr]
  | cons p ps ih => simp only [List.cons_append, sizeFr, ih]; omega
theorem sizeFr_step (ps : List StLogFrame) (j : Nat) (h : j < ps.length) : sizeFr (ps.take (j + 1)) = sizeFr (ps.take j) + ps[j].szs := by
  rw [List.take_succ_eq_append_getElem h, sizeFr_append]
  simp [sizeFr]
theorem sizeFr_nonneg (ps : List StLogFrame) : 0 ≤ sizeFr ps := by
  induction ps with
  | nil => exact Int.le_refl _
  | cons p ps ih => have := p.szs_le; simp only [sizeFr]; omega
theorem sizeFr_mem (ps : List StLogFrame) (p : StLogFrame) (h : p ∈ ps) : p.szs ≤ sizeFr ps := by
  induction ps with
  | nil => simp at h
  | cons q ps ih =>
    have h1 := sizeFr_nonneg ps
    have h2 := q.szs_le
    rcases List.mem_cons.1 h with rfl | h
    · simp only [sizeFr]; omega
    · have := ih h; simp only [sizeFr]; omega
theorem sizeFr_szs {ps qs : List StLogFrame} (h : szsFr qs = szsFr ps) : sizeFr qs = sizeFr ps := by
  have key : ∀ rs : List StLogFrame, sizeFr rs = (szsFr rs).sum := fun rs => by
    induction rs with
    | nil => rfl
    | cons p rs ih => simp only [sizeFr, szsFr, List.map_cons, List.sum_cons]; rw [ih]; rfl
  rw [key, key, h]
def mzFr : List StLogFrame → Int
  | [] => 0
  | p :: ps => 11 + p.size + mzFr ps
theorem mzFr_append (ps qs : List StLogFrame) : mzFr (ps ++ qs) = mzFr ps + mzFr qs := by
  induction ps with
  | nil => simp [mzFr]
  | cons p ps ih => simp only [List.cons_append, mzFr, ih]; omega
theorem mzFr_step (ps : List StLogFrame) (j : Nat) (h : j < ps.length) : mzFr (ps.take (j + 1)) = mzFr (ps.take j) + 11 + ps[j].size := by
  rw [List.take_succ_eq_append_getElem h, mzFr_append]
  simp only [mzFr]
  omega
theorem mzFr_nonneg (ps : List StLogFrame) : 0 ≤ mzFr ps := by
  induction ps with
  | nil => exact Int.le_refl _
  | cons p ps ih => have := p.size_le; simp only [mzFr]; omega
theorem mzFr_take_le (ps : List StLogFrame) (j : Nat) : mzFr (ps.take j) ≤ mzFr ps := by
  have h := mzFr_append (ps.take j) (ps.drop j)
  rw [List.take_append_drop] at h
  have := mzFr_nonneg (ps.drop j)
  omega
theorem StLogFrame.size_rd {w : World} {x : StLogFrame} (h : StLogFrame.rd w x) : x.size ≤ 4 * x.szs := by
  have h1 := h.2.2.1.2.1
  have h2 := h.2.2.2.1.2.1
  simp only [StLogFrame.size, StLogFrame.szs, StLogRecord.size, StLogRecord.szs, StPageRecord.size, StPageRecord.szs]
  omega
theorem mzFr_rd {w : World} {ps : List StLogFrame} (h : ∀ p ∈ ps, StLogFrame.rd w p) : mzFr ps ≤ 11 * ps.length + 4 * sizeFr ps := by
  induction ps with
  | nil => simp [mzFr, sizeFr]
  | cons p ps ih =>
    have h1 := ih (fun q hq => h q (List.mem_cons_of_mem _ hq))
    have h2 := StLogFrame.size_rd (h p (List.mem_cons_self ..))
    simp only [mzFr, sizeFr, List.length_cons]
    push_cast
    omega
end Go.Proofs.Ytcnaabjgjmodeaa

namespace Go.Proofs.Ytcnaabjgjmodeaa
set_option maxRecDepth 100000
set_option maxHeartbeats 2000000
open Go.ChangeShapes Go.WideShapes Go.ChangeAt Go.RowKit
set_option linter.unusedVariables false
set_option linter.unusedSimpArgs false
theorem flat_length (f : Nat → List Int) (m : Nat) : ∀ n, (∀ i, i < n → (f i).length = m) → ((List.range n).flatMap f).length = n * m
  | 0, _ => by simp
  | n + 1, h => by
    rw [List.range_succ, List.flatMap_append, List.length_append, flat_length f m n (fun i hi => h i (by omega))]
    simp [h n (by omega), Nat.succ_mul]
theorem flat_at (f : Nat → List Int) (m : Nat) : ∀ n, 0 < m → (∀ i, i < n → (f i).length = m) → ∀ i, i < n * m → ((List.range n).flatMap f).getD i 0 = (f (i / m)).getD (i % m) 0
  | 0, _, _, i, hi => by simp at hi
  | n + 1, hm, h, i, hi => by
    rw [List.range_succ, List.flatMap_append]
    have hl := flat_length f m n (fun i hi => h i (by omega))
    by_cases h1 : i < n * m
    · have h2 := flat_at f m n hm (fun i hi => h i (by omega)) i h1
      rw [← h2]
      simp only [List.getD]
      rw [List.getElem?_append_left (by omega)]
    · have h3 : i < n * m + m := by rw [Nat.succ_mul] at hi; exact hi
      have hd : i / m = n := by
        rw [Nat.div_eq_iff hm]
        constructor <;> omega
      have hmod : i % m = i - n * m := by
        have := Nat.div_add_mod i m
        rw [hd, Nat.mul_comm] at this
        omega
      rw [hd, hmod]
      simp only [List.getD]
      rw [List.getElem?_append_right (by omega), hl]
      simp
section
variable {H : Type} {enc : TypeId × Value → H} {w : World} {base : Nat} {spare : Nat → Bool} {held : Bool}
theorem read_flat {t e : TypeId} {m : Nat} (hm0 : 0 < m) (ht : Try.prog.underlying t = some (.slice e)) (hc : Try.prog.cellsOf e = m)
    (he : ∀ (n : Nat) (cs : List Value) (x : DataW H × List MemPlace), DataW.trod enc Try.prog w base spare held n e cs = some x → ∃ ns : List Int, cs = vals .i64 ns ∧ ns.length = m)
    {fuel : Nat} {v : Value} {x : DataW H × List MemPlace} (h : DataW.trod enc Try.prog w base spare held fuel t [v] = some x) : ∃ y : FR, v = y.v ∧ RdF m w y := by
  rcases Deep.open_slice ht h with ⟨hcs, _⟩ | ⟨a, len, cap, m', n, D, Pl, hcs, hb, hl, hm, hmm, _, hx⟩
  · simp at hcs
    subst hcs
    exact ⟨⟨0, none, 0, 0, []⟩, rfl, Nat.zero_le _, by simp, .inl rfl⟩
  · simp at hcs
    subst hcs
    have hlm : len ≤ m' := by rw [hmm]; split <;> omega
    have each : ∀ i, i < len → ∃ ns : List Int, ns.length = m ∧ ∀ j, j < m → w.cell? ((a.add (i * m)).add j) = some (.int .i64 (ns.getD j 0)) := fun i hi => by
      obtain ⟨cs', h1, h2⟩ := hx i (by omega)
      rw [hc] at h1
      obtain ⟨_, hlen, hcell⟩ := World.cells?_some h1
      obtain ⟨ns, rfl, hns⟩ := he _ _ _ h2
      refine ⟨ns, hns, fun j hj => ?_⟩
      have := hcell j (by omega)
      rw [this, vals_at _ _ _ (by omega)]
    obtain ⟨f, hf⟩ := Deep.choose_lt each
    by_cases h0 : len = 0
    · subst h0
      exact ⟨⟨0, some a, 0, cap, []⟩, rfl, Nat.zero_le _, by simp, .inl rfl⟩
    · have ha : ∃ b off, a = ⟨b, off, none⟩ := by
        have h1 := (hf 0 (by omega)).2 0 hm0
        rw [Nat.zero_mul] at h1
        have e0 : a.add 0 = a := by cases a; simp [Addr.add]
        rw [e0] at h1
        exact addr_form (a := a) h1
      obtain ⟨b, off, rfl⟩ := ha
      refine ⟨⟨0, some ⟨b, off, none⟩, len, cap, (List.range len).flatMap f⟩, rfl, by dsimp only; omega, ?_, .inr ⟨b, off, rfl, hl, fun i hi => ?_⟩⟩
      · dsimp only
        exact flat_length f m len (fun i hi => (hf i hi).1)
      · dsimp only at hi ⊢
        have hdiv : i / m < len := (Nat.div_lt_iff_lt_mul hm0).2 hi
        have h1 := (hf (i / m) hdiv).2 (i % m) (Nat.mod_lt _ hm0)
        rw [add_none, add_none] at h1
        rw [flat_at f m len hm0 (fun i hi => (hf i hi).1) i hi]
        have e : off + i = off + i / m * m + i % m := by
          have := Nat.div_add_mod i m
          rw [Nat.mul_comm] at this
          omega
        rw [e]
        exact h1
theorem ints_cells {e : TypeId} {fs : Array Field} (m : Nat) (hs : Try.prog.underlying e = some (.struct fs)) (hsz : fs.size = m) (hc : Try.prog.cellsOf e = m)
    (hf : ∀ (i : Nat) (f : Field), fs[i]? = some f → f.type = 2 ∧ f.offset = i) (n : Nat) (cs : List Value) (x : DataW H × List MemPlace) (h : DataW.trod enc Try.prog w base spare held n e cs = some x) :
    ∃ ns : List Int, cs = vals .i64 ns ∧ ns.length = m := by
  obtain ⟨xs, k, _, _, hl, hxl, hg⟩ := DataW.trod_struct hs h
  have each : ∀ i, i < m → ∃ z : Int, cs[i]? = some (.int .i64 z) := fun i hi => by
    have hi' : i < fs.size := by omega
    obtain ⟨h1, h2⟩ := hf i fs[i] (by simp [hi'])
    have h3 := hg i fs[i] (by simp [hi'])
    rw [h1, h2, show Try.prog.cellsOf 2 = 1 from by kernel_rfl] at h3
    have h4 : xs[i]? = some xs[i] := by simp [hxl, hi']
    rw [h4] at h3
    obtain ⟨z, hz, _, _⟩ := DataW.trod_int Try.underlying2 h3
    refine ⟨z, ?_⟩
    have h5 := congrArg (fun l => l[0]?) hz
    simpa [List.getElem?_take, List.getElem?_drop] using h5
  obtain ⟨g, hg2⟩ := Deep.choose_lt each
  refine ⟨(List.range m).map g, ?_, by simp⟩
  apply List.ext_getElem?
  intro i
  by_cases hi : i < m
  · rw [hg2 i hi]
    simp [vals, hi]
  · rw [List.getElem?_eq_none (by rw [hl, hc]; omega), List.getElem?_eq_none (by simp [vals]; omega)]
theorem read_slotRecord {n : Nat} {c0 c1 : Value} {x : DataW H × List MemPlace} (h : DataW.trod enc Try.prog w base spare held n 36 [c0, c1] = some x) :
    ∃ y : StPageRecord, c0 = .bool y.used ∧ c1 = y.data.v ∧ StPageRecord.rd w y ∧ IsB y.data.bs := by
  obtain ⟨y0, y1, k, _, _, h0, h1⟩ := trod_struct2 Try.underlying36 h
  have h0' : DataW.trod enc Try.prog w base spare held k 4 [c0] = some y0 := h0
  have h1' : DataW.trod enc Try.prog w base spare held k 22 [c1] = some y1 := h1
  obtain ⟨b, hb, _⟩ := DataW.trod_bool Try.underlying4 h0'
  obtain ⟨bs, hbs, hB⟩ := read_intsB Try.underlying22 Try.underlying5 (by kernel_rfl) h1'
  obtain ⟨a, c, rfl⟩ := hbs.form
  simp at hb
  exact ⟨⟨b, ⟨0, a, c, bs⟩⟩, hb, rfl, hbs, fun x hx => by have := hB x hx; exact ⟨this.1, this.2⟩⟩
def StLogFrame.isB (p : StLogFrame) : Prop := IsB p.record.before.data.bs ∧ IsB p.record.after.data.bs ∧ IsB p.record.image.bs
theorem read_logRecord {m : Nat} {c0 c1 c2 c3 c4 c5 c6 c7 c8 c9 c10 c11 c12 c13 : Value} {x : DataW H × List MemPlace} (h : DataW.trod enc Try.prog w base spare held m 93 [c0, c1, c2, c3, c4, c5, c6, c7, c8, c9, c10, c11, c12, c13] = some x) :
    ∃ x : StLogRecord, [c0, c1, c2, c3, c4, c5, c6, c7, c8, c9, c10, c11, c12, c13] = [.int .i64 x.kind, .int .i64 x.txn, .int .i64 x.prev, .int .i64 x.page, .int .i64 x.slot, .bool x.before.used, x.before.data.v, .bool x.after.used, x.after.data.v, .int .i64 x.uN, .int .i64 x.nT, x.txns.v, x.dirty.v, x.image.v] ∧ StLogRecord.rd w x ∧ IsB x.before.data.bs ∧ IsB x.after.data.bs ∧ IsB x.image.bs := by
  obtain ⟨xs, n, _, _, _, hxl, hg⟩ := DataW.trod_struct Try.underlying93 h
  have g0 : ∃ x, DataW.trod enc Try.prog w base spare held n 2 [c0] = some x := ⟨xs[0]'(by rw [hxl]; decide), by have h := hg 0 _ rfl; rw [List.getElem?_eq_getElem (by rw [hxl]; decide)] at h; exact h⟩
  obtain ⟨x0, g0⟩ := g0
  obtain ⟨z0, e0, _, _⟩ := DataW.trod_int Try.underlying2 g0
  simp at e0
  subst e0
  have g1 : ∃ x, DataW.trod enc Try.prog w base spare held n 2 [c1] = some x := ⟨xs[1]'(by rw [hxl]; decide), by have h := hg 1 _ rfl; rw [List.getElem?_eq_getElem (by rw [hxl]; decide)] at h; exact h⟩
  obtain ⟨x1, g1⟩ := g1
  obtain ⟨z1, e1, _, _⟩ := DataW.trod_int Try.underlying2 g1
  simp at e1
  subst e1
  have g2 : ∃ x, DataW.trod enc Try.prog w base spare held n 2 [c2] = some x := ⟨xs[2]'(by rw [hxl]; decide), by have h := hg 2 _ rfl; rw [List.getElem?_eq_getElem (by rw [hxl]; decide)] at h; exact h⟩
  obtain ⟨x2, g2⟩ := g2
  obtain ⟨z2, e2, _, _⟩ := DataW.trod_int Try.underlying2 g2
  simp at e2
  subst e2
  have g3 : ∃ x, DataW.trod enc Try.prog w base spare held n 2 [c3] = some x := ⟨xs[3]'(by rw [hxl]; decide), by have h := hg 3 _ rfl; rw [List.getElem?_eq_getElem (by rw [hxl]; decide)] at h; exact h⟩
  obtain ⟨x3, g3⟩ := g3
  obtain ⟨z3, e3, _, _⟩ := DataW.trod_int Try.underlying2 g3
  simp at e3
  subst e3
  have g4 : ∃ x, DataW.trod enc Try.prog w base spare held n 2 [c4] = some x := ⟨xs[4]'(by rw [hxl]; decide), by have h := hg 4 _ rfl; rw [List.getElem?_eq_getElem (by rw [hxl]; decide)] at h; exact h⟩
  obtain ⟨x4, g4⟩ := g4
  obtain ⟨z4, e4, _, _⟩ := DataW.trod_int Try.underlying2 g4
  simp at e4
  subst e4
  have g5 : ∃ x, DataW.trod enc Try.prog w base spare held n 36 [c5, c6] = some x := ⟨xs[5]'(by rw [hxl]; decide), by have h := hg 5 _ rfl; rw [List.getElem?_eq_getElem (by rw [hxl]; decide)] at h; exact h⟩
  obtain ⟨x5, g5⟩ := g5
  obtain ⟨y5, rfl, rfl, r5, B5⟩ := read_slotRecord g5
  have g6 : ∃ x, DataW.trod enc Try.prog w base spare held n 36 [c7, c8] = some x := ⟨xs[6]'(by rw [hxl]; decide), by have h := hg 6 _ rfl; rw [List.getElem?_eq_getElem (by rw [hxl]; decide)] at h; exact h⟩
  obtain ⟨x6, g6⟩ := g6
  obtain ⟨y6, rfl, rfl, r6, B6⟩ := read_slotRecord g6
  have g7 : ∃ x, DataW.trod enc Try.prog w base spare held n 2 [c9] = some x := ⟨xs[7]'(by rw [hxl]; decide), by have h := hg 7 _ rfl; rw [List.getElem?_eq_getElem (by rw [hxl]; decide)] at h; exact h⟩
  obtain ⟨x7, g7⟩ := g7
  obtain ⟨z7, e7, _, _⟩ := DataW.trod_int Try.underlying2 g7
  simp at e7
  subst e7
  have g8 : ∃ x, DataW.trod enc Try.prog w base spare held n 2 [c10] = some x := ⟨xs[8]'(by rw [hxl]; decide), by have h := hg 8 _ rfl; rw [List.getElem?_eq_getElem (by rw [hxl]; decide)] at h; exact h⟩
  obtain ⟨x8, g8⟩ := g8
  obtain ⟨z8, e8, _, _⟩ := DataW.trod_int Try.underlying2 g8
  simp at e8
  subst e8
  have g9 : ∃ x, DataW.trod enc Try.prog w base spare held n 90 [c11] = some x := ⟨xs[9]'(by rw [hxl]; decide), by have h := hg 9 _ rfl; rw [List.getElem?_eq_getElem (by rw [hxl]; decide)] at h; exact h⟩
  obtain ⟨x9, g9⟩ := g9
  obtain ⟨y9, rfl, r9⟩ := read_flat (m := 4) (by decide) Try.underlying90 (by kernel_rfl) (ints_cells 4 Try.underlying153 rfl (by kernel_rfl) (fun i f hi => by
    match i, hi with
    | 0, hi => simp at hi; subst hi; exact ⟨rfl, rfl⟩
    | 1, hi => simp at hi; subst hi; exact ⟨rfl, rfl⟩
    | 2, hi => simp at hi; subst hi; exact ⟨rfl, rfl⟩
    | 3, hi => simp at hi; subst hi; exact ⟨rfl, rfl⟩
    | j + 4, hi => simp at hi)) g9
  have g10 : ∃ x, DataW.trod enc Try.prog w base spare held n 91 [c12] = some x := ⟨xs[10]'(by rw [hxl]; decide), by have h := hg 10 _ rfl; rw [List.getElem?_eq_getElem (by rw [hxl]; decide)] at h; exact h⟩
  obtain ⟨x10, g10⟩ := g10
  obtain ⟨y10, rfl, r10⟩ := read_flat (m := 2) (by decide) Try.underlying91 (by kernel_rfl) (ints_cells 2 Try.underlying155 rfl (by kernel_rfl) (fun i f hi => by
    match i, hi with
    | 0, hi => simp at hi; subst hi; exact ⟨rfl, rfl⟩
    | 1, hi => simp at hi; subst hi; exact ⟨rfl, rfl⟩
    | j + 2, hi => simp at hi)) g10
  have g11 : ∃ x, DataW.trod enc Try.prog w base spare held n 22 [c13] = some x := ⟨xs[11]'(by rw [hxl]; decide), by have h := hg 11 _ rfl; rw [List.getElem?_eq_getElem (by rw [hxl]; decide)] at h; exact h⟩
  obtain ⟨x11, g11⟩ := g11
  obtain ⟨b11, r11, B11⟩ := read_intsB Try.underlying22 Try.underlying5 (by kernel_rfl) g11
  obtain ⟨a11, k11, rfl⟩ := r11.form
  exact ⟨⟨z0, z1, z2, z3, z4, y5, y6, z7, z8, y9, y10, ⟨0, a11, k11, b11⟩⟩, rfl, ⟨r5, r6, r9, r10, r11⟩, B5, B6, fun x hx => by have := B11 x hx; exact ⟨this.1, this.2⟩⟩
theorem list16 {cs : List Value} (h : cs.length = 16) : ∃ a0 a1 c0 c1 c2 c3 c4 c5 c6 c7 c8 c9 c10 c11 c12 c13, cs = [a0, a1, c0, c1, c2, c3, c4, c5, c6, c7, c8, c9, c10, c11, c12, c13] := by
  match cs, h with
  | [a0, a1, c0, c1, c2, c3, c4, c5, c6, c7, c8, c9, c10, c11, c12, c13], _ => exact ⟨a0, a1, c0, c1, c2, c3, c4, c5, c6, c7, c8, c9, c10, c11, c12, c13, rfl⟩
theorem read_logFrame (n : Nat) (cs : List Value) (x : DataW H × List MemPlace) (hl : cs.length = 16) (h : DataW.trod enc Try.prog w base spare held n 95 cs = some x) :
    ∃ p : StLogFrame, cs = kFr.cells p ∧ Rd .u8 w (kFr.v p) (kFr.bs p) ∧ StLogFrame.rd w p ∧ p.isB := by
  obtain ⟨a0, a1, c0, c1, c2, c3, c4, c5, c6, c7, c8, c9, c10, c11, c12, c13, rfl⟩ := list16 hl
  obtain ⟨xs, n, _, _, _, hxl, hg⟩ := DataW.trod_struct Try.underlying95 h
  have g0 : ∃ x, DataW.trod enc Try.prog w base spare held n 2 [a0] = some x := ⟨xs[0]'(by rw [hxl]; decide), by have h := hg 0 _ rfl; rw [List.getElem?_eq_getElem (by rw [hxl]; decide)] at h; exact h⟩
  obtain ⟨x0, g0⟩ := g0
  obtain ⟨z0, e0, _, _⟩ := DataW.trod_int Try.underlying2 g0
  simp at e0
  subst e0
  have g1 : ∃ x, DataW.trod enc Try.prog w base spare held n 2 [a1] = some x := ⟨xs[1]'(by rw [hxl]; decide), by have h := hg 1 _ rfl; rw [List.getElem?_eq_getElem (by rw [hxl]; decide)] at h; exact h⟩
  obtain ⟨x1, g1⟩ := g1
  obtain ⟨z1, e1, _, _⟩ := DataW.trod_int Try.underlying2 g1
  simp at e1
  subst e1
  have g2 : ∃ x, DataW.trod enc Try.prog w base spare held n 93 [c0, c1, c2, c3, c4, c5, c6, c7, c8, c9, c10, c11, c12, c13] = some x := ⟨xs[2]'(by rw [hxl]; decide), by have h := hg 2 _ rfl; rw [List.getElem?_eq_getElem (by rw [hxl]; decide)] at h; exact h⟩
  obtain ⟨x2, g2⟩ := g2
  obtain ⟨r, hr, hrd, hB⟩ := read_logRecord g2
  exact ⟨⟨z0, z1, r⟩, by rw [hr]; rfl, ⟨by simp [kFr], .inl ⟨rfl, none, 0, rfl, fun _ => rfl⟩⟩, hrd, hB⟩
theorem open_frames {r : Reach} {b0 : Nat} {v : Value} {d : DataW H} {p : List MemPlace} (hv : Value.okWide Try.prog w r b0 45 v) (h : DataW.Trod enc Try.prog w base spare held 45 v d p) :
    ∃ ps : List StLogFrame, RdFr w v ps ∧ ∀ p ∈ ps, p.isB := by
  obtain ⟨fuel, hf⟩ := h
  obtain ⟨a, n, c, rfl⟩ := okWide_slice Try.underlying45 hv
  have iE : Inhabited StLogFrame := ⟨zFr⟩
  obtain ⟨ps, h1, h2⟩ := read_rows kFr (fun p => StLogFrame.rd w p ∧ p.isB) (by decide) Try.underlying45 (by kernel_rfl) (fun n cs x hl h => read_logFrame n cs x hl h) hf
  exact ⟨ps, ⟨h1, fun p hp => (h2 p hp).1⟩, fun p hp => (h2 p hp).2⟩
end
end Go.Proofs.Ytcnaabjgjmodeaa

namespace Go.Proofs.Ytcnaabjgjmodeaa
set_option maxRecDepth 100000
set_option maxHeartbeats 8000000
open Go Go.RowKit
set_option linter.unusedVariables false
set_option linter.unusedSimpArgs false
theorem eqLogFrameS_own (va vb : Value) (ps qs : List StLogFrame) (w : World) (hn : ps.length ≤ 1125899906842624) (hs : datFr ps = datFr qs) (hsm : ∀ p ∈ ps, p.size ≤ 1125899906842624)
    (ha : OwnFr w va ps) (hb : OwnFr w vb qs) :
    Calls Try.prog 34 #[va, vb] w fun e w' => e = .returned (.bool true) ∧ Same w w' := by
  have hlen : qs.length = ps.length := by rw [← datFr_length, ← datFr_length, hs]
  by_cases hz : ps.length = 0
  · obtain rfl : ps = [] := List.length_eq_zero_iff.1 hz
    obtain rfl : qs = [] := List.length_eq_zero_iff.1 hlen
    obtain ⟨aa, ca, rfl⟩ : ∃ aa ca, va = .slice aa 0 ca := by rcases ha.own.form with ⟨rfl, _⟩ | ⟨g, cap, rfl, _⟩ <;> exact ⟨_, _, rfl⟩
    obtain ⟨ab, cb, rfl⟩ : ∃ aa ca, vb = .slice aa 0 ca := by rcases hb.own.form with ⟨rfl, _⟩ | ⟨g, cap, rfl, _⟩ <;> exact ⟨_, _, rfl⟩
    clear ha hb hn hz hs
    go_enter Try.func34, Try.ntmps34
    go_wp2
    refine wp_loop_rounds 1 ?_
    rw [rounds_succ]
    go_wp2
    go_ret
    exact ⟨rfl, Kept.refl _ _⟩
  · obtain ⟨ga, ca, rfl⟩ : ∃ g cap, va = .slice (some ⟨g, 0, none⟩) ps.length cap := by
      rcases ha.own.form with ⟨_, h⟩ | ⟨g, cap, h, _⟩
      · simp [h] at hz
      · exact ⟨g, cap, h⟩
    obtain ⟨gb, cb, rfl⟩ : ∃ g cap, vb = .slice (some ⟨g, 0, none⟩) ps.length cap := by
      rcases hb.own.form with ⟨_, h⟩ | ⟨g, cap, h, _⟩
      · simp [h] at hlen; omega
      · exact ⟨g, cap, by rw [h, hlen]⟩
    have HA := hid ha
    have HB := hid hb
    have HQ : Hid (qs.length = ps.length) := hlen
    have HS : Hid (datFr ps = datFr qs) := hs
    have HM : Hid (∀ p ∈ ps, p.size ≤ 1125899906842624) := hsm
    clear ha hb hs hlen hsm
    generalize hl : ps.length = len at hn hz HA HB ⊢
    have HL : Hid (ps.length = len) := hl
    clear hl
    go_enter Try.func34, Try.ntmps34
    go_wp2
    go_loopw [5] (fun i wr => ∃ (k : Nat), k ≤ len ∧ i = .int .i64 k ∧ Hid (Same w wr)) (fun i _ => len - (intOf i).toNat)
    case atStart => exact ⟨0, Nat.zero_le _, rfl, Kept.refl _ _⟩
    case round =>
      obtain ⟨k, hk, rfl, HK⟩ := hrel
      by_cases hlt : k < len
      · have hlp : k < ps.length := by rw [HL.out]; exact hlt
        have hlq : k < qs.length := by rw [HQ.out]; exact hlp
        have hoa := (HA.out.same HK.out).own
        have hob := (HB.out.same HK.out).own
        have hdd := datFr_at HS.out k hlp hlq
        have s3 := HM.out _ (List.getElem_mem hlp)
        have hra := (HA.out.same HK.out).rows.mem _ (List.getElem_mem hlp)
        have hrb := (HB.out.same HK.out).rows.mem _ (List.getElem_mem hlq)
        obtain ⟨P, hP⟩ : ∃ P, ps[k] = P := ⟨_, rfl⟩
        obtain ⟨Q, hQ⟩ : ∃ Q, qs[k] = Q := ⟨_, rfl⟩
        rw [hP] at hdd s3 hra
        rw [hQ] at hdd hrb
        have ha0 : wr.cell? ⟨ga, k * 16, none⟩ = some (.int .i64 P.lsn) := by have h := hoa.cell HL.out.symm k 0 hlp (by decide); rw [hP] at h; exact h
        have ha1 : wr.cell? ⟨ga, k * 16 + 1, none⟩ = some (.int .i64 P.epoch) := by have h := hoa.cell HL.out.symm k 1 hlp (by decide); rw [hP] at h; exact h
        have ha2 : wr.cell? ⟨ga, k * 16 + 2, none⟩ = some (.int .i64 P.record.kind) := by have h := hoa.cell HL.out.symm k 2 hlp (by decide); rw [hP] at h; exact h
        have ha3 : wr.cell? ⟨ga, k * 16 + 3, none⟩ = some (.int .i64 P.record.txn) := by have h := hoa.cell HL.out.symm k 3 hlp (by decide); rw [hP] at h; exact h
        have ha4 : wr.cell? ⟨ga, k * 16 + 4, none⟩ = some (.int .i64 P.record.prev) := by have h := hoa.cell HL.out.symm k 4 hlp (by decide); rw [hP] at h; exact h
        have ha5 : wr.cell? ⟨ga, k * 16 + 5, none⟩ = some (.int .i64 P.record.page) := by have h := hoa.cell HL.out.symm k 5 hlp (by decide); rw [hP] at h; exact h
        have ha6 : wr.cell? ⟨ga, k * 16 + 6, none⟩ = some (.int .i64 P.record.slot) := by have h := hoa.cell HL.out.symm k 6 hlp (by decide); rw [hP] at h; exact h
        have ha7 : wr.cell? ⟨ga, k * 16 + 7, none⟩ = some (.bool P.record.before.used) := by have h := hoa.cell HL.out.symm k 7 hlp (by decide); rw [hP] at h; exact h
        have ha8 : wr.cell? ⟨ga, k * 16 + 8, none⟩ = some (P.record.before.data.v) := by have h := hoa.cell HL.out.symm k 8 hlp (by decide); rw [hP] at h; exact h
        have ha9 : wr.cell? ⟨ga, k * 16 + 9, none⟩ = some (.bool P.record.after.used) := by have h := hoa.cell HL.out.symm k 9 hlp (by decide); rw [hP] at h; exact h
        have ha10 : wr.cell? ⟨ga, k * 16 + 10, none⟩ = some (P.record.after.data.v) := by have h := hoa.cell HL.out.symm k 10 hlp (by decide); rw [hP] at h; exact h
        have ha11 : wr.cell? ⟨ga, k * 16 + 11, none⟩ = some (.int .i64 P.record.uN) := by have h := hoa.cell HL.out.symm k 11 hlp (by decide); rw [hP] at h; exact h
        have ha12 : wr.cell? ⟨ga, k * 16 + 12, none⟩ = some (.int .i64 P.record.nT) := by have h := hoa.cell HL.out.symm k 12 hlp (by decide); rw [hP] at h; exact h
        have ha13 : wr.cell? ⟨ga, k * 16 + 13, none⟩ = some (P.record.txns.v) := by have h := hoa.cell HL.out.symm k 13 hlp (by decide); rw [hP] at h; exact h
        have ha14 : wr.cell? ⟨ga, k * 16 + 14, none⟩ = some (P.record.dirty.v) := by have h := hoa.cell HL.out.symm k 14 hlp (by decide); rw [hP] at h; exact h
        have ha15 : wr.cell? ⟨ga, k * 16 + 15, none⟩ = some (P.record.image.v) := by have h := hoa.cell HL.out.symm k 15 hlp (by decide); rw [hP] at h; exact h
        have hb0 : wr.cell? ⟨gb, k * 16, none⟩ = some (.int .i64 Q.lsn) := by have h := hob.cell (by rw [HQ.out, HL.out]) k 0 hlq (by decide); rw [hQ] at h; exact h
        have hb1 : wr.cell? ⟨gb, k * 16 + 1, none⟩ = some (.int .i64 Q.epoch) := by have h := hob.cell (by rw [HQ.out, HL.out]) k 1 hlq (by decide); rw [hQ] at h; exact h
        have hb2 : wr.cell? ⟨gb, k * 16 + 2, none⟩ = some (.int .i64 Q.record.kind) := by have h := hob.cell (by rw [HQ.out, HL.out]) k 2 hlq (by decide); rw [hQ] at h; exact h
        have hb3 : wr.cell? ⟨gb, k * 16 + 3, none⟩ = some (.int .i64 Q.record.txn) := by have h := hob.cell (by rw [HQ.out, HL.out]) k 3 hlq (by decide); rw [hQ] at h; exact h
        have hb4 : wr.cell? ⟨gb, k * 16 + 4, none⟩ = some (.int .i64 Q.record.prev) := by have h := hob.cell (by rw [HQ.out, HL.out]) k 4 hlq (by decide); rw [hQ] at h; exact h
        have hb5 : wr.cell? ⟨gb, k * 16 + 5, none⟩ = some (.int .i64 Q.record.page) := by have h := hob.cell (by rw [HQ.out, HL.out]) k 5 hlq (by decide); rw [hQ] at h; exact h
        have hb6 : wr.cell? ⟨gb, k * 16 + 6, none⟩ = some (.int .i64 Q.record.slot) := by have h := hob.cell (by rw [HQ.out, HL.out]) k 6 hlq (by decide); rw [hQ] at h; exact h
        have hb7 : wr.cell? ⟨gb, k * 16 + 7, none⟩ = some (.bool Q.record.before.used) := by have h := hob.cell (by rw [HQ.out, HL.out]) k 7 hlq (by decide); rw [hQ] at h; exact h
        have hb8 : wr.cell? ⟨gb, k * 16 + 8, none⟩ = some (Q.record.before.data.v) := by have h := hob.cell (by rw [HQ.out, HL.out]) k 8 hlq (by decide); rw [hQ] at h; exact h
        have hb9 : wr.cell? ⟨gb, k * 16 + 9, none⟩ = some (.bool Q.record.after.used) := by have h := hob.cell (by rw [HQ.out, HL.out]) k 9 hlq (by decide); rw [hQ] at h; exact h
        have hb10 : wr.cell? ⟨gb, k * 16 + 10, none⟩ = some (Q.record.after.data.v) := by have h := hob.cell (by rw [HQ.out, HL.out]) k 10 hlq (by decide); rw [hQ] at h; exact h
        have hb11 : wr.cell? ⟨gb, k * 16 + 11, none⟩ = some (.int .i64 Q.record.uN) := by have h := hob.cell (by rw [HQ.out, HL.out]) k 11 hlq (by decide); rw [hQ] at h; exact h
        have hb12 : wr.cell? ⟨gb, k * 16 + 12, none⟩ = some (.int .i64 Q.record.nT) := by have h := hob.cell (by rw [HQ.out, HL.out]) k 12 hlq (by decide); rw [hQ] at h; exact h
        have hb13 : wr.cell? ⟨gb, k * 16 + 13, none⟩ = some (Q.record.txns.v) := by have h := hob.cell (by rw [HQ.out, HL.out]) k 13 hlq (by decide); rw [hQ] at h; exact h
        have hb14 : wr.cell? ⟨gb, k * 16 + 14, none⟩ = some (Q.record.dirty.v) := by have h := hob.cell (by rw [HQ.out, HL.out]) k 14 hlq (by decide); rw [hQ] at h; exact h
        have hb15 : wr.cell? ⟨gb, k * 16 + 15, none⟩ = some (Q.record.image.v) := by have h := hob.cell (by rw [HQ.out, HL.out]) k 15 hlq (by decide); rw [hQ] at h; exact h
        have HD := hid hdd
        have HS3 := hid s3
        have HDA := hid hra
        have HDB := hid hrb
        clear hoa hob hdd hra hrb s3 hP hQ
        go_wp2_with fail
        have hS : (fun wx : World => (wx.cell? ⟨ga, k * 16, none⟩ = some (.int .i64 P.lsn) ∧ wx.cell? ⟨ga, k * 16 + 1, none⟩ = some (.int .i64 P.epoch) ∧ wx.cell? ⟨ga, k * 16 + 2, none⟩ = some (.int .i64 P.record.kind) ∧ wx.cell? ⟨ga, k * 16 + 3, none⟩ = some (.int .i64 P.record.txn) ∧ wx.cell? ⟨ga, k * 16 + 4, none⟩ = some (.int .i64 P.record.prev) ∧ wx.cell? ⟨ga, k * 16 + 5, none⟩ = some (.int .i64 P.record.page) ∧ wx.cell? ⟨ga, k * 16 + 6, none⟩ = some (.int .i64 P.record.slot) ∧ wx.cell? ⟨ga, k * 16 + 7, none⟩ = some (.bool P.record.before.used) ∧ wx.cell? ⟨ga, k * 16 + 8, none⟩ = some (P.record.before.data.v) ∧ wx.cell? ⟨ga, k * 16 + 9, none⟩ = some (.bool P.record.after.used) ∧ wx.cell? ⟨ga, k * 16 + 10, none⟩ = some (P.record.after.data.v) ∧ wx.cell? ⟨ga, k * 16 + 11, none⟩ = some (.int .i64 P.record.uN) ∧ wx.cell? ⟨ga, k * 16 + 12, none⟩ = some (.int .i64 P.record.nT) ∧ wx.cell? ⟨ga, k * 16 + 13, none⟩ = some (P.record.txns.v) ∧ wx.cell? ⟨ga, k * 16 + 14, none⟩ = some (P.record.dirty.v) ∧ wx.cell? ⟨ga, k * 16 + 15, none⟩ = some (P.record.image.v)) ∧ (wx.cell? ⟨gb, k * 16, none⟩ = some (.int .i64 Q.lsn) ∧ wx.cell? ⟨gb, k * 16 + 1, none⟩ = some (.int .i64 Q.epoch) ∧ wx.cell? ⟨gb, k * 16 + 2, none⟩ = some (.int .i64 Q.record.kind) ∧ wx.cell? ⟨gb, k * 16 + 3, none⟩ = some (.int .i64 Q.record.txn) ∧ wx.cell? ⟨gb, k * 16 + 4, none⟩ = some (.int .i64 Q.record.prev) ∧ wx.cell? ⟨gb, k * 16 + 5, none⟩ = some (.int .i64 Q.record.page) ∧ wx.cell? ⟨gb, k * 16 + 6, none⟩ = some (.int .i64 Q.record.slot) ∧ wx.cell? ⟨gb, k * 16 + 7, none⟩ = some (.bool Q.record.before.used) ∧ wx.cell? ⟨gb, k * 16 + 8, none⟩ = some (Q.record.before.data.v) ∧ wx.cell? ⟨gb, k * 16 + 9, none⟩ = some (.bool Q.record.after.used) ∧ wx.cell? ⟨gb, k * 16 + 10, none⟩ = some (Q.record.after.data.v) ∧ wx.cell? ⟨gb, k * 16 + 11, none⟩ = some (.int .i64 Q.record.uN) ∧ wx.cell? ⟨gb, k * 16 + 12, none⟩ = some (.int .i64 Q.record.nT) ∧ wx.cell? ⟨gb, k * 16 + 13, none⟩ = some (Q.record.txns.v) ∧ wx.cell? ⟨gb, k * 16 + 14, none⟩ = some (Q.record.dirty.v) ∧ wx.cell? ⟨gb, k * 16 + 15, none⟩ = some (Q.record.image.v))) wr.drew := ⟨⟨ha0, ha1, ha2, ha3, ha4, ha5, ha6, ha7, ha8, ha9, ha10, ha11, ha12, ha13, ha14, ha15⟩, ⟨hb0, hb1, hb2, hb3, hb4, hb5, hb6, hb7, hb8, hb9, hb10, hb11, hb12, hb13, hb14, hb15⟩⟩
        refine wp_region_V (fun wx : World => (wx.cell? ⟨ga, k * 16, none⟩ = some (.int .i64 P.lsn) ∧ wx.cell? ⟨ga, k * 16 + 1, none⟩ = some (.int .i64 P.epoch) ∧ wx.cell? ⟨ga, k * 16 + 2, none⟩ = some (.int .i64 P.record.kind) ∧ wx.cell? ⟨ga, k * 16 + 3, none⟩ = some (.int .i64 P.record.txn) ∧ wx.cell? ⟨ga, k * 16 + 4, none⟩ = some (.int .i64 P.record.prev) ∧ wx.cell? ⟨ga, k * 16 + 5, none⟩ = some (.int .i64 P.record.page) ∧ wx.cell? ⟨ga, k * 16 + 6, none⟩ = some (.int .i64 P.record.slot) ∧ wx.cell? ⟨ga, k * 16 + 7, none⟩ = some (.bool P.record.before.used) ∧ wx.cell? ⟨ga, k * 16 + 8, none⟩ = some (P.record.before.data.v) ∧ wx.cell? ⟨ga, k * 16 + 9, none⟩ = some (.bool P.record.after.used) ∧ wx.cell? ⟨ga, k * 16 + 10, none⟩ = some (P.record.after.data.v) ∧ wx.cell? ⟨ga, k * 16 + 11, none⟩ = some (.int .i64 P.record.uN) ∧ wx.cell? ⟨ga, k * 16 + 12, none⟩ = some (.int .i64 P.record.nT) ∧ wx.cell? ⟨ga, k * 16 + 13, none⟩ = some (P.record.txns.v) ∧ wx.cell? ⟨ga, k * 16 + 14, none⟩ = some (P.record.dirty.v) ∧ wx.cell? ⟨ga, k * 16 + 15, none⟩ = some (P.record.image.v)) ∧ (wx.cell? ⟨gb, k * 16, none⟩ = some (.int .i64 Q.lsn) ∧ wx.cell? ⟨gb, k * 16 + 1, none⟩ = some (.int .i64 Q.epoch) ∧ wx.cell? ⟨gb, k * 16 + 2, none⟩ = some (.int .i64 Q.record.kind) ∧ wx.cell? ⟨gb, k * 16 + 3, none⟩ = some (.int .i64 Q.record.txn) ∧ wx.cell? ⟨gb, k * 16 + 4, none⟩ = some (.int .i64 Q.record.prev) ∧ wx.cell? ⟨gb, k * 16 + 5, none⟩ = some (.int .i64 Q.record.page) ∧ wx.cell? ⟨gb, k * 16 + 6, none⟩ = some (.int .i64 Q.record.slot) ∧ wx.cell? ⟨gb, k * 16 + 7, none⟩ = some (.bool Q.record.before.used) ∧ wx.cell? ⟨gb, k * 16 + 8, none⟩ = some (Q.record.before.data.v) ∧ wx.cell? ⟨gb, k * 16 + 9, none⟩ = some (.bool Q.record.after.used) ∧ wx.cell? ⟨gb, k * 16 + 10, none⟩ = some (Q.record.after.data.v) ∧ wx.cell? ⟨gb, k * 16 + 11, none⟩ = some (.int .i64 Q.record.uN) ∧ wx.cell? ⟨gb, k * 16 + 12, none⟩ = some (.int .i64 Q.record.nT) ∧ wx.cell? ⟨gb, k * 16 + 13, none⟩ = some (Q.record.txns.v) ∧ wx.cell? ⟨gb, k * 16 + 14, none⟩ = some (Q.record.dirty.v) ∧ wx.cell? ⟨gb, k * 16 + 15, none⟩ = some (Q.record.image.v))) 99 10 rfl (by kernel_rfl) ?_
        refine tk 0 17 hS ?_
        refine tk 1 18 hS ?_
        refine tkV 2 19 (.pointer (some ⟨ga, k * 16, none⟩)) hS ?_
        refine tk 3 20 hS ?_
        refine tk 4 21 hS ?_
        refine tk 5 22 hS ?_
        refine tkV 6 23 (.pointer (some ⟨gb, k * 16, none⟩)) hS ?_
        refine tk 7 24 hS ?_
        refine wpAnyV_one (i := 8) (by kernel_rfl) rfl (fun K hK => ?_)
        go_simp
        refine (eqLogFrame_own P Q _ HS3.out HD.out (HDA.out.same (Kept.refl _ _).drew) (HDB.out.same (Kept.refl _ _).drew)).mono ?_
        rintro e w1 ⟨rfl, hk1⟩
        have HK1 : Hid (Same w w1) := HK.out.drew.trans hk1
        have HK7 : Hid (Same wr w1) := (Kept.refl _ _).drew.trans hk1
        refine hK.out _ _ (fun _ => ⟨⟨(HK7.out.cellOf ha0 id), (HK7.out.cellOf ha1 id), (HK7.out.cellOf ha2 id), (HK7.out.cellOf ha3 id), (HK7.out.cellOf ha4 id), (HK7.out.cellOf ha5 id), (HK7.out.cellOf ha6 id), (HK7.out.cellOf ha7 id), (HK7.out.cellOf ha8 id), (HK7.out.cellOf ha9 id), (HK7.out.cellOf ha10 id), (HK7.out.cellOf ha11 id), (HK7.out.cellOf ha12 id), (HK7.out.cellOf ha13 id), (HK7.out.cellOf ha14 id), (HK7.out.cellOf ha15 id)⟩, ⟨(HK7.out.cellOf hb0 id), (HK7.out.cellOf hb1 id), (HK7.out.cellOf hb2 id), (HK7.out.cellOf hb3 id), (HK7.out.cellOf hb4 id), (HK7.out.cellOf hb5 id), (HK7.out.cellOf hb6 id), (HK7.out.cellOf hb7 id), (HK7.out.cellOf hb8 id), (HK7.out.cellOf hb9 id), (HK7.out.cellOf hb10 id), (HK7.out.cellOf hb11 id), (HK7.out.cellOf hb12 id), (HK7.out.cellOf hb13 id), (HK7.out.cellOf hb14 id), (HK7.out.cellOf hb15 id)⟩⟩) ?_
        clear hK K
        try simp only [Act.put, sA, s0, sS]
        refine wpAnyV_one (i := 9) (by kernel_rfl) rfl (fun K hK => ?_)
        go_simp
        refine hK.out _ _ (fun h => ⟨⟨(HK7.out.cellOf ha0 id), (HK7.out.cellOf ha1 id), (HK7.out.cellOf ha2 id), (HK7.out.cellOf ha3 id), (HK7.out.cellOf ha4 id), (HK7.out.cellOf ha5 id), (HK7.out.cellOf ha6 id), (HK7.out.cellOf ha7 id), (HK7.out.cellOf ha8 id), (HK7.out.cellOf ha9 id), (HK7.out.cellOf ha10 id), (HK7.out.cellOf ha11 id), (HK7.out.cellOf ha12 id), (HK7.out.cellOf ha13 id), (HK7.out.cellOf ha14 id), (HK7.out.cellOf ha15 id)⟩, ⟨(HK7.out.cellOf hb0 id), (HK7.out.cellOf hb1 id), (HK7.out.cellOf hb2 id), (HK7.out.cellOf hb3 id), (HK7.out.cellOf hb4 id), (HK7.out.cellOf hb5 id), (HK7.out.cellOf hb6 id), (HK7.out.cellOf hb7 id), (HK7.out.cellOf hb8 id), (HK7.out.cellOf hb9 id), (HK7.out.cellOf hb10 id), (HK7.out.cellOf hb11 id), (HK7.out.cellOf hb12 id), (HK7.out.cellOf hb13 id), (HK7.out.cellOf hb14 id), (HK7.out.cellOf hb15 id)⟩⟩) ?_
        clear hK K hk1
        try simp only [Act.put, sA, s0, sS]
        refine wpAnyV_done (by kernel_rfl) ?_
        go_wp2
        go_roundw
        case rel => exact ⟨k + 1, by omega, by go_num, HK1⟩
        case measure => simp [intOf]; omega
      · go_wp2
        go_ret
        exact ⟨rfl, HK.out⟩
end Go.Proofs.Ytcnaabjgjmodeaa

namespace Go.Proofs.Ytcnaabjgjmodeaa
set_option maxRecDepth 100000
set_option maxHeartbeats 8000000
open Go Go.RowKit
set_option linter.unusedVariables false
set_option linter.unusedSimpArgs false
theorem szLogFrameS_any (v : Value) (ps : List StLogFrame) (left : Int) (w : World) (h0 : 0 ≤ left) (h1 : left ≤ 1048576) (hp : RdFr w v ps) :
    Calls Try.prog 30 #[v, .int .i64 left] w fun e w' => ∃ r : Int, e = .returned (.int .i64 r) ∧ (r = -1 ∨ (r = left - ps.length - sizeFr ps ∧ 0 ≤ r)) ∧ Same w w' := by
  have hn := hp.row.max
  unfold maxLen at hn
  rcases hp.row.row with ⟨rfl, a, c, rfl⟩ | ⟨b, off, c, rfl, hc⟩
  · clear hp hn
    go_enter Try.func30, Try.ntmps30
    go_wp2
    refine wp_loop_rounds 1 ?_
    rw [rounds_succ]
    go_wp2
    go_ret
    exact ⟨_, rfl, .inr ⟨by simp [sizeFr], by omega⟩, Kept.refl _ _⟩
  · have HP := hid hp
    have HC : Hid (∀ j i, (h : j < ps.length) → i < 16 → w.cell? ⟨b, off + (j * 16 + i), none⟩ = (kFr.cells ps[j])[i]?) := hc
    clear hp hc
    generalize hl : ps.length = len at hn HP ⊢
    have HL : Hid (ps.length = len) := hl
    clear hl
    by_cases h : left < len
    · go_enter Try.func30, Try.ntmps30
      go_wp2
      go_ret
      exact ⟨_, rfl, .inl rfl, Kept.refl _ _⟩
    · go_enter Try.func30, Try.ntmps30
      go_wp2
      go_loopw [1, 5] (fun u i wr => ∃ (k : Nat) (r : Int), k ≤ len ∧ i = .int .i64 k ∧ u = .int .i64 r ∧ 0 ≤ r ∧ r ≤ left ∧ Hid (r = left - len - sizeFr (ps.take k)) ∧ Hid (Same w wr)) (fun _ i _ => len - (intOf i).toNat)
      case atStart => exact ⟨0, left - len, Nat.zero_le _, rfl, rfl, by omega, by omega, by simp [sizeFr, Hid], Kept.refl _ _⟩
      case round =>
        obtain ⟨k, r, hk, rfl, rfl, hr0, hr1, HR, HK⟩ := hrel
        by_cases hlt : k < len
        · have hlp : k < ps.length := by rw [HL.out]; exact hlt
          have HST := hid (sizeFr_step ps k hlp)
          have hrd := (HP.out.data _ (List.getElem_mem hlp)).same HK.out
          obtain ⟨P, hP⟩ : ∃ P, ps[k] = P := ⟨_, rfl⟩
          rw [hP] at HST hrd
          have q0 : wr.cell? ⟨b, off + k * 16, none⟩ = some (.int .i64 P.lsn) := HK.out.cellOf (p := ⟨b, off + k * 16, none⟩) (by have h := HC.out k 0 hlp (by decide); rw [hP] at h; exact h) id
          have q1 : wr.cell? ⟨b, off + k * 16 + 1, none⟩ = some (.int .i64 P.epoch) := HK.out.cellOf (p := ⟨b, off + k * 16 + 1, none⟩) (by have h := HC.out k 1 hlp (by decide); rw [hP, ← Nat.add_assoc] at h; exact h) id
          have q2 : wr.cell? ⟨b, off + k * 16 + 2, none⟩ = some (.int .i64 P.record.kind) := HK.out.cellOf (p := ⟨b, off + k * 16 + 2, none⟩) (by have h := HC.out k 2 hlp (by decide); rw [hP, ← Nat.add_assoc] at h; exact h) id
          have q3 : wr.cell? ⟨b, off + k * 16 + 3, none⟩ = some (.int .i64 P.record.txn) := HK.out.cellOf (p := ⟨b, off + k * 16 + 3, none⟩) (by have h := HC.out k 3 hlp (by decide); rw [hP, ← Nat.add_assoc] at h; exact h) id
          have q4 : wr.cell? ⟨b, off + k * 16 + 4, none⟩ = some (.int .i64 P.record.prev) := HK.out.cellOf (p := ⟨b, off + k * 16 + 4, none⟩) (by have h := HC.out k 4 hlp (by decide); rw [hP, ← Nat.add_assoc] at h; exact h) id
          have q5 : wr.cell? ⟨b, off + k * 16 + 5, none⟩ = some (.int .i64 P.record.page) := HK.out.cellOf (p := ⟨b, off + k * 16 + 5, none⟩) (by have h := HC.out k 5 hlp (by decide); rw [hP, ← Nat.add_assoc] at h; exact h) id
          have q6 : wr.cell? ⟨b, off + k * 16 + 6, none⟩ = some (.int .i64 P.record.slot) := HK.out.cellOf (p := ⟨b, off + k * 16 + 6, none⟩) (by have h := HC.out k 6 hlp (by decide); rw [hP, ← Nat.add_assoc] at h; exact h) id
          have q7 : wr.cell? ⟨b, off + k * 16 + 7, none⟩ = some (.bool P.record.before.used) := HK.out.cellOf (p := ⟨b, off + k * 16 + 7, none⟩) (by have h := HC.out k 7 hlp (by decide); rw [hP, ← Nat.add_assoc] at h; exact h) id
          have q8 : wr.cell? ⟨b, off + k * 16 + 8, none⟩ = some (P.record.before.data.v) := HK.out.cellOf (p := ⟨b, off + k * 16 + 8, none⟩) (by have h := HC.out k 8 hlp (by decide); rw [hP, ← Nat.add_assoc] at h; exact h) id
          have q9 : wr.cell? ⟨b, off + k * 16 + 9, none⟩ = some (.bool P.record.after.used) := HK.out.cellOf (p := ⟨b, off + k * 16 + 9, none⟩) (by have h := HC.out k 9 hlp (by decide); rw [hP, ← Nat.add_assoc] at h; exact h) id
          have q10 : wr.cell? ⟨b, off + k * 16 + 10, none⟩ = some (P.record.after.data.v) := HK.out.cellOf (p := ⟨b, off + k * 16 + 10, none⟩) (by have h := HC.out k 10 hlp (by decide); rw [hP, ← Nat.add_assoc] at h; exact h) id
          have q11 : wr.cell? ⟨b, off + k * 16 + 11, none⟩ = some (.int .i64 P.record.uN) := HK.out.cellOf (p := ⟨b, off + k * 16 + 11, none⟩) (by have h := HC.out k 11 hlp (by decide); rw [hP, ← Nat.add_assoc] at h; exact h) id
          have q12 : wr.cell? ⟨b, off + k * 16 + 12, none⟩ = some (.int .i64 P.record.nT) := HK.out.cellOf (p := ⟨b, off + k * 16 + 12, none⟩) (by have h := HC.out k 12 hlp (by decide); rw [hP, ← Nat.add_assoc] at h; exact h) id
          have q13 : wr.cell? ⟨b, off + k * 16 + 13, none⟩ = some (P.record.txns.v) := HK.out.cellOf (p := ⟨b, off + k * 16 + 13, none⟩) (by have h := HC.out k 13 hlp (by decide); rw [hP, ← Nat.add_assoc] at h; exact h) id
          have q14 : wr.cell? ⟨b, off + k * 16 + 14, none⟩ = some (P.record.dirty.v) := HK.out.cellOf (p := ⟨b, off + k * 16 + 14, none⟩) (by have h := HC.out k 14 hlp (by decide); rw [hP, ← Nat.add_assoc] at h; exact h) id
          have q15 : wr.cell? ⟨b, off + k * 16 + 15, none⟩ = some (P.record.image.v) := HK.out.cellOf (p := ⟨b, off + k * 16 + 15, none⟩) (by have h := HC.out k 15 hlp (by decide); rw [hP, ← Nat.add_assoc] at h; exact h) id
          have HRD := hid hrd
          clear hrd hP
          go_wp2_with fail
          refine (szLogFrame_any P r _ hr0 (by omega) HRD.out).mono ?_
          rintro e w1 ⟨r1, rfl, hr2, hk1⟩
          have HK1 : Hid (Same w w1) := HK.out.trans hk1
          clear q0 q1 q2 q3 q4 q5 q6 q7 q8 q9 q10 q11 q12 q13 q14 q15 hk1
          rcases hr2 with rfl | ⟨hr2, hr3⟩
          · go_wp2
            go_ret
            exact ⟨_, rfl, .inl rfl, HK1.out⟩
          · have hr4 : r1 ≤ left := by have := P.szs_le; omega
            have HR1 : Hid (r1 = r - P.szs) := hr2
            clear hr2
            go_wp2
            go_roundw
            case rel => exact ⟨k + 1, r1, by omega, by go_num, rfl, hr3, hr4, by have h1 := HR1.out; have h2 := HR.out; have h3 := HST.out; unfold Hid; omega, HK1⟩
            case measure => simp [intOf]; omega
        · go_wp2
          go_ret
          obtain rfl : k = len := by omega
          have h1 := HR.out
          have h2 := HL.out
          rw [← h2, List.take_length] at h1
          exact ⟨r, rfl, .inr ⟨by omega, hr0⟩, HK.out⟩
end Go.Proofs.Ytcnaabjgjmodeaa
