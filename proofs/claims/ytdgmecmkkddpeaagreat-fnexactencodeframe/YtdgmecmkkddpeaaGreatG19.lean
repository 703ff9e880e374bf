import Derived.Test.YtdgmecmkkddpeaaGreatG00
import Derived.Test.YtdgmecmkkddpeaaGreatG18
import Derived.Test.YtdgmecmkkddpeaaGreatG09
import Derived.Test.YtdgmecmkkddpeaaGreatG06
import Derived.Test.YtdgmecmkkddpeaaGreatG01
import Derived.Deep.AppendLies
namespace Go.Proofs.YtdgmecmkkddpeaaGreat
set_option maxRecDepth 100000
set_option maxHeartbeats 2000000
set_option linter.unusedVariables false
set_option linter.unusedSimpArgs false
open Go.ChangeShapes Go.WideShapes Go.ChangeAt Go.RowKit
theorem flat_length (f : Nat → List Int) (m : Nat) : ∀ n, (∀ i, i < n → (f i).length = m) → ((List.range n).flatMap f).length = n * m
 | 0, _ => by simp
 | n + 1, h => by
  rw [List.range_succ, List.flatMap_append, List.length_append, flat_length f m n (fun i hi => h i (by omega))]
  simp [h n (by omega), Nat.succ_mul]
theorem flat_at (f : Nat → List Int) (m : Nat) : ∀ n, 0 < m → (∀ i, i < n → (f i).length = m) → ∀ i, i < n * m → ((List.range n).flatMap f).getD i 0 = (f (i / m)).getD (i % m) 0
 | 0, _, _, i, hi => by simp at hi
 | n + 1, hm, h, i, hi => by
  rw [List.range_succ, List.flatMap_append]
  have hl := flat_length f m n (fun i hi => h i (by omega))
  by_cases h1 : i < n * m
  ·have h2 := flat_at f m n hm (fun i hi => h i (by omega)) i h1
   rw [← h2]
   simp only [List.getD]
   rw [List.getElem?_append_left (by omega)]
  ·have h3 : i < n * m + m := by rw [Nat.succ_mul] at hi; exact hi
   have hd : i / m = n := by
    rw [Nat.div_eq_iff hm]
    constructor <;> omega
   have hmod : i % m = i - n * m := by
    have := Nat.div_add_mod i m
    rw [hd, Nat.mul_comm] at this
    omega
   rw [hd, hmod]
   simp only [List.getD]
   rw [List.getElem?_append_right (by omega), hl]
   simp
section
variable {H : Type} {enc : TypeId × Value → H} {w : World} {base : Nat} {spare : Nat → Bool} {held : Bool}
theorem read_flat {t e : TypeId} {m : Nat} (hm0 : 0 < m) (ht : Tryz.prog.underlying t = some (.slice e)) (hc : Tryz.prog.cellsOf e = m)
  (he : ∀ (n : Nat) (cs : List Value) (x : DataW H × List MemPlace), DataW.trod enc Tryz.prog w base spare held n e cs = some x → ∃ ns : List Int, cs = vals .i64 ns ∧ ns.length = m)
  {fuel : Nat} {v : Value} {x : DataW H × List MemPlace} (h : DataW.trod enc Tryz.prog w base spare held fuel t [v] = some x) : ∃ y : FR, v = y.v ∧ RdF m w y := by
 rcases Deep.open_slice ht h with ⟨hcs, _⟩ | ⟨a, len, cap, m', n, D, Pl, hcs, hb, hl, hm, hmm, _, hx⟩
 ·simp at hcs
  subst hcs
  exact ⟨⟨0, none, 0, 0, []⟩, rfl, Nat.zero_le _, by simp, .inl rfl⟩
 ·simp at hcs
  subst hcs
  have hlm : len ≤ m' := by rw [hmm]; split <;> omega
  have each : ∀ i, i < len → ∃ ns : List Int, ns.length = m ∧ ∀ j, j < m → w.cell? ((a.add (i * m)).add j) = some (.int .i64 (ns.getD j 0)) := fun i hi => by
   obtain ⟨cs', h1, h2⟩ := hx i (by omega)
   rw [hc] at h1
   obtain ⟨_, hlen, hcell⟩ := World.cells?_some h1
   obtain ⟨ns, rfl, hns⟩ := he _ _ _ h2
   refine ⟨ns, hns, fun j hj => ?_⟩
   have := hcell j (by omega)
   rw [this, vals_at _ _ _ (by omega)]
  obtain ⟨f, hf⟩ := Deep.choose_lt each
  by_cases h0 : len = 0
  ·subst h0
   exact ⟨⟨0, some a, 0, cap, []⟩, rfl, Nat.zero_le _, by simp, .inl rfl⟩
  ·have ha : ∃ b off, a = ⟨b, off, none⟩ := by
    have h1 := (hf 0 (by omega)).2 0 hm0
    rw [Nat.zero_mul] at h1
    have e0 : a.add 0 = a := by cases a; simp [Addr.add]
    rw [e0] at h1
    exact addr_form (a := a) h1
   obtain ⟨b, off, rfl⟩ := ha
   refine ⟨⟨0, some ⟨b, off, none⟩, len, cap, (List.range len).flatMap f⟩, rfl, by dsimp only; omega, ?_, .inr ⟨b, off, rfl, hl, fun i hi => ?_⟩⟩
   ·dsimp only
    exact flat_length f m len (fun i hi => (hf i hi).1)
   ·dsimp only at hi ⊢
    have hdiv : i / m < len := (Nat.div_lt_iff_lt_mul hm0).2 hi
    have h1 := (hf (i / m) hdiv).2 (i % m) (Nat.mod_lt _ hm0)
    rw [add_none, add_none] at h1
    rw [flat_at f m len hm0 (fun i hi => (hf i hi).1) i hi]
    have e : off + i = off + i / m * m + i % m := by
     have := Nat.div_add_mod i m
     rw [Nat.mul_comm] at this
     omega
    rw [e]
    exact h1
theorem ints_cells {e : TypeId} {fs : Array Field} (m : Nat) (hs : Tryz.prog.underlying e = some (.struct fs)) (hsz : fs.size = m) (hc : Tryz.prog.cellsOf e = m)
  (hf : ∀ (i : Nat) (f : Field), fs[i]? = some f → f.type = 2 ∧ f.offset = i) (n : Nat) (cs : List Value) (x : DataW H × List MemPlace) (h : DataW.trod enc Tryz.prog w base spare held n e cs = some x) :
  ∃ ns : List Int, cs = vals .i64 ns ∧ ns.length = m := by
 obtain ⟨xs, k, _, _, hl, hxl, hg⟩ := DataW.trod_struct hs h
 have each : ∀ i, i < m → ∃ z : Int, cs[i]? = some (.int .i64 z) := fun i hi => by
  have hi' : i < fs.size := by omega
  obtain ⟨h1, h2⟩ := hf i fs[i] (by simp [hi'])
  have h3 := hg i fs[i] (by simp [hi'])
  rw [h1, h2, show Tryz.prog.cellsOf 2 = 1 from by kernel_rfl] at h3
  have h4 : xs[i]? = some xs[i] := by simp [hxl, hi']
  rw [h4] at h3
  obtain ⟨z, hz, _, _⟩ := DataW.trod_int Tryz.underlying2 h3
  refine ⟨z, ?_⟩
  have h5 := congrArg (fun l => l[0]?) hz
  simpa [List.getElem?_take, List.getElem?_drop] using h5
 obtain ⟨g, hg2⟩ := Deep.choose_lt each
 refine ⟨(List.range m).map g, ?_, by simp⟩
 apply List.ext_getElem?
 intro i
 by_cases hi : i < m
 ·rw [hg2 i hi]
  simp [vals, hi]
 ·rw [List.getElem?_eq_none (by rw [hl, hc]; omega), List.getElem?_eq_none (by simp [vals]; omega)]
theorem array14 {cs : Array Value} (h : cs.size = 14) : ∃ c0 c1 c2 c3 c4 c5 c6 c7 c8 c9 c10 c11 c12 c13, cs = #[c0, c1, c2, c3, c4, c5, c6, c7, c8, c9, c10, c11, c12, c13] := by
 obtain ⟨l⟩ := cs
 match l, h with
 | [c0, c1, c2, c3, c4, c5, c6, c7, c8, c9, c10, c11, c12, c13], _ => exact ⟨c0, c1, c2, c3, c4, c5, c6, c7, c8, c9, c10, c11, c12, c13, rfl⟩
theorem read_slotRecord {n : Nat} {c0 c1 : Value} {x : DataW H × List MemPlace} (h : DataW.trod enc Tryz.prog w base spare held n 24 [c0, c1] = some x) :
  ∃ y : StPageRecord, c0 = .bool y.used ∧ c1 = y.data.v ∧ StPageRecord.rd w y ∧ IsB y.data.bs := by
 obtain ⟨y0, y1, k, _, _, h0, h1⟩ := trod_struct2 Tryz.underlying24 h
 have h0' : DataW.trod enc Tryz.prog w base spare held k 4 [c0] = some y0 := h0
 have h1' : DataW.trod enc Tryz.prog w base spare held k 22 [c1] = some y1 := h1
 obtain ⟨b, hb, _⟩ := DataW.trod_bool Tryz.underlying4 h0'
 obtain ⟨bs, hbs, hB⟩ := read_intsB Tryz.underlying22 Tryz.underlying5 (by kernel_rfl) h1'
 obtain ⟨a, c, rfl⟩ := hbs.form
 simp at hb
 exact ⟨⟨b, ⟨0, a, c, bs⟩⟩, hb, rfl, hbs, fun x hx => by have := hB x hx; exact ⟨this.1, this.2⟩⟩
theorem open_logRecord {r : Reach} {b0 : Nat} {v : Value} {d : DataW H} {p : List MemPlace} (hv : Value.okWide Tryz.prog w r b0 28 v) (h : DataW.Trod enc Tryz.prog w base spare held 28 v d p) :
  ∃ x : StLogRecord, v = x.val ∧ StLogRecord.rd w x ∧ x.isB := by
 obtain ⟨cs, rfl, hsz⟩ := okWide_struct Tryz.underlying28 hv
 obtain ⟨c0, c1, c2, c3, c4, c5, c6, c7, c8, c9, c10, c11, c12, c13, rfl⟩ := array14 (hsz.trans (by kernel_rfl))
 obtain ⟨fuel, hf⟩ := h
 obtain ⟨xs, n, _, _, _, hxl, hg⟩ := DataW.trod_struct Tryz.underlying28 hf
 have g0 : ∃ x, DataW.trod enc Tryz.prog w base spare held n 2 [c0] = some x := ⟨xs[0]'(by rw [hxl]; decide), by have h := hg 0 _ rfl; rw [List.getElem?_eq_getElem (by rw [hxl]; decide)] at h; exact h⟩
 obtain ⟨x0, g0⟩ := g0
 obtain ⟨z0, e0, _, _⟩ := DataW.trod_int Tryz.underlying2 g0
 simp at e0
 subst e0
 have g1 : ∃ x, DataW.trod enc Tryz.prog w base spare held n 2 [c1] = some x := ⟨xs[1]'(by rw [hxl]; decide), by have h := hg 1 _ rfl; rw [List.getElem?_eq_getElem (by rw [hxl]; decide)] at h; exact h⟩
 obtain ⟨x1, g1⟩ := g1
 obtain ⟨z1, e1, _, _⟩ := DataW.trod_int Tryz.underlying2 g1
 simp at e1
 subst e1
 have g2 : ∃ x, DataW.trod enc Tryz.prog w base spare held n 2 [c2] = some x := ⟨xs[2]'(by rw [hxl]; decide), by have h := hg 2 _ rfl; rw [List.getElem?_eq_getElem (by rw [hxl]; decide)] at h; exact h⟩
 obtain ⟨x2, g2⟩ := g2
 obtain ⟨z2, e2, _, _⟩ := DataW.trod_int Tryz.underlying2 g2
 simp at e2
 subst e2
 have g3 : ∃ x, DataW.trod enc Tryz.prog w base spare held n 2 [c3] = some x := ⟨xs[3]'(by rw [hxl]; decide), by have h := hg 3 _ rfl; rw [List.getElem?_eq_getElem (by rw [hxl]; decide)] at h; exact h⟩
 obtain ⟨x3, g3⟩ := g3
 obtain ⟨z3, e3, _, _⟩ := DataW.trod_int Tryz.underlying2 g3
 simp at e3
 subst e3
 have g4 : ∃ x, DataW.trod enc Tryz.prog w base spare held n 2 [c4] = some x := ⟨xs[4]'(by rw [hxl]; decide), by have h := hg 4 _ rfl; rw [List.getElem?_eq_getElem (by rw [hxl]; decide)] at h; exact h⟩
 obtain ⟨x4, g4⟩ := g4
 obtain ⟨z4, e4, _, _⟩ := DataW.trod_int Tryz.underlying2 g4
 simp at e4
 subst e4
 have g5 : ∃ x, DataW.trod enc Tryz.prog w base spare held n 24 [c5, c6] = some x := ⟨xs[5]'(by rw [hxl]; decide), by have h := hg 5 _ rfl; rw [List.getElem?_eq_getElem (by rw [hxl]; decide)] at h; exact h⟩
 obtain ⟨x5, g5⟩ := g5
 obtain ⟨y5, rfl, rfl, r5, B5⟩ := read_slotRecord g5
 have g6 : ∃ x, DataW.trod enc Tryz.prog w base spare held n 24 [c7, c8] = some x := ⟨xs[6]'(by rw [hxl]; decide), by have h := hg 6 _ rfl; rw [List.getElem?_eq_getElem (by rw [hxl]; decide)] at h; exact h⟩
 obtain ⟨x6, g6⟩ := g6
 obtain ⟨y6, rfl, rfl, r6, B6⟩ := read_slotRecord g6
 have g7 : ∃ x, DataW.trod enc Tryz.prog w base spare held n 2 [c9] = some x := ⟨xs[7]'(by rw [hxl]; decide), by have h := hg 7 _ rfl; rw [List.getElem?_eq_getElem (by rw [hxl]; decide)] at h; exact h⟩
 obtain ⟨x7, g7⟩ := g7
 obtain ⟨z7, e7, _, _⟩ := DataW.trod_int Tryz.underlying2 g7
 simp at e7
 subst e7
 have g8 : ∃ x, DataW.trod enc Tryz.prog w base spare held n 2 [c10] = some x := ⟨xs[8]'(by rw [hxl]; decide), by have h := hg 8 _ rfl; rw [List.getElem?_eq_getElem (by rw [hxl]; decide)] at h; exact h⟩
 obtain ⟨x8, g8⟩ := g8
 obtain ⟨z8, e8, _, _⟩ := DataW.trod_int Tryz.underlying2 g8
 simp at e8
 subst e8
 have g9 : ∃ x, DataW.trod enc Tryz.prog w base spare held n 25 [c11] = some x := ⟨xs[9]'(by rw [hxl]; decide), by have h := hg 9 _ rfl; rw [List.getElem?_eq_getElem (by rw [hxl]; decide)] at h; exact h⟩
 obtain ⟨x9, g9⟩ := g9
 obtain ⟨y9, rfl, r9⟩ := read_flat (m := 4) (by decide) Tryz.underlying25 (by kernel_rfl) (ints_cells 4 Tryz.underlying72 rfl (by kernel_rfl) (fun i f hi => by
  match i, hi with
  | 0, hi => simp at hi; subst hi; exact ⟨rfl, rfl⟩
  | 1, hi => simp at hi; subst hi; exact ⟨rfl, rfl⟩
  | 2, hi => simp at hi; subst hi; exact ⟨rfl, rfl⟩
  | 3, hi => simp at hi; subst hi; exact ⟨rfl, rfl⟩
  | j + 4, hi => simp at hi)) g9
 have g10 : ∃ x, DataW.trod enc Tryz.prog w base spare held n 26 [c12] = some x := ⟨xs[10]'(by rw [hxl]; decide), by have h := hg 10 _ rfl; rw [List.getElem?_eq_getElem (by rw [hxl]; decide)] at h; exact h⟩
 obtain ⟨x10, g10⟩ := g10
 obtain ⟨y10, rfl, r10⟩ := read_flat (m := 2) (by decide) Tryz.underlying26 (by kernel_rfl) (ints_cells 2 Tryz.underlying74 rfl (by kernel_rfl) (fun i f hi => by
  match i, hi with
  | 0, hi => simp at hi; subst hi; exact ⟨rfl, rfl⟩
  | 1, hi => simp at hi; subst hi; exact ⟨rfl, rfl⟩
  | j + 2, hi => simp at hi)) g10
 have g11 : ∃ x, DataW.trod enc Tryz.prog w base spare held n 22 [c13] = some x := ⟨xs[11]'(by rw [hxl]; decide), by have h := hg 11 _ rfl; rw [List.getElem?_eq_getElem (by rw [hxl]; decide)] at h; exact h⟩
 obtain ⟨x11, g11⟩ := g11
 obtain ⟨b11, r11, B11⟩ := read_intsB Tryz.underlying22 Tryz.underlying5 (by kernel_rfl) g11
 obtain ⟨a11, k11, rfl⟩ := r11.form
 exact ⟨⟨z0, z1, z2, z3, z4, y5, y6, z7, z8, y9, y10, ⟨0, a11, k11, b11⟩⟩, rfl, ⟨r5, r6, r9, r10, r11⟩, B5, B6, fun x hx => by have := B11 x hx; exact ⟨this.1, this.2⟩⟩
end
structure Grew (w : World) (v : Value) (w' : World) (v' : Value) : Prop where
 kept : Kept (fun b => v.ownBlock = some b) w w'
 own : ∀ b, v'.ownBlock = some b → v.ownBlock = some b ∨ w.heap.size ≤ b
theorem Grew.trans {w w1 w2 : World} {v v1 v2 : Value} (h : Grew w v w1 v1) (k : Grew w1 v1 w2 v2) : Grew w v w2 v2 := by
 refine ⟨h.kept.next k.kept (fun i hi e => (h.own i e).resolve_right (by omega)), fun b hb => ?_⟩
 rcases k.own b hb with h1 | h1
 ·exact h.own b h1
 ·have := h.kept.size
  exact .inr (by omega)
theorem Grew.of_same {w w' : World} {v : Value} (h : Same w w') : Grew w v w' v := ⟨h.mono (fun _ _ e => absurd e id), fun b hb => .inl hb⟩
theorem Grew.refl (w : World) (v : Value) : Grew w v w v := Grew.of_same (Kept.refl _ _)
theorem Grew.size {w w' : World} {v v' : Value} (h : Grew w v w' v') : w.heap.size ≤ w'.heap.size := h.kept.size
theorem Grew.same {w0 w w' : World} {v v' : Value} (h : Grew w v w' v') (h0 : Same w0 w) (hv : ∀ b, v.ownBlock = some b → w0.heap.size ≤ b) : Same w0 w' :=
 h0.next h.kept (fun i hi e => by have := hv i e; omega)
theorem Grew.fresh {w0 w w' : World} {v v' : Value} (h : Grew w v w' v') (h0 : Same w0 w) (hv : ∀ b, v.ownBlock = some b → w0.heap.size ≤ b) : ∀ b, v'.ownBlock = some b → w0.heap.size ≤ b := fun b hb => by
 rcases h.own b hb with h1 | h1
 ·exact hv b h1
 ·have := h0.size
  omega
theorem run_app {ty : TypeId} {w : World} {v x : Value} {bs ys : List Int} (ho : Own 0 5 .u8 w v bs) (hx : Rd .u8 w x ys) (hl : bs.length + ys.length ≤ 1099511627776) :
  ∃ a n c w', (Builtin.append_ #[22, 22] ty #[v, x]).run Tryz.prog w = .ok (.slice a n c) w' ∧ Own 0 5 .u8 w' (.slice a n c) (bs ++ ys) ∧ Grew w v w' (.slice a n c) := by
 obtain ⟨i0, hi, hz0, hz1, hz2⟩ := info_parts Tryz.infoByte'
 have some_case : ∀ (ad : Addr) (c : Nat), (∀ j u, (vals .u8 ys)[j]? = some u → w.cell? (ad.add j) = some u) → ∃ a n c' w', (Builtin.append_ #[22, 22] ty #[v, .slice (some ad) ys.length c]).run Tryz.prog w = .ok (.slice a n c') w' ∧ Own 0 5 .u8 w' (.slice a n c') (bs ++ ys) ∧ Grew w v w' (.slice a n c') := fun ad c hn => by
  obtain ⟨v', w', hr, h2, h3, _, h5⟩ := run_append_own_at (P := Tryz.prog) w 0 22 ty 5 i0 (.int .u8 0) 1 1 Tryz.underlying22 hi hz0 hz1 hz2 rfl (by decide) v bs.length (vals .u8 bs) ho ad ys.length c (vals .u8 ys) (by simp [vals_length]) hn vals_one (by unfold maxLen; omega) (by omega) (Nat.zero_le _)
  have h2' : Own 0 5 .u8 w' v' (bs ++ ys) := by unfold Own; simpa [vals] using h2
  obtain ⟨a, n, c', rfl⟩ := slice_of_own h2'
  refine ⟨a, n, c', w', hr, h2', Kept.of_grown h3 (fun k e => e), fun b hb => ?_⟩
  rcases h5 with h5 | h5
  ·exact .inl (by rw [← h5]; exact hb)
  ·rw [h5] at hb
   exact .inr (by have := Option.some.inj hb; omega)
 rcases hx.2 with ⟨rfl, a, c, rfl, hac⟩ | ⟨b, off, c, rfl, _, hc⟩
 ·cases a with
  | none =>
   obtain rfl : c = 0 := hac rfl
   have hr := run_append_owned_none (P := Tryz.prog) (w := w) 0 22 ty 5 i0 1 Tryz.underlying22 hi v bs.length (vals .u8 bs) ho
   obtain ⟨a, n, c', rfl⟩ := slice_of_own ho
   exact ⟨a, n, c', w, hr, by rw [List.append_nil]; exact ho, Grew.refl _ _⟩
  | some ad => exact some_case ad c (fun j u h => by simp [vals] at h)
 ·exact some_case ⟨b, off, none⟩ c (news_of hc)
theorem wp_app {w : World} {o : Oper} {a : Act} {K : Act → World → Prop} {Q : Exit → Act → World → Prop} (s x : Operand)
  (ho : o.op = .call { callee := .builtin .append, args := #[s, x], argTypes := #[22, 22] })
  (v xv : Value) (bs ys : List Int) (hs : a.eval s = v) (hx : a.eval x = xv) (hown : Own 0 5 .u8 w v bs) (hrd : Rd .u8 w xv ys) (hl : bs.length + ys.length ≤ 1099511627776)
  (h : ∀ a' n' c' w', Own 0 5 .u8 w' (.slice a' n' c') (bs ++ ys) → Grew w v w' (.slice a' n' c') → K (a.put o.dst (.slice a' n' c')) w') : o.wp Tryz.prog a w K Q := by
 obtain ⟨a', n', c', w', hr, h2, h3⟩ := run_app (ty := o.type) hown hrd hl
 unfold Oper.wp execOp
 simp only [ho, resolve, invoke, builtin, Sem.run_bind, Sem.run_pure, Result.andThen_ok, List.map_toArray, List.map_cons, List.map_nil, hs, hx, hr]
 exact h a' n' c' w' h2 h3
theorem wpList_app {w : World} {ops : Array Oper} {rest : List Oper} {o : Oper} {a : Act} {Q : Exit → Act → World → Prop} (hgd : o.guard = none) (s x : Operand)
  (ho : o.op = .call { callee := .builtin .append, args := #[s, x], argTypes := #[22, 22] })
  (v xv : Value) (bs ys : List Int) (hs : a.eval s = v) (hx : a.eval x = xv) (hown : Own 0 5 .u8 w v bs) (hrd : Rd .u8 w xv ys) (hl : bs.length + ys.length ≤ 1099511627776)
  (h : ∀ a' n' c' w', Own 0 5 .u8 w' (.slice a' n' c') (bs ++ ys) → Grew w v w' (.slice a' n' c') → wpList Tryz.prog ops Q rest (a.put o.dst (.slice a' n' c')) w') : wpList Tryz.prog ops Q (o :: rest) a w :=
 wpList_plain hgd fun _ hK => wp_app s x ho v xv bs ys hs hx hown hrd hl fun a' n' c' w' h2 h3 => hK _ _ (h a' n' c' w' h2 h3)
theorem step_app {w : World} {ops : Array Oper} {o : Oper} {a : Act} {K : Act → World → Prop} {Q : Exit → Act → World → Prop} {E : Prop} (hgd : o.guard = none) (s x : Operand)
  (ho : o.op = .call { callee := .builtin .append, args := #[s, x], argTypes := #[22, 22] })
  (v xv : Value) (bs ys : List Int) (hs : a.eval s = v) (hx : a.eval x = xv) (hown : Own 0 5 .u8 w v bs) (hrd : Rd .u8 w xv ys) (hl : bs.length + ys.length ≤ 1099511627776)
  (h : ∀ a' n' c' w', Own 0 5 .u8 w' (.slice a' n' c') (bs ++ ys) → Grew w v w' (.slice a' n' c') → K (a.put o.dst (.slice a' n' c')) w') :
  if Region.wanted o (yielded ops a.tmps) = true then Oper.wp Tryz.prog o a w K Q else E := by
 have hw : Region.wanted o (yielded ops a.tmps) = true := by simp [Region.wanted, hgd]
 rw [if_pos hw]
 exact wp_app s x ho v xv bs ys hs hx hown hrd hl h
theorem rd_one (w : World) (x : Int) : Rd .u8 (w.alloc (.cells #[.int .u8 x] 5)) (.slice (some ⟨w.heap.size, 0, none⟩) 1 1) [x] := by
 have h : Blk (w.alloc (.cells #[.int .u8 x] 5)) w.heap.size 5 (vals .u8 [x]) := Blk.new w #[.int .u8 x] 5
 exact (h.own (by unfold maxLen; simp)).rd
theorem implPut_yes (v n : Int) (w : World) (hi0 : IsI v) (h1 : 1 ≤ n) (h2 : n ≤ 8) (h3 : 0 ≤ v) :
  Calls Tryz.prog 58 #[.int .i64 v, .int .i64 n] w fun e w' => ∃ a c, e = .returned (.slice a (numB v n).length c) ∧ (∀ b, (Value.slice a (numB v n).length c).ownBlock = some b → w.heap.size ≤ b) ∧
   Own 0 5 .u8 w' (.slice a (numB v n).length c) (numB v n) ∧ Same w w' := by
 obtain ⟨n, rfl⟩ : ∃ m : Nat, n = m := ⟨n.toNat, by omega⟩
 obtain ⟨i0, hi, hz0, hz1, hz2⟩ := info_parts Tryz.infoByte'
 obtain ⟨hv1, hv2⟩ := hi0
 have h1' : ¬ (n : Int) < 1 := by omega
 have h2' : ¬ (8 : Int) < n := by omega
 have h3' : ¬ v < 0 := by omega
 by_cases hz : v / 256 ^ n = 0
 ·have hz2' : v / 2 ^ (8 * n) = 0 := by rw [pow8]; exact hz
  have hnum : numB v n = lows v n := by unfold numB; rw [if_neg (by simp only [Int.toNat_natCast]; omega)]; simp
  have HN : Hid (numB v n = lows v n) := hnum
  clear hz hnum
  go_enter Tryz.func58, Tryz.ntmps58
  go_wp2_with (first
   | (at_make; go_loud (refine wpList_make_full _ rfl _ _ 22 rfl 0 5 i0 (.int .u8 0) 1 Tryz.underlying22 hi hz0 hz1 .i64 .i64 _ _ n rfl rfl (by first | rfl | simp | omega) (by first | rfl | simp | omega) (by rw [hz2]; omega) (by unfold maxLen; omega) (Nat.zero_le _) ?_); intro w1 hown1 hgrow1; have HO : Hid (Own 0 5 .u8 w1 (.slice (some ⟨w.heap.size, 0, none⟩) n n) (List.replicate n 0)) := own_made (by simpa using hown1); have HK : Hid (Same w w1) := Kept.of_grown hgrow1 (fun k e => by cases e); clear hown1 hgrow1)
   | (go_at_call 29; refine (writeNumber_any w.heap.size 0 n n 5 (vals .u8 (List.replicate n 0)) v _ (Own.blk HO.out) (by simp [vals]) h3 (by omega) (by omega)).mono ?_; rintro e w2 ⟨rfl, hb2, hk2⟩))
  go_ret
  rw [HN.out, lows_length]
  rw [lay_all _ _ (by simp [vals, lows_length])] at hb2
  refine ⟨_, _, rfl, fun b hb => ?_, ?_, HK.out.next hk2 (fun i hi e => by omega)⟩
  ·simp [Value.ownBlock] at hb; omega
  ·have h := Blk.own hb2 (by unfold maxLen; rw [lows_length]; omega)
   rw [lows_length] at h
   exact h
 ·have hz2' : v / 2 ^ (8 * n) ≠ 0 := by rw [pow8]; exact hz
  have hnum : numB v n = [] := by unfold numB; rw [if_pos (by simp only [Int.toNat_natCast]; omega)]
  have HN : Hid (numB v n = []) := hnum
  clear hz hnum
  go_enter Tryz.func58, Tryz.ntmps58
  go_wp2
  go_ret
  rw [HN.out]
  exact ⟨none, 0, rfl, fun b hb => by simp [Value.ownBlock] at hb, Own.nil _ _ _ _, Kept.refl _ _⟩
theorem implPut_no (v n : Int) (w : World) (h : n < 1 ∨ 8 < n ∨ v < 0) :
  Calls Tryz.prog 58 #[.int .i64 v, .int .i64 n] w fun e w' => e = .returned (.slice none 0 0) ∧ w' = w := by
 rcases h with h | h
 ·go_enter Tryz.func58, Tryz.ntmps58
  go_wp2
  go_ret
  exact ⟨rfl, rfl⟩
 ·by_cases h1 : n < 1
  ·go_enter Tryz.func58, Tryz.ntmps58
   go_wp2
   go_ret
   exact ⟨rfl, rfl⟩
  ·rcases h with h | h
   ·go_enter Tryz.func58, Tryz.ntmps58
    go_wp2
    go_ret
    exact ⟨rfl, rfl⟩
   ·by_cases h2 : 8 < n
    ·go_enter Tryz.func58, Tryz.ntmps58
     go_wp2
     go_ret
     exact ⟨rfl, rfl⟩
    ·go_enter Tryz.func58, Tryz.ntmps58
     go_wp2
     go_ret
     exact ⟨rfl, rfl⟩
theorem implPut_any (v n : Int) (w : World) (hi0 : IsI v) (hi1 : IsI n) :
  Calls Tryz.prog 58 #[.int .i64 v, .int .i64 n] w fun e w' => ∃ a c, e = .returned (.slice a (numB v n).length c) ∧ (∀ b, (Value.slice a (numB v n).length c).ownBlock = some b → w.heap.size ≤ b) ∧
   Own 0 5 .u8 w' (.slice a (numB v n).length c) (numB v n) ∧ Same w w' := by
 by_cases h : n < 1 ∨ 8 < n ∨ v < 0
 ·refine (implPut_no v n w h).mono ?_
  rintro e w' ⟨rfl, rfl⟩
  have e : numB v n = [] := by unfold numB; rw [if_pos (by omega)]
  rw [e]
  exact ⟨none, 0, rfl, fun b hb => by simp [Value.ownBlock] at hb, Own.nil _ _ _ _, Kept.refl _ _⟩
 ·exact implPut_yes v n w hi0 (by omega) (by omega) (by omega)
theorem l4Put_own (v : Value) (bs : List Int) (x n : Int) (w : World) (hx : IsI x) (hn : IsI n) (hl : bs.length ≤ 1073741824) (ho : Own 0 5 .u8 w v bs) :
  Calls Tryz.prog 19 #[v, .int .i64 x, .int .i64 n] w fun e w' => ∃ aa nn cc, e = .returned (.slice aa nn cc) ∧ Own 0 5 .u8 w' (.slice aa nn cc) (bs ++ numB x n) ∧ Grew w v w' (.slice aa nn cc) := by
 have hP := specPut_any x n w hx hn
 have hnl := numB_length x n
 have HO := (show Hid (Own 0 5 .u8 w v bs) from ho)
 clear ho
 go_enter Tryz.func19, Tryz.ntmps19
 go_wp2_with (first
  | (go_at_call 20; refine hP.mono ?_; rintro e w1 ⟨a1, c1, rfl, hf1, ho1, hk1⟩; have HR1 := (show Hid (Rd .u8 w1 (.slice a1 (numB x n).length c1) (numB x n)) from ho1.rd); have HK1 := (show Hid (Same w w1) from hk1); clear hf1 ho1 hk1)
  | (at_builtin; refine wpList_app rfl (.tmp 7) (.tmp 10) rfl v (.slice a1 (numB x n).length c1) bs (numB x n) rfl rfl (HO.out.same HK1.out) HR1.out (by omega) ?_; intro a2 n2 c2 w2 hown2 hk2; have HF := (show Hid (Own 0 5 .u8 w2 (.slice a2 n2 c2) (bs ++ numB x n)) from hown2); have HK := (show Hid (Grew w v w2 (.slice a2 n2 c2)) from (Grew.of_same HK1.out).trans hk2); clear hown2 hk2))
 go_ret
 exact ⟨a2, n2, c2, rfl, HF.out, HK.out⟩
theorem appendNumber_own (v : Value) (bs : List Int) (x n : Int) (w : World) (hx : IsI x) (hn : IsI n) (hl : bs.length ≤ 1073741824) (ho : Own 0 5 .u8 w v bs) :
  Calls Tryz.prog 59 #[v, .int .i64 x, .int .i64 n] w fun e w' => ∃ aa nn cc, e = .returned (.slice aa nn cc) ∧ Own 0 5 .u8 w' (.slice aa nn cc) (bs ++ numB x n) ∧ Grew w v w' (.slice aa nn cc) := by
 have hP := implPut_any x n w hx hn
 have hnl := numB_length x n
 have HO := (show Hid (Own 0 5 .u8 w v bs) from ho)
 clear ho
 go_enter Tryz.func59, Tryz.ntmps59
 go_wp2_with (first
  | (go_at_call 58; refine hP.mono ?_; rintro e w1 ⟨a1, c1, rfl, hf1, ho1, hk1⟩; have HR1 := (show Hid (Rd .u8 w1 (.slice a1 (numB x n).length c1) (numB x n)) from ho1.rd); have HK1 := (show Hid (Same w w1) from hk1); clear hf1 ho1 hk1)
  | (at_builtin; refine wpList_app rfl (.tmp 7) (.tmp 10) rfl v (.slice a1 (numB x n).length c1) bs (numB x n) rfl rfl (HO.out.same HK1.out) HR1.out (by omega) ?_; intro a2 n2 c2 w2 hown2 hk2; have HF := (show Hid (Own 0 5 .u8 w2 (.slice a2 n2 c2) (bs ++ numB x n)) from hown2); have HK := (show Hid (Grew w v w2 (.slice a2 n2 c2)) from (Grew.of_same HK1.out).trans hk2); clear hown2 hk2))
 go_ret
 exact ⟨a2, n2, c2, rfl, HF.out, HK.out⟩
def partB (u : Bool) (d : List Int) : List Int := if u = true then 1 :: (numB d.length 2 ++ d) else [0]
theorem partB_length (u : Bool) (d : List Int) : (partB u d).length ≤ d.length + 9 := by
 unfold partB
 have := numB_length d.length 2
 split
 ·simp; omega
 ·simp
theorem l4PutSlot_own (v : Value) (bs : List Int) (u : Bool) (dv : Value) (d : List Int) (w : World) (hd : d.length ≤ 1073741824) (hl : bs.length ≤ 1073741000) (hR : ∀ wx, Kept (fun b => v.ownBlock = some b) w wx → Rd .u8 wx dv d) (ho : Own 0 5 .u8 w v bs) :
  Calls Tryz.prog 41 #[v, .agg #[.bool u, dv]] w fun e w' => ∃ aa nn cc, e = .returned (.slice aa nn cc) ∧ Own 0 5 .u8 w' (.slice aa nn cc) (bs ++ partB u d) ∧ Grew w v w' (.slice aa nn cc) := by
 obtain ⟨da, dc, rfl⟩ := (hR w (Kept.refl _ _)).form
 have HNB := (show Hid (¬ v.ownBlock = some w.heap.size) from fun e => by have := (ho.lt _ e).2; omega)
 have HO := (show Hid (Own 0 5 .u8 w v bs) from ho)
 have HR := (show Hid (∀ wx, Kept (fun b => v.ownBlock = some b) w wx → Rd .u8 wx (.slice da d.length dc) d) from hR)
 clear ho hR
 cases u with
 | false =>
  have HKB := hid (sameA2 w [.bool false, .slice da d.length dc] 31 [.int .u8 0] 5)
  have HX1 := (show Hid (Rd .u8 ((w.alloc (.cells #[.bool false, .slice da d.length dc] 31)).alloc (.cells #[.int .u8 0] 5)) (.slice (some ⟨w.heap.size + 1, 0, none⟩) 1 1) [0]) from by have h := rd_one (w.alloc (.cells #[.bool false, .slice da d.length dc] 31)) 0; simpa [Hid] using h)
  go_enter Tryz.func41, Tryz.ntmps41
  go_wp2_with (at_builtin; refine wpList_app rfl (.tmp 8) (.tmp 9) rfl v (.slice (some ⟨w.heap.size + 1, 0, none⟩) 1 1) bs [0] rfl rfl (HO.out.same HKB.out) HX1.out (by simp; omega) ?_; intro a2 n2 c2 w2 hown2 hk2; have HF := (show Hid (Own 0 5 .u8 w2 (.slice a2 n2 c2) (bs ++ [0])) from hown2); have HK := (show Hid (Grew w v w2 (.slice a2 n2 c2)) from (Grew.of_same HKB.out).trans hk2); clear hown2 hk2)
  go_ret
  exact ⟨a2, n2, c2, rfl, HF.out, HK.out⟩
 | true =>
  have HKB := (show Hid (Same w ((w.alloc (.cells #[.bool true, .slice da d.length dc] 31)).drew.alloc (.cells #[.int .u8 1] 5))) from ((Kept.refl _ _).alloc _).drew.alloc _)
  have HX1 := (show Hid (Rd .u8 ((w.alloc (.cells #[.bool true, .slice da d.length dc] 31)).drew.alloc (.cells #[.int .u8 1] 5)) (.slice (some ⟨w.heap.size + 1, 0, none⟩) 1 1) [1]) from by have h := rd_one (w.alloc (.cells #[.bool true, .slice da d.length dc] 31)).drew 1; simpa [Hid] using h)
  have HZB := (show Hid (w.heap.size + 1 ≤ ((w.alloc (.cells #[.bool true, .slice da d.length dc] 31)).drew.alloc (.cells #[.int .u8 1] 5)).heap.size) from by simp [Hid])
  have bA := Blk.newL w [.bool true, .slice da d.length dc] 31
  have bB : Blk ((w.alloc (.cells #[.bool true, .slice da d.length dc] 31)).drew.alloc (.cells #[.int .u8 1] 5)) w.heap.size 31 [.bool true, .slice da d.length dc] := bA.drew.alloc _
  have hnl := numB_length d.length 2
  go_enter Tryz.func41, Tryz.ntmps41
  go_wp2_with fail
  have hS : ((fun wx : World => wx.cell? ⟨w.heap.size, 0, none⟩ = some (.bool true) ∧ wx.cell? ⟨w.heap.size, 1, none⟩ = some (.slice da d.length dc))) (w.alloc (.cells #[.bool true, .slice da d.length dc] 31)).drew := by exact ⟨bA.cell 0, bA.cell 1⟩
  refine wp_region_V ((fun wx : World => wx.cell? ⟨w.heap.size, 0, none⟩ = some (.bool true) ∧ wx.cell? ⟨w.heap.size, 1, none⟩ = some (.slice da d.length dc))) 99 11 rfl (by kernel_rfl) ?_
  refine tk 0 11 hS ?_
  refine tk 3 14 hS ?_
  refine tk 4 15 hS ?_
  refine tk 5 16 hS ?_
  refine tk 7 18 hS ?_
  refine tk 8 19 hS ?_
  refine wpAnyV_one (i := 1) (by kernel_rfl) rfl (fun K hK => ?_)
  go_simp
  have hS : ((fun wx : World => wx.cell? ⟨w.heap.size, 0, none⟩ = some (.bool true) ∧ wx.cell? ⟨w.heap.size, 1, none⟩ = some (.slice da d.length dc))) ((w.alloc (.cells #[.bool true, .slice da d.length dc] 31)).drew.alloc (.cells #[.int .u8 1] 5)) := by exact ⟨bB.cell 0, bB.cell 1⟩
  refine hK.out _ _ (fun _ => hS) ?_
  clear hK K
  try simp only [Act.put, sA, s0, sS]
  refine wpAnyV_one (i := 2) (by kernel_rfl) rfl (fun K hK => ?_)
  refine step_app (by rfl) (.tmp 11) (.tmp 12) (by rfl) v (.slice (some ⟨w.heap.size + 1, 0, none⟩) 1 1) bs [1] (by rfl) (by rfl) (HO.out.same HKB.out) HX1.out (by simp; omega) ?_
  intro a2 n2 c2 w2 hown2 hk2
  have HO2 := (show Hid (Own 0 5 .u8 w2 (.slice a2 n2 c2) (bs ++ [1])) from hown2)
  have HG2 := (show Hid (Grew w v w2 (.slice a2 n2 c2)) from (Grew.of_same HKB.out).trans hk2)
  have b2 := bB.kept hk2.kept HNB.out
  have HN2 := (show Hid (¬ (Value.slice a2 n2 c2).ownBlock = some w.heap.size) from fun e => (hk2.own _ e).elim HNB.out (fun h => by have h := Nat.le_trans HZB.out h; omega))
  clear hown2 hk2
  have hS : ((fun wx : World => wx.cell? ⟨w.heap.size, 0, none⟩ = some (.bool true) ∧ wx.cell? ⟨w.heap.size, 1, none⟩ = some (.slice da d.length dc))) w2 := by exact ⟨b2.cell 0, b2.cell 1⟩
  refine hK.out _ _ (fun _ => hS) ?_
  clear hK K
  try simp only [Act.put, sA, s0, sS]
  refine wpAnyV_one (i := 6) (by kernel_rfl) rfl (fun K hK => ?_)
  go_simp
  refine (l4Put_own _ (bs ++ [1]) d.length 2 w2 (by unfold IsI; omega) (by unfold IsI; omega) (by simp; omega) HO2.out).mono ?_
  rintro e w3 ⟨a3, n3, c3, rfl, hown3, hk3⟩
  have HO3 := (show Hid (Own 0 5 .u8 w3 (.slice a3 n3 c3) ((bs ++ [1]) ++ numB d.length 2)) from hown3)
  have HG3 := (show Hid (Grew w v w3 (.slice a3 n3 c3)) from HG2.out.trans hk3)
  have b3 := b2.kept hk3.kept HN2.out
  have HN3 := (show Hid (¬ (Value.slice a3 n3 c3).ownBlock = some w.heap.size) from fun e => (hk3.own _ e).elim HN2.out (fun h => by have h := Nat.lt_of_lt_of_le b2.lt h; omega))
  clear hown3 hk3
  have hS : ((fun wx : World => wx.cell? ⟨w.heap.size, 0, none⟩ = some (.bool true) ∧ wx.cell? ⟨w.heap.size, 1, none⟩ = some (.slice da d.length dc))) w3 := by exact ⟨b3.cell 0, b3.cell 1⟩
  refine hK.out _ _ (fun _ => hS) ?_
  clear hK K
  try simp only [Act.put, sA, s0, sS]
  refine wpAnyV_one (i := 9) (by kernel_rfl) rfl (fun K hK => ?_)
  refine step_app (by rfl) (.tmp 17) (.tmp 19) (by rfl) (.slice a3 n3 c3) (.slice da d.length dc) _ d (by rfl) (by rfl) HO3.out (HR.out _ HG3.out.kept) (by simp; omega) ?_
  intro a4 n4 c4 w4 hown4 hk4
  have HO4 := (show Hid (Own 0 5 .u8 w4 (.slice a4 n4 c4) (((bs ++ [1]) ++ numB d.length 2) ++ d)) from hown4)
  have HG4 := (show Hid (Grew w v w4 (.slice a4 n4 c4)) from HG3.out.trans hk4)
  have b4 := b3.kept hk4.kept HN3.out
  clear hown4 hk4
  have hS : ((fun wx : World => wx.cell? ⟨w.heap.size, 0, none⟩ = some (.bool true) ∧ wx.cell? ⟨w.heap.size, 1, none⟩ = some (.slice da d.length dc))) w4 := by exact ⟨b4.cell 0, b4.cell 1⟩
  refine hK.out _ _ (fun _ => hS) ?_
  clear hK K
  try simp only [Act.put, sA, s0, sS]
  refine tk 10 4 hS ?_
  refine wpAnyV_done (by kernel_rfl) ?_
  go_wp2
  go_ret
  exact ⟨a4, n4, c4, rfl, by simpa [partB] using HO4.out, HG4.out⟩
theorem appendSlot_own (v : Value) (bs : List Int) (u : Bool) (dv : Value) (d : List Int) (w : World) (hd : d.length ≤ 1073741824) (hl : bs.length ≤ 1073741000) (hR : ∀ wx, Kept (fun b => v.ownBlock = some b) w wx → Rd .u8 wx dv d) (ho : Own 0 5 .u8 w v bs) :
  Calls Tryz.prog 129 #[v, .agg #[.bool u, dv]] w fun e w' => ∃ aa nn cc, e = .returned (.slice aa nn cc) ∧ Own 0 5 .u8 w' (.slice aa nn cc) (bs ++ partB u d) ∧ Grew w v w' (.slice aa nn cc) := by
 obtain ⟨da, dc, rfl⟩ := (hR w (Kept.refl _ _)).form
 have HNB := (show Hid (¬ v.ownBlock = some w.heap.size) from fun e => by have := (ho.lt _ e).2; omega)
 have HO := (show Hid (Own 0 5 .u8 w v bs) from ho)
 have HR := (show Hid (∀ wx, Kept (fun b => v.ownBlock = some b) w wx → Rd .u8 wx (.slice da d.length dc) d) from hR)
 clear ho hR
 cases u with
 | false =>
  have HKB := hid (sameA2 w [.bool false, .slice da d.length dc] 31 [.int .u8 0] 5)
  have HX1 := (show Hid (Rd .u8 ((w.alloc (.cells #[.bool false, .slice da d.length dc] 31)).alloc (.cells #[.int .u8 0] 5)) (.slice (some ⟨w.heap.size + 1, 0, none⟩) 1 1) [0]) from by have h := rd_one (w.alloc (.cells #[.bool false, .slice da d.length dc] 31)) 0; simpa [Hid] using h)
  go_enter Tryz.func129, Tryz.ntmps129
  go_wp2_with (at_builtin; refine wpList_app rfl (.tmp 8) (.tmp 9) rfl v (.slice (some ⟨w.heap.size + 1, 0, none⟩) 1 1) bs [0] rfl rfl (HO.out.same HKB.out) HX1.out (by simp; omega) ?_; intro a2 n2 c2 w2 hown2 hk2; have HF := (show Hid (Own 0 5 .u8 w2 (.slice a2 n2 c2) (bs ++ [0])) from hown2); have HK := (show Hid (Grew w v w2 (.slice a2 n2 c2)) from (Grew.of_same HKB.out).trans hk2); clear hown2 hk2)
  go_ret
  exact ⟨a2, n2, c2, rfl, HF.out, HK.out⟩
 | true =>
  have HKB := (show Hid (Same w ((w.alloc (.cells #[.bool true, .slice da d.length dc] 31)).drew.alloc (.cells #[.int .u8 1] 5))) from ((Kept.refl _ _).alloc _).drew.alloc _)
  have HX1 := (show Hid (Rd .u8 ((w.alloc (.cells #[.bool true, .slice da d.length dc] 31)).drew.alloc (.cells #[.int .u8 1] 5)) (.slice (some ⟨w.heap.size + 1, 0, none⟩) 1 1) [1]) from by have h := rd_one (w.alloc (.cells #[.bool true, .slice da d.length dc] 31)).drew 1; simpa [Hid] using h)
  have HZB := (show Hid (w.heap.size + 1 ≤ ((w.alloc (.cells #[.bool true, .slice da d.length dc] 31)).drew.alloc (.cells #[.int .u8 1] 5)).heap.size) from by simp [Hid])
  have bA := Blk.newL w [.bool true, .slice da d.length dc] 31
  have bB : Blk ((w.alloc (.cells #[.bool true, .slice da d.length dc] 31)).drew.alloc (.cells #[.int .u8 1] 5)) w.heap.size 31 [.bool true, .slice da d.length dc] := bA.drew.alloc _
  have hnl := numB_length d.length 2
  go_enter Tryz.func129, Tryz.ntmps129
  go_wp2_with fail
  have hS : ((fun wx : World => wx.cell? ⟨w.heap.size, 0, none⟩ = some (.bool true) ∧ wx.cell? ⟨w.heap.size, 1, none⟩ = some (.slice da d.length dc))) (w.alloc (.cells #[.bool true, .slice da d.length dc] 31)).drew := by exact ⟨bA.cell 0, bA.cell 1⟩
  refine wp_region_V ((fun wx : World => wx.cell? ⟨w.heap.size, 0, none⟩ = some (.bool true) ∧ wx.cell? ⟨w.heap.size, 1, none⟩ = some (.slice da d.length dc))) 99 8 rfl (by kernel_rfl) ?_
  refine tk 0 11 hS ?_
  refine tk 3 14 hS ?_
  refine tk 4 15 hS ?_
  refine tk 5 16 hS ?_
  refine wpAnyV_one (i := 1) (by kernel_rfl) rfl (fun K hK => ?_)
  go_simp
  have hS : ((fun wx : World => wx.cell? ⟨w.heap.size, 0, none⟩ = some (.bool true) ∧ wx.cell? ⟨w.heap.size, 1, none⟩ = some (.slice da d.length dc))) ((w.alloc (.cells #[.bool true, .slice da d.length dc] 31)).drew.alloc (.cells #[.int .u8 1] 5)) := by exact ⟨bB.cell 0, bB.cell 1⟩
  refine hK.out _ _ (fun _ => hS) ?_
  clear hK K
  try simp only [Act.put, sA, s0, sS]
  refine wpAnyV_one (i := 2) (by kernel_rfl) rfl (fun K hK => ?_)
  refine step_app (by rfl) (.tmp 11) (.tmp 12) (by rfl) v (.slice (some ⟨w.heap.size + 1, 0, none⟩) 1 1) bs [1] (by rfl) (by rfl) (HO.out.same HKB.out) HX1.out (by simp; omega) ?_
  intro a2 n2 c2 w2 hown2 hk2
  have HO2 := (show Hid (Own 0 5 .u8 w2 (.slice a2 n2 c2) (bs ++ [1])) from hown2)
  have HG2 := (show Hid (Grew w v w2 (.slice a2 n2 c2)) from (Grew.of_same HKB.out).trans hk2)
  have b2 := bB.kept hk2.kept HNB.out
  have HN2 := (show Hid (¬ (Value.slice a2 n2 c2).ownBlock = some w.heap.size) from fun e => (hk2.own _ e).elim HNB.out (fun h => by have h := Nat.le_trans HZB.out h; omega))
  clear hown2 hk2
  have hS : ((fun wx : World => wx.cell? ⟨w.heap.size, 0, none⟩ = some (.bool true) ∧ wx.cell? ⟨w.heap.size, 1, none⟩ = some (.slice da d.length dc))) w2 := by exact ⟨b2.cell 0, b2.cell 1⟩
  refine hK.out _ _ (fun _ => hS) ?_
  clear hK K
  try simp only [Act.put, sA, s0, sS]
  refine wpAnyV_one (i := 6) (by kernel_rfl) rfl (fun K hK => ?_)
  go_simp
  refine (appendNumber_own _ (bs ++ [1]) d.length 2 w2 (by unfold IsI; omega) (by unfold IsI; omega) (by simp; omega) HO2.out).mono ?_
  rintro e w3 ⟨a3, n3, c3, rfl, hown3, hk3⟩
  have HO3 := (show Hid (Own 0 5 .u8 w3 (.slice a3 n3 c3) ((bs ++ [1]) ++ numB d.length 2)) from hown3)
  have HG3 := (show Hid (Grew w v w3 (.slice a3 n3 c3)) from HG2.out.trans hk3)
  have b3 := b2.kept hk3.kept HN2.out
  have HN3 := (show Hid (¬ (Value.slice a3 n3 c3).ownBlock = some w.heap.size) from fun e => (hk3.own _ e).elim HN2.out (fun h => by have h := Nat.lt_of_lt_of_le b2.lt h; omega))
  clear hown3 hk3
  have hS : ((fun wx : World => wx.cell? ⟨w.heap.size, 0, none⟩ = some (.bool true) ∧ wx.cell? ⟨w.heap.size, 1, none⟩ = some (.slice da d.length dc))) w3 := by exact ⟨b3.cell 0, b3.cell 1⟩
  refine hK.out _ _ (fun _ => hS) ?_
  clear hK K
  try simp only [Act.put, sA, s0, sS]
  refine tk 7 0 hS ?_
  refine wpAnyV_done (by kernel_rfl) ?_
  have x0 := b3.c0
  have x1 := b3.c1
  go_wp2_with (at_builtin; refine wpList_app rfl (.tmp 18) (.tmp 20) rfl (.slice a3 n3 c3) (.slice da d.length dc) _ d rfl rfl HO3.out (HR.out _ HG3.out.kept) (by simp; omega) ?_; intro a4 n4 c4 w4 hown4 hk4; have HO4 := (show Hid (Own 0 5 .u8 w4 (.slice a4 n4 c4) (((bs ++ [1]) ++ numB d.length 2) ++ d)) from hown4); have HG4 := (show Hid (Grew w v w4 (.slice a4 n4 c4)) from HG3.out.trans hk4); clear hown4 hk4)
  go_ret
  exact ⟨a4, n4, c4, rfl, by simpa [partB] using HO4.out, HG4.out⟩
def txB (bs : List Int) (i : Nat) : List Int := numB (bs.getD (i * 4) 0) 4 ++ numB (bs.getD (i * 4 + 1) 0) 1 ++ numB (bs.getD (i * 4 + 2) 0) 8 ++ numB (bs.getD (i * 4 + 3) 0) 8
def dyB (bs : List Int) (i : Nat) : List Int := numB (bs.getD (i * 2) 0) 2 ++ numB (bs.getD (i * 2 + 1) 0) 8
def txsB (bs : List Int) (n : Nat) : List Int := (List.range n).flatMap (txB bs)
def dysB (bs : List Int) (n : Nat) : List Int := (List.range n).flatMap (dyB bs)
theorem txsB_succ (bs : List Int) (n : Nat) : txsB bs (n + 1) = txsB bs n ++ txB bs n := by simp [txsB, List.range_succ]
theorem dysB_succ (bs : List Int) (n : Nat) : dysB bs (n + 1) = dysB bs n ++ dyB bs n := by simp [dysB, List.range_succ]
theorem txsB_zero (bs : List Int) : txsB bs 0 = [] := rfl
theorem dysB_zero (bs : List Int) : dysB bs 0 = [] := rfl
theorem txsB_length (bs : List Int) (n : Nat) : (txsB bs n).length ≤ 32 * n := by
 induction n with
 | zero => simp [txsB]
 | succ n ih =>
  rw [txsB_succ, List.length_append]
  have h0 := numB_length (bs.getD (n * 4) 0) 4
  have h1 := numB_length (bs.getD (n * 4 + 1) 0) 1
  have h2 := numB_length (bs.getD (n * 4 + 2) 0) 8
  have h3 := numB_length (bs.getD (n * 4 + 3) 0) 8
  simp only [txB, List.length_append]
  omega
theorem dysB_length (bs : List Int) (n : Nat) : (dysB bs n).length ≤ 16 * n := by
 induction n with
 | zero => simp [dysB]
 | succ n ih =>
  rw [dysB_succ, List.length_append]
  have h0 := numB_length (bs.getD (n * 2) 0) 2
  have h1 := numB_length (bs.getD (n * 2 + 1) 0) 8
  simp only [dyB, List.length_append]
  omega
def headR (kind txn prev : Int) : List Int := ([kind] ++ numB txn 4) ++ numB prev 8
def recBy (kind txn prev page slot : Int) (bu : Bool) (bb : List Int) (au : Bool) (ab : List Int) (un nt : Int) (tx dy im : List Int) : List Int :=
 if kind = 1 then (((headR kind txn prev ++ numB page 2) ++ numB slot 2) ++ partB bu bb) ++ partB au ab
 else if kind = 2 then (((headR kind txn prev ++ numB page 2) ++ numB slot 2) ++ partB au ab) ++ numB un 8
 else if kind = 7 then (((((headR kind txn prev ++ numB nt 4) ++ numB (tx.length / 4 : Nat) 1) ++ txsB tx (tx.length / 4)) ++ numB (dy.length / 2 : Nat) 1) ++ dysB dy (dy.length / 2))
 else if kind = 8 then (headR kind txn prev ++ numB page 2) ++ im
 else headR kind txn prev
def recBd (d : Int × Int × Int × Int × Int × (Bool × List Int) × (Bool × List Int) × Int × Int × List Int × List Int × List Int) : List Int := recBy d.1 d.2.1 d.2.2.1 d.2.2.2.1 d.2.2.2.2.1 d.2.2.2.2.2.1.1 d.2.2.2.2.2.1.2 d.2.2.2.2.2.2.1.1 d.2.2.2.2.2.2.1.2 d.2.2.2.2.2.2.2.1 d.2.2.2.2.2.2.2.2.1 d.2.2.2.2.2.2.2.2.2.1 d.2.2.2.2.2.2.2.2.2.2.1 d.2.2.2.2.2.2.2.2.2.2.2
theorem headR_length (kind txn prev : Int) : (headR kind txn prev).length ≤ 17 := by
 have h0 := numB_length txn 4
 have h1 := numB_length prev 8
 simp only [headR, List.length_append, List.length_singleton]
 omega
theorem orF_zero {a b c : Int} (h : orF a b c = 0) : a = 0 ∧ b = 0 ∧ c = 0 := by
 unfold orF at h
 split at h
 ·omega
 ·split at h
  ·omega
  ·omega
theorem headF_zero {t p : Int} (h : headF t p = 0) : (1 ≤ t ∧ t ≤ 2147483647) ∧ (0 ≤ p ∧ p ≤ 1099511627776) := by
 unfold headF at h
 split at h
 ·omega
 ·split at h
  ·omega
  ·rename_i h1 h2
   simp [isTxnB, isLSN] at h1 h2
   omega
theorem placeF_zero {p s : Int} (h : placeF p s = 0) : (0 ≤ p ∧ p < 16) ∧ (0 ≤ s ∧ s < 32) := by
 unfold placeF at h
 split at h
 ·rename_i h1
  simp [isPageB, isSlotB] at h1
  omega
 ·omega
theorem updF_zero {bu au : Bool} {bn an : Nat} (h : updF bu au bn an = 0) : bn ≤ 1000 ∧ an ≤ 1000 := by
 unfold updF at h
 split at h
 ·rename_i h1
  simp [fitsB] at h1
  omega
 ·omega
theorem undF_zero {au : Bool} {an : Nat} {un : Int} (h : undF au an un = 0) : an ≤ 1000 ∧ (0 ≤ un ∧ un ≤ 1099511627776) := by
 unfold undF at h
 split at h
 ·omega
 ·split at h
  ·omega
  ·rename_i h1 h2
   simp [fitsB, isLSN] at h1 h2
   omega
theorem good1 {txn prev page slot un nt : Int} {bu au : Bool} {bb ab tx dy im : List Int} (h : recF 1 txn prev page slot bu bb au ab un nt tx dy im = 0) : ((1 ≤ txn ∧ txn ≤ 2147483647) ∧ (0 ≤ prev ∧ prev ≤ 1099511627776)) ∧ ((0 ≤ page ∧ page < 16) ∧ (0 ≤ slot ∧ slot < 32)) ∧ bb.length ≤ 1000 ∧ ab.length ≤ 1000 := by
 unfold recF at h
 rw [if_pos rfl] at h
 split at h
 ·rename_i ha
  obtain ⟨h1, h2, h3⟩ := orF_zero h
  exact ⟨headF_zero h1, placeF_zero h2, updF_zero h3⟩
 ·omega
theorem good2 {txn prev page slot un nt : Int} {bu au : Bool} {bb ab tx dy im : List Int} (h : recF 2 txn prev page slot bu bb au ab un nt tx dy im = 0) : ((1 ≤ txn ∧ txn ≤ 2147483647) ∧ (0 ≤ prev ∧ prev ≤ 1099511627776)) ∧ ((0 ≤ page ∧ page < 16) ∧ (0 ≤ slot ∧ slot < 32)) ∧ ab.length ≤ 1000 ∧ (0 ≤ un ∧ un ≤ 1099511627776) := by
 unfold recF at h
 rw [if_neg (by decide)] at h
 rw [if_pos rfl] at h
 split at h
 ·rename_i ha
  obtain ⟨h1, h2, h3⟩ := orF_zero h
  exact ⟨headF_zero h1, placeF_zero h2, undF_zero h3⟩
 ·omega
theorem good3 {txn prev page slot un nt : Int} {bu au : Bool} {bb ab tx dy im : List Int} (h : recF 3 txn prev page slot bu bb au ab un nt tx dy im = 0) : ((1 ≤ txn ∧ txn ≤ 2147483647) ∧ (0 ≤ prev ∧ prev ≤ 1099511627776)) := by
 unfold recF at h
 rw [if_neg (by decide)] at h
 rw [if_neg (by decide)] at h
 rw [if_pos rfl] at h
 split at h
 ·rename_i ha
  exact headF_zero h
 ·omega
theorem good4 {txn prev page slot un nt : Int} {bu au : Bool} {bb ab tx dy im : List Int} (h : recF 4 txn prev page slot bu bb au ab un nt tx dy im = 0) : ((1 ≤ txn ∧ txn ≤ 2147483647) ∧ (0 ≤ prev ∧ prev ≤ 1099511627776)) := by
 unfold recF at h
 rw [if_neg (by decide)] at h
 rw [if_neg (by decide)] at h
 rw [if_neg (by decide)] at h
 rw [if_pos rfl] at h
 split at h
 ·rename_i ha
  exact headF_zero h
 ·omega
theorem good5 {txn prev page slot un nt : Int} {bu au : Bool} {bb ab tx dy im : List Int} (h : recF 5 txn prev page slot bu bb au ab un nt tx dy im = 0) : ((1 ≤ txn ∧ txn ≤ 2147483647) ∧ (0 ≤ prev ∧ prev ≤ 1099511627776)) := by
 unfold recF at h
 rw [if_neg (by decide)] at h
 rw [if_neg (by decide)] at h
 rw [if_neg (by decide)] at h
 rw [if_neg (by decide)] at h
 rw [if_pos rfl] at h
 split at h
 ·rename_i ha
  exact headF_zero h
 ·omega
theorem good6 {txn prev page slot un nt : Int} {bu au : Bool} {bb ab tx dy im : List Int} (h : recF 6 txn prev page slot bu bb au ab un nt tx dy im = 0) : txn = 0 ∧ prev = 0 := by
 unfold recF at h
 rw [if_neg (by decide)] at h
 rw [if_neg (by decide)] at h
 rw [if_neg (by decide)] at h
 rw [if_neg (by decide)] at h
 rw [if_neg (by decide)] at h
 rw [if_pos rfl] at h
 split at h
 ·rename_i ha
  simp [alone6] at ha
  omega
 ·omega
theorem good7 {txn prev page slot un nt : Int} {bu au : Bool} {bb ab tx dy im : List Int} (h : recF 7 txn prev page slot bu bb au ab un nt tx dy im = 0) : txn = 0 ∧ prev = 0 ∧ (1 ≤ nt ∧ nt ≤ 2147483648) ∧ allTxns tx (tx.length / 4) = true ∧ allDirty dy (dy.length / 2) = true := by
 unfold recF at h
 rw [if_neg (by decide)] at h
 rw [if_neg (by decide)] at h
 rw [if_neg (by decide)] at h
 rw [if_neg (by decide)] at h
 rw [if_neg (by decide)] at h
 rw [if_neg (by decide)] at h
 rw [if_pos rfl] at h
 split at h
 ·rename_i ha
  simp [alone7] at ha
  unfold tabF at h
  split at h
  ·rename_i h1
   simp at h1
   exact ⟨by omega, by omega, by omega, h1.1.2, h1.2⟩
  ·omega
 ·omega
theorem good8 {txn prev page slot un nt : Int} {bu au : Bool} {bb ab tx dy im : List Int} (h : recF 8 txn prev page slot bu bb au ab un nt tx dy im = 0) : txn = 0 ∧ prev = 0 ∧ (0 ≤ page ∧ page < 16) ∧ im.length = 4096 := by
 unfold recF at h
 rw [if_neg (by decide)] at h
 rw [if_neg (by decide)] at h
 rw [if_neg (by decide)] at h
 rw [if_neg (by decide)] at h
 rw [if_neg (by decide)] at h
 rw [if_neg (by decide)] at h
 rw [if_neg (by decide)] at h
 rw [if_pos rfl] at h
 split at h
 ·rename_i ha
  simp [alone8] at ha
  unfold imgF at h
  split at h
  ·omega
  ·split at h
   ·omega
   ·rename_i h1 h2
    have h3 : pageFault im page = 0 := by omega
    simp [isPageB] at h1
    refine ⟨by omega, by omega, by omega, ?_⟩
    unfold pageFault at h3
    split at h3
    ·omega
    ·omega
 ·omega
theorem kind_good {kind : Int} {txn prev page slot un nt : Int} {bu au : Bool} {bb ab tx dy im : List Int} (h : recF kind txn prev page slot bu bb au ab un nt tx dy im = 0) : 1 ≤ kind ∧ kind ≤ 8 := by
 unfold recF at h
 repeat (split at h; · omega)
 omega
theorem tXgood {bs : List Int} {n : Nat} (h : allTxns bs n = true) : n ≤ 8 ∧ ∀ i, i < n → (1 ≤ bs.getD (i * 4) 0 ∧ bs.getD (i * 4) 0 ≤ 2147483647) ∧ (1 ≤ bs.getD (i * 4 + 1) 0 ∧ bs.getD (i * 4 + 1) 0 ≤ 3) ∧ (1 ≤ bs.getD (i * 4 + 2) 0 ∧ bs.getD (i * 4 + 2) 0 ≤ 1099511627776) ∧ (0 ≤ bs.getD (i * 4 + 3) 0 ∧ bs.getD (i * 4 + 3) 0 ≤ bs.getD (i * 4 + 2) 0) := by
 unfold allTxns at h
 simp only [Bool.and_eq_true, decide_eq_true_eq, List.all_eq_true, List.mem_range] at h
 refine ⟨h.1, fun i hi => ?_⟩
 have := h.2 i hi
 simp only [atTxns, oneTxns, isTxnB, Bool.and_eq_true, decide_eq_true_eq] at this
 omega
theorem dYgood {bs : List Int} {n : Nat} (h : allDirty bs n = true) : n ≤ 16 ∧ ∀ i, i < n → (0 ≤ bs.getD (i * 2) 0 ∧ bs.getD (i * 2) 0 < 16) ∧ (1 ≤ bs.getD (i * 2 + 1) 0 ∧ bs.getD (i * 2 + 1) 0 ≤ 1099511627776) := by
 unfold allDirty at h
 simp only [Bool.and_eq_true, decide_eq_true_eq, List.all_eq_true, List.mem_range] at h
 refine ⟨h.1, fun i hi => ?_⟩
 have := h.2 i hi
 simp only [atDirty, oneDirty, isPageB, Bool.and_eq_true, decide_eq_true_eq] at this
 omega
def encFd (d : Int × Int × Int × Int × Int × (Bool × List Int) × (Bool × List Int) × Int × Int × List Int × List Int × List Int) : List Int := if recFd d ≠ 0 then [] else recBd d
end Go.Proofs.YtdgmecmkkddpeaaGreat
