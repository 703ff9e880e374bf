import Derived.Test.YtkdohacgkjpopaaGreatG00
import Derived.Test.YtkdohacgkjpopaaGreatG21
import Derived.Test.YtkdohacgkjpopaaGreatG12
import Derived.Test.YtkdohacgkjpopaaGreatG08
import Derived.Test.YtkdohacgkjpopaaGreatG09
import Derived.Deep.DeepCutAuto
import Derived.Deep.AppendLies
namespace Go.Proofs.YtkdohacgkjpopaaGreat
set_option maxRecDepth 100000
set_option maxHeartbeats 16000000
set_option linter.unusedVariables false
set_option linter.unusedSimpArgs false
open Go.ChangeShapes Go.WideShapes Go.ChangeAt Go.RowKit
theorem flat_length (f : Nat → List Int) (m : Nat) : ∀ n, (∀ i, i < n → (f i).length = m) → ((List.range n).flatMap f).length = n * m
 | 0, _ => by simp
 | n + 1, h => by
  rw [List.range_succ, List.flatMap_append, List.length_append, flat_length f m n (fun i hi => h i (by omega))]
  simp [h n (by omega), Nat.succ_mul]
theorem flat_at (f : Nat → List Int) (m : Nat) : ∀ n, 0 < m → (∀ i, i < n → (f i).length = m) → ∀ i, i < n * m → ((List.range n).flatMap f).getD i 0 = (f (i / m)).getD (i % m) 0
 | 0, _, _, i, hi => by simp at hi
 | n + 1, hm, h, i, hi => by
  rw [List.range_succ, List.flatMap_append]
  have hl := flat_length f m n (fun i hi => h i (by omega))
  by_cases h1 : i < n * m
  ·have h2 := flat_at f m n hm (fun i hi => h i (by omega)) i h1
   rw [← h2]
   simp only [List.getD]
   rw [List.getElem?_append_left (by omega)]
  ·have h3 : i < n * m + m := by rw [Nat.succ_mul] at hi; exact hi
   have hd : i / m = n := by
    rw [Nat.div_eq_iff hm]
    constructor <;> omega
   have hmod : i % m = i - n * m := by
    have := Nat.div_add_mod i m
    rw [hd, Nat.mul_comm] at this
    omega
   rw [hd, hmod]
   simp only [List.getD]
   rw [List.getElem?_append_right (by omega), hl]
   simp
section
variable {H : Type} {enc : TypeId × Value → H} {w : World} {base : Nat} {spare : Nat → Bool} {held : Bool}
theorem read_flat {t e : TypeId} {m : Nat} (hm0 : 0 < m) (ht : Tryz.prog.underlying t = some (.slice e)) (hc : Tryz.prog.cellsOf e = m)
  (he : ∀ (n : Nat) (cs : List Value) (x : DataW H × List MemPlace), DataW.trod enc Tryz.prog w base spare held n e cs = some x → ∃ ns : List Int, cs = vals .i64 ns ∧ ns.length = m)
  {fuel : Nat} {v : Value} {x : DataW H × List MemPlace} (h : DataW.trod enc Tryz.prog w base spare held fuel t [v] = some x) : ∃ y : FR, v = y.v ∧ RdF m w y := by
 rcases Deep.open_slice ht h with ⟨hcs, _⟩ | ⟨a, len, cap, m', n, D, Pl, hcs, hb, hl, hm, hmm, _, hx⟩
 ·simp at hcs
  subst hcs
  exact ⟨⟨0, none, 0, 0, []⟩, rfl, Nat.zero_le _, by simp, .inl rfl⟩
 ·simp at hcs
  subst hcs
  have hlm : len ≤ m' := by rw [hmm]; split <;> omega
  have each : ∀ i, i < len → ∃ ns : List Int, ns.length = m ∧ ∀ j, j < m → w.cell? ((a.add (i * m)).add j) = some (.int .i64 (ns.getD j 0)) := fun i hi => by
   obtain ⟨cs', h1, h2⟩ := hx i (by omega)
   rw [hc] at h1
   obtain ⟨_, hlen, hcell⟩ := World.cells?_some h1
   obtain ⟨ns, rfl, hns⟩ := he _ _ _ h2
   refine ⟨ns, hns, fun j hj => ?_⟩
   have := hcell j (by omega)
   rw [this, vals_at _ _ _ (by omega)]
  obtain ⟨f, hf⟩ := Deep.choose_lt each
  by_cases h0 : len = 0
  ·subst h0
   exact ⟨⟨0, some a, 0, cap, []⟩, rfl, Nat.zero_le _, by simp, .inl rfl⟩
  ·have ha : ∃ b off, a = ⟨b, off, none⟩ := by
    have h1 := (hf 0 (by omega)).2 0 hm0
    rw [Nat.zero_mul] at h1
    have e0 : a.add 0 = a := by cases a; simp [Addr.add]
    rw [e0] at h1
    exact addr_form (a := a) h1
   obtain ⟨b, off, rfl⟩ := ha
   refine ⟨⟨0, some ⟨b, off, none⟩, len, cap, (List.range len).flatMap f⟩, rfl, by dsimp only; omega, ?_, .inr ⟨b, off, rfl, hl, fun i hi => ?_⟩⟩
   ·dsimp only
    exact flat_length f m len (fun i hi => (hf i hi).1)
   ·dsimp only at hi ⊢
    have hdiv : i / m < len := (Nat.div_lt_iff_lt_mul hm0).2 hi
    have h1 := (hf (i / m) hdiv).2 (i % m) (Nat.mod_lt _ hm0)
    rw [add_none, add_none] at h1
    rw [flat_at f m len hm0 (fun i hi => (hf i hi).1) i hi]
    have e : off + i = off + i / m * m + i % m := by
     have := Nat.div_add_mod i m
     rw [Nat.mul_comm] at this
     omega
    rw [e]
    exact h1
theorem ints_cells {e : TypeId} {fs : Array Field} (m : Nat) (hs : Tryz.prog.underlying e = some (.struct fs)) (hsz : fs.size = m) (hc : Tryz.prog.cellsOf e = m)
  (hf : ∀ (i : Nat) (f : Field), fs[i]? = some f → f.type = 2 ∧ f.offset = i) (n : Nat) (cs : List Value) (x : DataW H × List MemPlace) (h : DataW.trod enc Tryz.prog w base spare held n e cs = some x) :
  ∃ ns : List Int, cs = vals .i64 ns ∧ ns.length = m := by
 obtain ⟨xs, k, _, _, hl, hxl, hg⟩ := DataW.trod_struct hs h
 have each : ∀ i, i < m → ∃ z : Int, cs[i]? = some (.int .i64 z) := fun i hi => by
  have hi' : i < fs.size := by omega
  obtain ⟨h1, h2⟩ := hf i fs[i] (by simp [hi'])
  have h3 := hg i fs[i] (by simp [hi'])
  rw [h1, h2, show Tryz.prog.cellsOf 2 = 1 from by kernel_rfl] at h3
  have h4 : xs[i]? = some xs[i] := by simp [hxl, hi']
  rw [h4] at h3
  obtain ⟨z, hz, _, _⟩ := DataW.trod_int Tryz.underlying2 h3
  refine ⟨z, ?_⟩
  have h5 := congrArg (fun l => l[0]?) hz
  simpa [List.getElem?_take, List.getElem?_drop] using h5
 obtain ⟨g, hg2⟩ := Deep.choose_lt each
 refine ⟨(List.range m).map g, ?_, by simp⟩
 apply List.ext_getElem?
 intro i
 by_cases hi : i < m
 ·rw [hg2 i hi]
  simp [vals, hi]
 ·rw [List.getElem?_eq_none (by rw [hl, hc]; omega), List.getElem?_eq_none (by simp [vals]; omega)]
theorem array14 {cs : Array Value} (h : cs.size = 14) : ∃ c0 c1 c2 c3 c4 c5 c6 c7 c8 c9 c10 c11 c12 c13, cs = #[c0, c1, c2, c3, c4, c5, c6, c7, c8, c9, c10, c11, c12, c13] := by
 obtain ⟨l⟩ := cs
 match l, h with
 | [c0, c1, c2, c3, c4, c5, c6, c7, c8, c9, c10, c11, c12, c13], _ => exact ⟨c0, c1, c2, c3, c4, c5, c6, c7, c8, c9, c10, c11, c12, c13, rfl⟩
theorem read_slotRecord {n : Nat} {c0 c1 : Value} {x : DataW H × List MemPlace} (h : DataW.trod enc Tryz.prog w base spare held n 26 [c0, c1] = some x) :
  ∃ y : StPageRecord, c0 = .bool y.used ∧ c1 = y.data.v ∧ StPageRecord.rd w y ∧ IsB y.data.bs := by
 obtain ⟨y0, y1, k, _, _, h0, h1⟩ := trod_struct2 Tryz.underlying26 h
 have h0' : DataW.trod enc Tryz.prog w base spare held k 4 [c0] = some y0 := h0
 have h1' : DataW.trod enc Tryz.prog w base spare held k 22 [c1] = some y1 := h1
 obtain ⟨b, hb, _⟩ := DataW.trod_bool Tryz.underlying4 h0'
 obtain ⟨bs, hbs, hB⟩ := read_intsB Tryz.underlying22 Tryz.underlying5 (by kernel_rfl) h1'
 obtain ⟨a, c, rfl⟩ := hbs.form
 simp at hb
 exact ⟨⟨b, ⟨0, a, c, bs⟩⟩, hb, rfl, hbs, fun x hx => by have := hB x hx; exact ⟨this.1, this.2⟩⟩
theorem open_logRecord {r : Reach} {b0 : Nat} {v : Value} {d : DataW H} {p : List MemPlace} (hv : Value.okWide Tryz.prog w r b0 30 v) (h : DataW.Trod enc Tryz.prog w base spare held 30 v d p) :
  ∃ x : StLogRecord, v = x.val ∧ StLogRecord.rd w x ∧ x.isB := by
 obtain ⟨cs, rfl, hsz⟩ := okWide_struct Tryz.underlying30 hv
 obtain ⟨c0, c1, c2, c3, c4, c5, c6, c7, c8, c9, c10, c11, c12, c13, rfl⟩ := array14 (hsz.trans (by kernel_rfl))
 obtain ⟨fuel, hf⟩ := h
 obtain ⟨xs, n, _, _, _, hxl, hg⟩ := DataW.trod_struct Tryz.underlying30 hf
 have g0 : ∃ x, DataW.trod enc Tryz.prog w base spare held n 2 [c0] = some x := ⟨xs[0]'(by rw [hxl]; decide), by have h := hg 0 _ rfl; rw [List.getElem?_eq_getElem (by rw [hxl]; decide)] at h; exact h⟩
 obtain ⟨x0, g0⟩ := g0
 obtain ⟨z0, e0, _, _⟩ := DataW.trod_int Tryz.underlying2 g0
 simp at e0
 subst e0
 have g1 : ∃ x, DataW.trod enc Tryz.prog w base spare held n 2 [c1] = some x := ⟨xs[1]'(by rw [hxl]; decide), by have h := hg 1 _ rfl; rw [List.getElem?_eq_getElem (by rw [hxl]; decide)] at h; exact h⟩
 obtain ⟨x1, g1⟩ := g1
 obtain ⟨z1, e1, _, _⟩ := DataW.trod_int Tryz.underlying2 g1
 simp at e1
 subst e1
 have g2 : ∃ x, DataW.trod enc Tryz.prog w base spare held n 2 [c2] = some x := ⟨xs[2]'(by rw [hxl]; decide), by have h := hg 2 _ rfl; rw [List.getElem?_eq_getElem (by rw [hxl]; decide)] at h; exact h⟩
 obtain ⟨x2, g2⟩ := g2
 obtain ⟨z2, e2, _, _⟩ := DataW.trod_int Tryz.underlying2 g2
 simp at e2
 subst e2
 have g3 : ∃ x, DataW.trod enc Tryz.prog w base spare held n 2 [c3] = some x := ⟨xs[3]'(by rw [hxl]; decide), by have h := hg 3 _ rfl; rw [List.getElem?_eq_getElem (by rw [hxl]; decide)] at h; exact h⟩
 obtain ⟨x3, g3⟩ := g3
 obtain ⟨z3, e3, _, _⟩ := DataW.trod_int Tryz.underlying2 g3
 simp at e3
 subst e3
 have g4 : ∃ x, DataW.trod enc Tryz.prog w base spare held n 2 [c4] = some x := ⟨xs[4]'(by rw [hxl]; decide), by have h := hg 4 _ rfl; rw [List.getElem?_eq_getElem (by rw [hxl]; decide)] at h; exact h⟩
 obtain ⟨x4, g4⟩ := g4
 obtain ⟨z4, e4, _, _⟩ := DataW.trod_int Tryz.underlying2 g4
 simp at e4
 subst e4
 have g5 : ∃ x, DataW.trod enc Tryz.prog w base spare held n 26 [c5, c6] = some x := ⟨xs[5]'(by rw [hxl]; decide), by have h := hg 5 _ rfl; rw [List.getElem?_eq_getElem (by rw [hxl]; decide)] at h; exact h⟩
 obtain ⟨x5, g5⟩ := g5
 obtain ⟨y5, rfl, rfl, r5, B5⟩ := read_slotRecord g5
 have g6 : ∃ x, DataW.trod enc Tryz.prog w base spare held n 26 [c7, c8] = some x := ⟨xs[6]'(by rw [hxl]; decide), by have h := hg 6 _ rfl; rw [List.getElem?_eq_getElem (by rw [hxl]; decide)] at h; exact h⟩
 obtain ⟨x6, g6⟩ := g6
 obtain ⟨y6, rfl, rfl, r6, B6⟩ := read_slotRecord g6
 have g7 : ∃ x, DataW.trod enc Tryz.prog w base spare held n 2 [c9] = some x := ⟨xs[7]'(by rw [hxl]; decide), by have h := hg 7 _ rfl; rw [List.getElem?_eq_getElem (by rw [hxl]; decide)] at h; exact h⟩
 obtain ⟨x7, g7⟩ := g7
 obtain ⟨z7, e7, _, _⟩ := DataW.trod_int Tryz.underlying2 g7
 simp at e7
 subst e7
 have g8 : ∃ x, DataW.trod enc Tryz.prog w base spare held n 2 [c10] = some x := ⟨xs[8]'(by rw [hxl]; decide), by have h := hg 8 _ rfl; rw [List.getElem?_eq_getElem (by rw [hxl]; decide)] at h; exact h⟩
 obtain ⟨x8, g8⟩ := g8
 obtain ⟨z8, e8, _, _⟩ := DataW.trod_int Tryz.underlying2 g8
 simp at e8
 subst e8
 have g9 : ∃ x, DataW.trod enc Tryz.prog w base spare held n 27 [c11] = some x := ⟨xs[9]'(by rw [hxl]; decide), by have h := hg 9 _ rfl; rw [List.getElem?_eq_getElem (by rw [hxl]; decide)] at h; exact h⟩
 obtain ⟨x9, g9⟩ := g9
 obtain ⟨y9, rfl, r9⟩ := read_flat (m := 4) (by decide) Tryz.underlying27 (by kernel_rfl) (ints_cells 4 Tryz.underlying82 rfl (by kernel_rfl) (fun i f hi => by
  match i, hi with
  | 0, hi => simp at hi; subst hi; exact ⟨rfl, rfl⟩
  | 1, hi => simp at hi; subst hi; exact ⟨rfl, rfl⟩
  | 2, hi => simp at hi; subst hi; exact ⟨rfl, rfl⟩
  | 3, hi => simp at hi; subst hi; exact ⟨rfl, rfl⟩
  | j + 4, hi => simp at hi)) g9
 have g10 : ∃ x, DataW.trod enc Tryz.prog w base spare held n 28 [c12] = some x := ⟨xs[10]'(by rw [hxl]; decide), by have h := hg 10 _ rfl; rw [List.getElem?_eq_getElem (by rw [hxl]; decide)] at h; exact h⟩
 obtain ⟨x10, g10⟩ := g10
 obtain ⟨y10, rfl, r10⟩ := read_flat (m := 2) (by decide) Tryz.underlying28 (by kernel_rfl) (ints_cells 2 Tryz.underlying86 rfl (by kernel_rfl) (fun i f hi => by
  match i, hi with
  | 0, hi => simp at hi; subst hi; exact ⟨rfl, rfl⟩
  | 1, hi => simp at hi; subst hi; exact ⟨rfl, rfl⟩
  | j + 2, hi => simp at hi)) g10
 have g11 : ∃ x, DataW.trod enc Tryz.prog w base spare held n 22 [c13] = some x := ⟨xs[11]'(by rw [hxl]; decide), by have h := hg 11 _ rfl; rw [List.getElem?_eq_getElem (by rw [hxl]; decide)] at h; exact h⟩
 obtain ⟨x11, g11⟩ := g11
 obtain ⟨b11, r11, B11⟩ := read_intsB Tryz.underlying22 Tryz.underlying5 (by kernel_rfl) g11
 obtain ⟨a11, k11, rfl⟩ := r11.form
 exact ⟨⟨z0, z1, z2, z3, z4, y5, y6, z7, z8, y9, y10, ⟨0, a11, k11, b11⟩⟩, rfl, ⟨r5, r6, r9, r10, r11⟩, B5, B6, fun x hx => by have := B11 x hx; exact ⟨this.1, this.2⟩⟩
end
structure StLog where
 sectors : Int
 epoch : Int
 stop : Int
 flushed : Int
 tail : BS
def StLog.val (x : StLog) : Value := .agg #[.int .i64 x.sectors, .int .i64 x.epoch, .int .i64 x.stop, .int .i64 x.flushed, x.tail.v]
def StLog.rows (x : StLog) : List Row := x.tail.rows
def StLog.dat (x : StLog) : Int × Int × Int × Int × List Int := (x.sectors, x.epoch, x.stop, x.flushed, x.tail.bs)
def StLog.size (x : StLog) : Int := (x.tail.bs.length : Int)
theorem StLog.size_le (x : StLog) : 0 ≤ x.size := by
 unfold StLog.size
 omega
def StLog.marked (x : StLog) (k : Int) : StLog := ⟨x.sectors, x.epoch, x.stop, x.flushed, x.tail.marked (k)⟩
theorem StLog.foot_marked (x : StLog) (k : Int) (b : Nat) : FootL (x.marked k).rows b ↔ FootL x.rows b := by
 exact BS.foot_marked _ _ b
def StLog.rd (w : World) (x : StLog) : Prop := Rd .u8 w x.tail.v x.tail.bs
theorem StLog.rd.kept {R : Nat → Prop} {w w' : World} {x : StLog} (h : StLog.rd w x) (hk : Kept R w w') (hr : ∀ b, FootL x.rows b → ¬ R b) : StLog.rd w' x :=
 Rd.kept (h) hk (fun b hb => hr b (((footL_ints _ _ _ _ _).2 hb)))
theorem StLog.rd.same {w w' : World} {x : StLog} (h : StLog.rd w x) (hk : Same w w') : StLog.rd w' x := h.kept hk (fun _ _ => id)
theorem StLog.own_rd {w : World} {x : StLog} (h : OwnL w x.rows) : StLog.rd w x :=
 (OwnL.of_one h).rd
def StLog.szs (x : StLog) : Int := (x.tail.bs.length : Int)
theorem StLog.szs_le (x : StLog) : 0 ≤ x.szs := by
 unfold StLog.szs
 omega
theorem eqLog_own (x y : StLog) (w : World) (hn : x.size ≤ 1125899906842624) (hd : x.dat = y.dat) (ha : OwnL w x.rows) (hb : OwnL w y.rows) :
  Calls Tryz.prog 11 #[x.val, y.val] w fun e w' => e = .returned (.bool true) ∧ Same w w' := by
 obtain ⟨xsectors, xepoch, xstop, xflushed, ⟨xtail_e, xtail_a, xtail_c, xtail_b⟩⟩ := x
 obtain ⟨ysectors, yepoch, ystop, yflushed, ⟨ytail_e, ytail_a, ytail_c, ytail_b⟩⟩ := y
 simp only [StLog.dat, Prod.mk.injEq] at hd
 obtain ⟨rfl, rfl, rfl, rfl, rfl⟩ := hd
 simp only [StLog.size] at hn
 have Hx0 := (show Hid (OwnL w [ints xtail_e .u8 (.slice xtail_a xtail_b.length xtail_c) xtail_b]) from ha)
 have Hy0 := (show Hid (OwnL w [ints ytail_e .u8 (.slice ytail_a xtail_b.length ytail_c) xtail_b]) from hb)
 clear ha hb
 dsimp only [StLog.val, BS.v]
 go_enter Tryz.func11, Tryz.ntmps11
 have hk0 : Same w ((w.alloc (.cells #[.int .i64 xsectors, .int .i64 xepoch, .int .i64 xstop, .int .i64 xflushed, .slice xtail_a xtail_b.length xtail_c] 33)).alloc (.cells #[.int .i64 xsectors, .int .i64 xepoch, .int .i64 xstop, .int .i64 xflushed, .slice ytail_a xtail_b.length ytail_c] 33)) := ((Kept.refl _ _).alloc _).alloc _
 have HK0 := (show Hid (Same w _) from hk0)
 obtain ⟨_, HBx0, HBy0⟩ := new2 w [.int .i64 xsectors, .int .i64 xepoch, .int .i64 xstop, .int .i64 xflushed, .slice xtail_a xtail_b.length xtail_c] 33 [.int .i64 xsectors, .int .i64 xepoch, .int .i64 xstop, .int .i64 xflushed, .slice ytail_a xtail_b.length ytail_c] 33
 clear hk0
 go_wp2_with fail
 refine (eqByteS_own 0 _ _ xtail_b _ (by omega) (Hx0.out.of_one.same HK0.out) (Hy0.out.of_one.same HK0.out)).mono ?_
 rintro e w1 ⟨rfl, nn, hww⟩
 have hk : Same ((w.alloc (.cells #[.int .i64 xsectors, .int .i64 xepoch, .int .i64 xstop, .int .i64 xflushed, .slice xtail_a xtail_b.length xtail_c] 33)).alloc (.cells #[.int .i64 xsectors, .int .i64 xepoch, .int .i64 xstop, .int .i64 xflushed, .slice ytail_a xtail_b.length ytail_c] 33)) w1 := by rw [hww]; exact (Kept.refl _ _).drewN _
 clear hww
 have HK1 := hid (HK0.out.trans hk)
 have HBx1 := hid (HBx0.out.same hk)
 have HBy1 := hid (HBy0.out.same hk)
 clear hk HK0 HBx0 HBy0
 go_wp2
 go_ret
 exact ⟨rfl, HK1.out⟩
theorem markLog_own (x : StLog) (k0 : Int) (w : World) (h0 : 0 ≤ k0) (h1 : k0 + x.size ≤ 1125899906842624) (ha : OwnL w x.rows) :
  Calls Tryz.prog 13 #[x.val, .int .i64 k0] w fun e w' => e = .returned (.int .i64 (k0 + x.size)) ∧ OwnL w' (x.marked k0).rows ∧ Kept (FootL x.rows) w w' := by
 have hlt := ha.lt
 have HLT := (show Hid (∀ b, FootL x.rows b → b < w.heap.size) from hlt)
 have HA := (show Hid (OwnL w x.rows) from ha)
 clear hlt
 obtain ⟨xsectors, xepoch, xstop, xflushed, ⟨xtail_e, xtail_a, xtail_c, xtail_b⟩⟩ := x
 have HO0_0 := (show Hid (OwnL w [ints xtail_e .u8 (.slice xtail_a xtail_b.length xtail_c) xtail_b]) from ha)
 clear ha
 simp only [StLog.size] at h1
 dsimp only [StLog.val, BS.v]
 go_enter Tryz.func13, Tryz.ntmps13
 have HK_0 := (show Hid (Kept (FootL (StLog.rows ⟨xsectors, xepoch, xstop, xflushed, ⟨xtail_e, xtail_a, xtail_c, xtail_b⟩⟩)) w (w.alloc (.cells #[.int .i64 xsectors, .int .i64 xepoch, .int .i64 xstop, .int .i64 xflushed, .slice xtail_a xtail_b.length xtail_c] 33))) from (Kept.refl _ _).alloc _)
 have HB_0 := hid (Blk.newL w [.int .i64 xsectors, .int .i64 xepoch, .int .i64 xstop, .int .i64 xflushed, .slice xtail_a xtail_b.length xtail_c] 33)
 go_wp2_with fail
 refine (markByteS_own 0 _ xtail_b (k0) _ (by omega) (by omega) (by omega) (OwnL.of_one (HO0_0.out.same ((Kept.refl _ _).alloc _)))).mono ?_
 rintro e w1 ⟨rfl, ho, hk⟩
 have ho := (show OwnL w1 (BS.rows (BS.marked ⟨xtail_e, xtail_a, xtail_c, xtail_b⟩ (k0))) from BS.own_marked.2 (OwnL.one ho))
 have hk : Kept (FootL [ints xtail_e .u8 (.slice xtail_a xtail_b.length xtail_c) xtail_b]) _ w1 := hk.mono (fun b _ e => (footL_ints _ _ _ _ _).2 e)
 have HB_1 := (show Hid (Blk w1 w.heap.size 33 [.int .i64 xsectors, .int .i64 xepoch, .int .i64 xstop, .int .i64 xflushed, .slice xtail_a xtail_b.length xtail_c]) from HB_0.out.kept hk (fun e => by have := HLT.out _ (e); omega))
 have HK_1 := (show Hid (Kept (FootL (StLog.rows ⟨xsectors, xepoch, xstop, xflushed, ⟨xtail_e, xtail_a, xtail_c, xtail_b⟩⟩)) w w1) from HK_0.out.next hk (fun b _ e => e))
 have HO0_1 := (show Hid (OwnL w1 (BS.rows (BS.marked ⟨xtail_e, xtail_a, xtail_c, xtail_b⟩ (k0)))) from ho)
 clear ho hk HB_0 HK_0 HO0_0
 go_wp2
 go_ret
 refine ⟨rfl, ?_, HK_1.out⟩
 exact HO0_1.out
theorem heldLog_own (x : StLog) (k0 : Int) (w : World) (h0 : 0 ≤ k0) (h1 : k0 + x.size ≤ 1125899906842624) (ha : OwnL w (x.marked k0).rows) :
  Calls Tryz.prog 41 #[x.val, .int .i64 k0] w fun e w' => e = .returned (.int .i64 (k0 + x.size)) ∧ Same w w' := by
 obtain ⟨xsectors, xepoch, xstop, xflushed, ⟨xtail_e, xtail_a, xtail_c, xtail_b⟩⟩ := x
 have HO0 := (show Hid (OwnL w [ints xtail_e .u8 (.slice xtail_a xtail_b.length xtail_c) (marks (k0) xtail_b.length)]) from BS.own_marked.1 (ha))
 clear ha
 simp only [StLog.size] at h1
 dsimp only [StLog.val, BS.v]
 go_enter Tryz.func41, Tryz.ntmps41
 obtain ⟨HK0, HB0⟩ := new1 w [.int .i64 xsectors, .int .i64 xepoch, .int .i64 xstop, .int .i64 xflushed, .slice xtail_a xtail_b.length xtail_c] 33
 have hneg0 : ¬ (k0 + (xtail_b.length : Int)) < 0 := by omega
 go_wp2_with fail
 refine (heldByteS_own 0 _ xtail_b.length (k0) _ (by omega) (by omega) (by omega) (OwnL.of_one (HO0.out.same HK0.out))).mono ?_
 rintro e w1 ⟨rfl, hww⟩
 have hk : Same (w.alloc (.cells #[.int .i64 xsectors, .int .i64 xepoch, .int .i64 xstop, .int .i64 xflushed, .slice xtail_a xtail_b.length xtail_c] 33)) w1 := by rw [hww]; exact Kept.refl _ _
 clear hww
 have HK1 := hid (HK0.out.trans hk)
 have HB1 := hid (HB0.out.same hk)
 clear hk
 go_wp2
 go_ret
 exact ⟨rfl, HK1.out⟩
theorem szLog_any (x : StLog) (left : Int) (w : World) (h0 : 0 ≤ left) (h1 : left ≤ 1048576) (ha : StLog.rd w x) :
  Calls Tryz.prog 4 #[x.val, .int .i64 left] w fun e w' => ∃ r : Int, e = .returned (.int .i64 r) ∧ (r = -1 ∨ (r = left - x.szs ∧ 0 ≤ r)) ∧ Same w w' := by
 obtain ⟨xsectors, xepoch, xstop, xflushed, ⟨xtail_e, xtail_a, xtail_c, xtail_b⟩⟩ := x
 have hm0 : xtail_b.length ≤ maxLen := (ha).1
 clear ha
 dsimp only [StLog.val, BS.v]
 go_enter Tryz.func4, Tryz.ntmps4
 obtain ⟨HK0, HB0⟩ := new1 w [.int .i64 xsectors, .int .i64 xepoch, .int .i64 xstop, .int .i64 xflushed, .slice xtail_a xtail_b.length xtail_c] 24
 go_wp2_with fail
 refine (szByteS_any _ _ _ left _ (by omega) (by omega) hm0).mono ?_
 rintro e w1 ⟨r1, rfl, hr, hww⟩
 have hk : Same (w.alloc (.cells #[.int .i64 xsectors, .int .i64 xepoch, .int .i64 xstop, .int .i64 xflushed, .slice xtail_a xtail_b.length xtail_c] 24)) w1 := by rw [hww]; exact Kept.refl _ _
 clear hww
 replace hr : r1 = -1 ∨ (r1 = left - xtail_b.length ∧ 0 ≤ r1) := by omega
 have HK1 := hid (HK0.out.trans hk)
 have HB1 := hid (HB0.out.same hk)
 clear hk
 rcases hr with rfl | ⟨hr, hr1⟩
 ·go_wp2
  go_ret
  exact ⟨_, rfl, .inl rfl, HK1.out⟩
 have hle1 : r1 ≤ 1048576 := by omega
 have HR1 := (show Hid (_ = _) from hr)
 clear hr
 go_wp2
 go_ret
 exact ⟨_, rfl, .inr ⟨by have e1 := HR1.out; simp only [StLog.szs]; omega, hr1⟩, HK1.out⟩
theorem toLog_any (x : StLog) (w : World) (hn : x.szs ≤ 1073741824) (ha : StLog.rd w x) :
  Calls Tryz.prog 7 #[x.val] w fun e w' => ∃ y : StLog, e = .returned y.val ∧ y.dat = x.dat ∧ y.szs = x.szs ∧ (∀ b, FootL y.rows b → w.heap.size ≤ b) ∧ OwnL w' y.rows ∧ Same w w' := by
 obtain ⟨xsectors, xepoch, xstop, xflushed, ⟨xtail_e, xtail_a, xtail_c, xtail_b⟩⟩ := x
 have HV0 := (show Hid (Rd .u8 w (.slice xtail_a xtail_b.length xtail_c) xtail_b) from ha)
 clear ha
 simp only [StLog.szs] at hn
 dsimp only [StLog.val, BS.v]
 go_enter Tryz.func7, Tryz.ntmps7
 have hk0 : Same w (((w.alloc (.cells #[.int .i64 xsectors, .int .i64 xepoch, .int .i64 xstop, .int .i64 xflushed, .slice xtail_a xtail_b.length xtail_c] 24)).alloc (.cells #[.int .i64 0, .int .i64 0, .int .i64 0, .int .i64 0, .slice none 0 0] 33)).alloc (.cells #[.int .i64 xsectors, .int .i64 xepoch, .int .i64 xstop, .int .i64 xflushed, .slice none 0 0] 33)) := (((Kept.refl _ _).alloc _).alloc _).alloc _
 have b0 : Blk (((w.alloc (.cells #[.int .i64 xsectors, .int .i64 xepoch, .int .i64 xstop, .int .i64 xflushed, .slice xtail_a xtail_b.length xtail_c] 24)).alloc (.cells #[.int .i64 0, .int .i64 0, .int .i64 0, .int .i64 0, .slice none 0 0] 33)).alloc (.cells #[.int .i64 xsectors, .int .i64 xepoch, .int .i64 xstop, .int .i64 xflushed, .slice none 0 0] 33)) (w.heap.size) 24 [.int .i64 xsectors, .int .i64 xepoch, .int .i64 xstop, .int .i64 xflushed, .slice xtail_a xtail_b.length xtail_c] := ((Blk.new w #[.int .i64 xsectors, .int .i64 xepoch, .int .i64 xstop, .int .i64 xflushed, .slice xtail_a xtail_b.length xtail_c] 24).alloc _).alloc _
 have b1 : Blk (((w.alloc (.cells #[.int .i64 xsectors, .int .i64 xepoch, .int .i64 xstop, .int .i64 xflushed, .slice xtail_a xtail_b.length xtail_c] 24)).alloc (.cells #[.int .i64 0, .int .i64 0, .int .i64 0, .int .i64 0, .slice none 0 0] 33)).alloc (.cells #[.int .i64 xsectors, .int .i64 xepoch, .int .i64 xstop, .int .i64 xflushed, .slice none 0 0] 33)) (w.heap.size + 1) 33 [.int .i64 0, .int .i64 0, .int .i64 0, .int .i64 0, .slice none 0 0] := by have h := (Blk.new (w.alloc (.cells #[.int .i64 xsectors, .int .i64 xepoch, .int .i64 xstop, .int .i64 xflushed, .slice xtail_a xtail_b.length xtail_c] 24)) #[.int .i64 0, .int .i64 0, .int .i64 0, .int .i64 0, .slice none 0 0] 33).alloc (.cells #[.int .i64 xsectors, .int .i64 xepoch, .int .i64 xstop, .int .i64 xflushed, .slice none 0 0] 33); rwa [World.size_alloc] at h
 have b2 : Blk (((w.alloc (.cells #[.int .i64 xsectors, .int .i64 xepoch, .int .i64 xstop, .int .i64 xflushed, .slice xtail_a xtail_b.length xtail_c] 24)).alloc (.cells #[.int .i64 0, .int .i64 0, .int .i64 0, .int .i64 0, .slice none 0 0] 33)).alloc (.cells #[.int .i64 xsectors, .int .i64 xepoch, .int .i64 xstop, .int .i64 xflushed, .slice none 0 0] 33)) (w.heap.size + 1 + 1) 33 [.int .i64 xsectors, .int .i64 xepoch, .int .i64 xstop, .int .i64 xflushed, .slice none 0 0] := by have h := Blk.new ((w.alloc (.cells #[.int .i64 xsectors, .int .i64 xepoch, .int .i64 xstop, .int .i64 xflushed, .slice xtail_a xtail_b.length xtail_c] 24)).alloc (.cells #[.int .i64 0, .int .i64 0, .int .i64 0, .int .i64 0, .slice none 0 0] 33)) #[.int .i64 xsectors, .int .i64 xepoch, .int .i64 xstop, .int .i64 xflushed, .slice none 0 0] 33; rwa [World.size_alloc, World.size_alloc] at h
 have hsz : (((w.alloc (.cells #[.int .i64 xsectors, .int .i64 xepoch, .int .i64 xstop, .int .i64 xflushed, .slice xtail_a xtail_b.length xtail_c] 24)).alloc (.cells #[.int .i64 0, .int .i64 0, .int .i64 0, .int .i64 0, .slice none 0 0] 33)).alloc (.cells #[.int .i64 xsectors, .int .i64 xepoch, .int .i64 xstop, .int .i64 xflushed, .slice none 0 0] 33)).heap.size = w.heap.size + 1 + 1 + 1 := by simp only [World.size_alloc]
 go_wp2_with fail
 refine (toByteS_any _ xtail_b _ (by omega) (HV0.out.same hk0)).mono ?_
 rintro e w1 ⟨g0, rfl, hg, ho, hk⟩
 have O0 : OwnL w1 (BS.rows ⟨5, some ⟨g0, 0, none⟩, xtail_b.length, xtail_b⟩) := OwnL.one ho
 have F0 : ∀ b, FootL (BS.rows ⟨5, some ⟨g0, 0, none⟩, xtail_b.length, xtail_b⟩) b → w.heap.size + 1 + 1 < b := fun b hb => by have h := (footL_ints _ _ _ _ _).1 hb; have h2 : g0 = b := Option.some.inj h; have h3 := hg; omega
 clear ho
 have hk1 : Same w w1 := hk0.trans hk
 replace b0 : Blk w1 (w.heap.size) 24 [.int .i64 xsectors, .int .i64 xepoch, .int .i64 xstop, .int .i64 xflushed, .slice xtail_a xtail_b.length xtail_c] := b0.same hk
 replace b1 : Blk w1 (w.heap.size + 1) 33 [.int .i64 0, .int .i64 0, .int .i64 0, .int .i64 0, .slice none 0 0] := b1.same hk
 replace b2 : Blk w1 (w.heap.size + 1 + 1) 33 [.int .i64 xsectors, .int .i64 xepoch, .int .i64 xstop, .int .i64 xflushed, .slice none 0 0] := b2.same hk
 replace hsz : w.heap.size + 1 + 1 + 1 ≤ w1.heap.size := by have := hk.size; omega
 clear hk hg
 have da1_0 := b0.c0
 have dr1_0 := b1.c0
 have fr1_0 : w1.frozen? ⟨w.heap.size + 1, 0, none⟩ = false := b1.frozen 0
 have do1_0 := b2.c0
 have fo1_0 : w1.frozen? ⟨w.heap.size + 1 + 1, 0, none⟩ = false := b2.frozen 0
 have da1_1 := b0.c1
 have dr1_1 := b1.c1
 have fr1_1 : w1.frozen? ⟨w.heap.size + 1, 1, none⟩ = false := b1.frozen 1
 have do1_1 := b2.c1
 have fo1_1 : w1.frozen? ⟨w.heap.size + 1 + 1, 1, none⟩ = false := b2.frozen 1
 have da1_2 := b0.c2
 have dr1_2 := b1.c2
 have fr1_2 : w1.frozen? ⟨w.heap.size + 1, 2, none⟩ = false := b1.frozen 2
 have do1_2 := b2.c2
 have fo1_2 : w1.frozen? ⟨w.heap.size + 1 + 1, 2, none⟩ = false := b2.frozen 2
 have da1_3 := b0.c3
 have dr1_3 := b1.c3
 have fr1_3 : w1.frozen? ⟨w.heap.size + 1, 3, none⟩ = false := b1.frozen 3
 have do1_3 := b2.c3
 have fo1_3 : w1.frozen? ⟨w.heap.size + 1 + 1, 3, none⟩ = false := b2.frozen 3
 have da1_4 := b0.c4
 have dr1_4 := b1.c4
 have fr1_4 : w1.frozen? ⟨w.heap.size + 1, 4, none⟩ = false := b1.frozen 4
 have do1_4 := b2.c4
 have fo1_4 : w1.frozen? ⟨w.heap.size + 1 + 1, 4, none⟩ = false := b2.frozen 4
 have HKz := (show Hid (Same w w1) from hk1)
 have HB1 := (show Hid (Blk w1 (w.heap.size + 1) 33 [.int .i64 0, .int .i64 0, .int .i64 0, .int .i64 0, .slice none 0 0]) from b1)
 have HO0 := (show Hid (OwnL w1 (BS.rows ⟨5, some ⟨g0, 0, none⟩, xtail_b.length, xtail_b⟩)) from O0)
 have HF0 := (show Hid (∀ b, FootL (BS.rows ⟨5, some ⟨g0, 0, none⟩, xtail_b.length, xtail_b⟩) b → w.heap.size + 1 + 1 < b) from F0)
 clear b0 b1 b2 hk0 hk1 O0 F0 
 go_wp2
 refine bodyPost_ret (v := StLog.val ⟨xsectors, xepoch, xstop, xflushed, ⟨5, some ⟨g0, 0, none⟩, xtail_b.length, xtail_b⟩⟩) (by simp [StLog.val, StLog.val, BS.v, results, Tryz.results7, go_sem, dr1_0, dr1_1, dr1_2, dr1_3, dr1_4]) rfl ⟨⟨xsectors, xepoch, xstop, xflushed, ⟨5, some ⟨g0, 0, none⟩, xtail_b.length, xtail_b⟩⟩, rfl, ?_, ?_, ?_, ?_, ?_⟩
 ·rfl
 ·rfl
 ·exact fun b hb => by have := HF0.out b (hb); omega
 ·refine OwnL.kept (R := fun b => b = w.heap.size + 1 ∨ b = w.heap.size + 1 + 1) (show OwnL _ (StLog.rows ⟨xsectors, xepoch, xstop, xflushed, ⟨5, some ⟨g0, 0, none⟩, xtail_b.length, xtail_b⟩⟩) from HO0.out) ?_ ?_
  ·exact (Kept.setCell (Kept.setCell (Kept.setCell (Kept.setCell (Kept.setCell (Kept.setCell (Kept.refl (fun b => b = w.heap.size + 1 ∨ b = w.heap.size + 1 + 1) _) (p := ⟨w.heap.size + 1 + 1, 4, none⟩) (.inr (.inr rfl)) _) (p := ⟨w.heap.size + 1, 0, none⟩) (.inr (.inl rfl)) _) (p := ⟨w.heap.size + 1, 1, none⟩) (.inr (.inl rfl)) _) (p := ⟨w.heap.size + 1, 2, none⟩) (.inr (.inl rfl)) _) (p := ⟨w.heap.size + 1, 3, none⟩) (.inr (.inl rfl)) _) (p := ⟨w.heap.size + 1, 4, none⟩) (.inr (.inl rfl)) _)
  ·exact fun b hb e => by have := HF0.out b (hb); omega
 ·exact (Kept.setCell (Kept.setCell (Kept.setCell (Kept.setCell (Kept.setCell (Kept.setCell HKz.out (p := ⟨w.heap.size + 1 + 1, 4, none⟩) (.inl (by simp only []; omega)) _) (p := ⟨w.heap.size + 1, 0, none⟩) (.inl (by simp only []; omega)) _) (p := ⟨w.heap.size + 1, 1, none⟩) (.inl (by simp only []; omega)) _) (p := ⟨w.heap.size + 1, 2, none⟩) (.inl (by simp only []; omega)) _) (p := ⟨w.heap.size + 1, 3, none⟩) (.inl (by simp only []; omega)) _) (p := ⟨w.heap.size + 1, 4, none⟩) (.inl (by simp only []; omega)) _)
theorem inB_true {v a b : Int} (h : a ≤ v ∧ v ≤ b) : inB v a b = true := by simp [inB, h.1, h.2]
theorem inB_false {v a b : Int} (h : ¬ (a ≤ v ∧ v ≤ b)) : inB v a b = false := by simp [inB]; omega
theorem isLogSize_any (s : Int) (w : World) : Calls Tryz.prog 54 #[.int .i64 s] w fun e w' => e = .returned (.bool (inB s 16 800)) ∧ Same w w' := by
 unfold inB
 by_cases h : 16 ≤ s
 ·go_enter Tryz.func54, Tryz.ntmps54
  go_wp2
  go_ret
  exact ⟨by simp [h], Kept.refl _ _⟩
 ·go_enter Tryz.func54, Tryz.ntmps54
  go_wp2
  go_ret
  exact ⟨by rw [show decide (16 ≤ s) = false from by simp; omega]; rfl, Kept.refl _ _⟩
def logFault (s e st fl : Int) (n : Nat) : Int :=
 if ¬ (16 ≤ s ∧ s ≤ 800) then 1 else if ¬ (1 ≤ e ∧ e ≤ 4294967295) then 2 else if fl < 512 ∨ st < fl ∨ 1099511627776 < st then 3 else if (n : Int) ≠ st - fl + fl % 512 then 4 else 0
def logFd (d : Int × Int × Int × Int × List Int) : Int := logFault d.1 d.2.1 d.2.2.1 d.2.2.2.1 d.2.2.2.2.length
theorem logFault_good {s e st fl : Int} {n : Nat} (h : logFault s e st fl n = 0) : (16 ≤ s ∧ s ≤ 800) ∧ (1 ≤ e ∧ e ≤ 4294967295) ∧ 512 ≤ fl ∧ fl ≤ st ∧ st ≤ 1099511627776 ∧ (n : Int) = st - fl + fl % 512 := by
 unfold logFault at h
 split at h
 ·cases h
 ·split at h
  ·cases h
  ·split at h
   ·cases h
   ·split at h
    ·cases h
    ·omega
def StLog.isB (x : StLog) : Prop := IsB x.tail.bs
theorem StLog.isB_dat {x y : StLog} (h : y.dat = x.dat) (hx : x.isB) : y.isB := by
 simp only [StLog.dat, Prod.mk.injEq] at h
 obtain ⟨_, _, _, _, h3⟩ := h
 unfold StLog.isB at *
 rw [h3]
 exact hx
theorem StLog.size_rd {w : World} {x : StLog} (h : StLog.rd w x) : x.size ≤ 4 * x.szs := by
 simp only [StLog.size, StLog.szs]
 omega
theorem sectorStart_any (p : Int) (w : World) (h0 : 0 ≤ p) (h1 : p ≤ 1099511627776) : Calls Tryz.prog 55 #[.int .i64 p] w fun e w' => e = .returned (.int .i64 (p - p % 512)) ∧ Same w w' := by
 go_enter Tryz.func55, Tryz.ntmps55
 go_wp2
 go_ret
 exact ⟨ret_int (by omega), Kept.refl _ _⟩
theorem specLogFault_any (x : StLog) (w : World) (hB : x.isB) (hn : x.szs ≤ 1073741824) (hv : StLog.rd w x) :
  Calls Tryz.prog 21 #[x.val] w fun e w' => e = .returned (.int .i64 (logFd x.dat)) ∧ Same w w' := by
 obtain ⟨s, ep, st, fl, te, ta, tc, tb⟩ := x
 simp only [StLog.szs] at hn
 clear hB hv
 dsimp only [StLog.val, StLog.dat, logFd, BS.v, logFault]
 have h1 := fun wx => l4In_any s 16 800 wx
 have h2 := fun wx => l4In_any ep 1 4294967295 wx
 have b0 := Blk.new w #[.int .i64 s, .int .i64 ep, .int .i64 st, .int .i64 fl, .slice ta tb.length tc] 33
 by_cases hs : 16 ≤ s ∧ s ≤ 800
 ·rw [inB_true hs] at h1
  rw [if_neg (not_not_intro hs)]
  by_cases he : 1 ≤ ep ∧ ep ≤ 4294967295
  ·rw [inB_true he] at h2
   rw [if_neg (not_not_intro he)]
   clear hs he
   by_cases hp : fl < 512 ∨ st < fl ∨ 1099511627776 < st
   ·rw [if_pos hp]
    by_cases hp1 : fl < 512
    ·clear hp
     go_enter Tryz.func21, Tryz.ntmps21
     go_wp2_with (first
      | (go_at_call 42; (with_reducible refine (h1 _).mono ?_); rintro e w1 ⟨rfl, hk1⟩; have b1 := b0.same hk1; have c1 : w1.cell? ⟨w.heap.size, 1, none⟩ = some (.int .i64 ep) := b1.cell 1)
      | (go_at_call 42; (with_reducible refine (h2 _).mono ?_); rintro e w2 ⟨rfl, hk2⟩; have b2 := b1.same hk2; have c2 : w2.cell? ⟨w.heap.size, 2, none⟩ = some (.int .i64 st) := b2.cell 2; have c3 : w2.cell? ⟨w.heap.size, 3, none⟩ = some (.int .i64 fl) := b2.cell 3; have c4 : w2.cell? ⟨w.heap.size, 4, none⟩ = some (.slice ta tb.length tc) := b2.cell 4))
     go_ret
     exact ⟨rfl, (((Kept.refl _ _).alloc _).trans hk1).trans hk2⟩
    ·by_cases hp2 : st < fl
     ·clear hp
      go_enter Tryz.func21, Tryz.ntmps21
      go_wp2_with (first
       | (go_at_call 42; (with_reducible refine (h1 _).mono ?_); rintro e w1 ⟨rfl, hk1⟩; have b1 := b0.same hk1; have c1 : w1.cell? ⟨w.heap.size, 1, none⟩ = some (.int .i64 ep) := b1.cell 1)
       | (go_at_call 42; (with_reducible refine (h2 _).mono ?_); rintro e w2 ⟨rfl, hk2⟩; have b2 := b1.same hk2; have c2 : w2.cell? ⟨w.heap.size, 2, none⟩ = some (.int .i64 st) := b2.cell 2; have c3 : w2.cell? ⟨w.heap.size, 3, none⟩ = some (.int .i64 fl) := b2.cell 3; have c4 : w2.cell? ⟨w.heap.size, 4, none⟩ = some (.slice ta tb.length tc) := b2.cell 4))
      go_ret
      exact ⟨rfl, (((Kept.refl _ _).alloc _).trans hk1).trans hk2⟩
     ·have hp3 : 1099511627776 < st := by omega
      clear hp
      go_enter Tryz.func21, Tryz.ntmps21
      go_wp2_with (first
       | (go_at_call 42; (with_reducible refine (h1 _).mono ?_); rintro e w1 ⟨rfl, hk1⟩; have b1 := b0.same hk1; have c1 : w1.cell? ⟨w.heap.size, 1, none⟩ = some (.int .i64 ep) := b1.cell 1)
       | (go_at_call 42; (with_reducible refine (h2 _).mono ?_); rintro e w2 ⟨rfl, hk2⟩; have b2 := b1.same hk2; have c2 : w2.cell? ⟨w.heap.size, 2, none⟩ = some (.int .i64 st) := b2.cell 2; have c3 : w2.cell? ⟨w.heap.size, 3, none⟩ = some (.int .i64 fl) := b2.cell 3; have c4 : w2.cell? ⟨w.heap.size, 4, none⟩ = some (.slice ta tb.length tc) := b2.cell 4))
      go_ret
      exact ⟨rfl, (((Kept.refl _ _).alloc _).trans hk1).trans hk2⟩
   ·rw [if_neg hp]
    have hp1 : ¬ fl < 512 := by omega
    have hp2 : ¬ st < fl := by omega
    have hp3 : ¬ 1099511627776 < st := by omega
    clear hp
    by_cases ht : (tb.length : Int) ≠ st - fl + fl % 512
    ·rw [if_pos ht]
     go_enter Tryz.func21, Tryz.ntmps21
     go_wp2_with (first
      | (go_at_call 42; (with_reducible refine (h1 _).mono ?_); rintro e w1 ⟨rfl, hk1⟩; have b1 := b0.same hk1; have c1 : w1.cell? ⟨w.heap.size, 1, none⟩ = some (.int .i64 ep) := b1.cell 1)
      | (go_at_call 42; (with_reducible refine (h2 _).mono ?_); rintro e w2 ⟨rfl, hk2⟩; have b2 := b1.same hk2; have c2 : w2.cell? ⟨w.heap.size, 2, none⟩ = some (.int .i64 st) := b2.cell 2; have c3 : w2.cell? ⟨w.heap.size, 3, none⟩ = some (.int .i64 fl) := b2.cell 3; have c4 : w2.cell? ⟨w.heap.size, 4, none⟩ = some (.slice ta tb.length tc) := b2.cell 4))
     go_ret
     exact ⟨rfl, (((Kept.refl _ _).alloc _).trans hk1).trans hk2⟩
    ·rw [if_neg ht]
     have ht' : (tb.length : Int) = st - fl + fl % 512 := by omega
     clear ht
     go_enter Tryz.func21, Tryz.ntmps21
     go_wp2_with (first
      | (go_at_call 42; (with_reducible refine (h1 _).mono ?_); rintro e w1 ⟨rfl, hk1⟩; have b1 := b0.same hk1; have c1 : w1.cell? ⟨w.heap.size, 1, none⟩ = some (.int .i64 ep) := b1.cell 1)
      | (go_at_call 42; (with_reducible refine (h2 _).mono ?_); rintro e w2 ⟨rfl, hk2⟩; have b2 := b1.same hk2; have c2 : w2.cell? ⟨w.heap.size, 2, none⟩ = some (.int .i64 st) := b2.cell 2; have c3 : w2.cell? ⟨w.heap.size, 3, none⟩ = some (.int .i64 fl) := b2.cell 3; have c4 : w2.cell? ⟨w.heap.size, 4, none⟩ = some (.slice ta tb.length tc) := b2.cell 4))
     go_ret
     exact ⟨rfl, (((Kept.refl _ _).alloc _).trans hk1).trans hk2⟩
  ·rw [inB_false he] at h2
   rw [if_pos he]
   clear hs he
   go_enter Tryz.func21, Tryz.ntmps21
   go_wp2_with (first
    | (go_at_call 42; (with_reducible refine (h1 _).mono ?_); rintro e w1 ⟨rfl, hk1⟩; have b1 := b0.same hk1; have c1 : w1.cell? ⟨w.heap.size, 1, none⟩ = some (.int .i64 ep) := b1.cell 1)
    | (go_at_call 42; (with_reducible refine (h2 _).mono ?_); rintro e w2 ⟨rfl, hk2⟩))
   go_ret
   exact ⟨rfl, (((Kept.refl _ _).alloc _).trans hk1).trans hk2⟩
 ·rw [inB_false hs] at h1
  rw [if_pos hs]
  go_enter Tryz.func21, Tryz.ntmps21
  go_wp2_with (go_at_call 42; (with_reducible refine (h1 _).mono ?_); rintro e w1 ⟨rfl, hk1⟩)
  go_ret
  exact ⟨rfl, ((Kept.refl _ _).alloc _).trans hk1⟩
theorem array_log {cs : Array Value} (h : cs.size = 5) : ∃ c0 c1 c2 c3 c4, cs = #[c0, c1, c2, c3, c4] := by
 obtain ⟨l⟩ := cs
 match l, h with
 | [c0, c1, c2, c3, c4], _ => exact ⟨c0, c1, c2, c3, c4, rfl⟩
section
variable {H : Type} {enc : TypeId × Value → H} {w : World} {base : Nat} {spare : Nat → Bool} {held : Bool}
theorem open_log {r : Reach} {b0 : Nat} {v : Value} {d : DataW H} {p : List MemPlace} (hv : Value.okWide Tryz.prog w r b0 24 v) (h : DataW.Trod enc Tryz.prog w base spare held 24 v d p) :
  ∃ x : StLog, v = x.val ∧ StLog.rd w x ∧ x.isB := by
 obtain ⟨cs, rfl, hsz⟩ := okWide_struct Tryz.underlying24 hv
 obtain ⟨c0, c1, c2, c3, c4, rfl⟩ := array_log (hsz.trans (by kernel_rfl))
 obtain ⟨fuel, hf⟩ := h
 obtain ⟨xs, n, _, _, _, hxl, hg⟩ := DataW.trod_struct Tryz.underlying24 hf
 have g0 : ∃ x, DataW.trod enc Tryz.prog w base spare held n 2 [c0] = some x := ⟨xs[0]'(by rw [hxl]; decide), by have h := hg 0 _ rfl; rw [List.getElem?_eq_getElem (by rw [hxl]; decide)] at h; exact h⟩
 obtain ⟨x0, g0⟩ := g0
 obtain ⟨z0, e0, _, _⟩ := DataW.trod_int Tryz.underlying2 g0
 simp at e0
 subst e0
 have g1 : ∃ x, DataW.trod enc Tryz.prog w base spare held n 2 [c1] = some x := ⟨xs[1]'(by rw [hxl]; decide), by have h := hg 1 _ rfl; rw [List.getElem?_eq_getElem (by rw [hxl]; decide)] at h; exact h⟩
 obtain ⟨x1, g1⟩ := g1
 obtain ⟨z1, e1, _, _⟩ := DataW.trod_int Tryz.underlying2 g1
 simp at e1
 subst e1
 have g2 : ∃ x, DataW.trod enc Tryz.prog w base spare held n 2 [c2] = some x := ⟨xs[2]'(by rw [hxl]; decide), by have h := hg 2 _ rfl; rw [List.getElem?_eq_getElem (by rw [hxl]; decide)] at h; exact h⟩
 obtain ⟨x2, g2⟩ := g2
 obtain ⟨z2, e2, _, _⟩ := DataW.trod_int Tryz.underlying2 g2
 simp at e2
 subst e2
 have g3 : ∃ x, DataW.trod enc Tryz.prog w base spare held n 2 [c3] = some x := ⟨xs[3]'(by rw [hxl]; decide), by have h := hg 3 _ rfl; rw [List.getElem?_eq_getElem (by rw [hxl]; decide)] at h; exact h⟩
 obtain ⟨x3, g3⟩ := g3
 obtain ⟨z3, e3, _, _⟩ := DataW.trod_int Tryz.underlying2 g3
 simp at e3
 subst e3
 have g4 : ∃ x, DataW.trod enc Tryz.prog w base spare held n 22 [c4] = some x := ⟨xs[4]'(by rw [hxl]; decide), by have h := hg 4 _ rfl; rw [List.getElem?_eq_getElem (by rw [hxl]; decide)] at h; exact h⟩
 obtain ⟨x4, g4⟩ := g4
 obtain ⟨b4, r4, B4⟩ := read_intsB Tryz.underlying22 Tryz.underlying5 (by kernel_rfl) g4
 obtain ⟨a4, k4, rfl⟩ := r4.form
 exact ⟨⟨z0, z1, z2, z3, ⟨0, a4, k4, b4⟩⟩, rfl, r4, fun x hx => by have := B4 x hx; exact ⟨this.1, this.2⟩⟩
end
structure Grew (w : World) (v : Value) (w' : World) (v' : Value) : Prop where
 kept : Kept (fun b => v.ownBlock = some b) w w'
 own : ∀ b, v'.ownBlock = some b → v.ownBlock = some b ∨ w.heap.size ≤ b
theorem Grew.trans {w w1 w2 : World} {v v1 v2 : Value} (h : Grew w v w1 v1) (k : Grew w1 v1 w2 v2) : Grew w v w2 v2 := by
 refine ⟨h.kept.next k.kept (fun i hi e => (h.own i e).resolve_right (by omega)), fun b hb => ?_⟩
 rcases k.own b hb with h1 | h1
 ·exact h.own b h1
 ·have := h.kept.size
  exact .inr (by omega)
theorem Grew.of_same {w w' : World} {v : Value} (h : Same w w') : Grew w v w' v := ⟨h.mono (fun _ _ e => absurd e id), fun b hb => .inl hb⟩
theorem Grew.refl (w : World) (v : Value) : Grew w v w v := Grew.of_same (Kept.refl _ _)
theorem Grew.size {w w' : World} {v v' : Value} (h : Grew w v w' v') : w.heap.size ≤ w'.heap.size := h.kept.size
theorem Grew.same {w0 w w' : World} {v v' : Value} (h : Grew w v w' v') (h0 : Same w0 w) (hv : ∀ b, v.ownBlock = some b → w0.heap.size ≤ b) : Same w0 w' :=
 h0.next h.kept (fun i hi e => by have := hv i e; omega)
theorem Grew.fresh {w0 w w' : World} {v v' : Value} (h : Grew w v w' v') (h0 : Same w0 w) (hv : ∀ b, v.ownBlock = some b → w0.heap.size ≤ b) : ∀ b, v'.ownBlock = some b → w0.heap.size ≤ b := fun b hb => by
 rcases h.own b hb with h1 | h1
 ·exact hv b h1
 ·have := h0.size
  omega
theorem run_app {ty : TypeId} {w : World} {v x : Value} {bs ys : List Int} (ho : Own 0 5 .u8 w v bs) (hx : Rd .u8 w x ys) (hl : bs.length + ys.length ≤ 1099511627776) :
  ∃ a n c w', (Builtin.append_ #[22, 22] ty #[v, x]).run Tryz.prog w = .ok (.slice a n c) w' ∧ Own 0 5 .u8 w' (.slice a n c) (bs ++ ys) ∧ Grew w v w' (.slice a n c) := by
 obtain ⟨i0, hi, hz0, hz1, hz2⟩ := info_parts Tryz.infoByte'
 have some_case : ∀ (ad : Addr) (c : Nat), (∀ j u, (vals .u8 ys)[j]? = some u → w.cell? (ad.add j) = some u) → ∃ a n c' w', (Builtin.append_ #[22, 22] ty #[v, .slice (some ad) ys.length c]).run Tryz.prog w = .ok (.slice a n c') w' ∧ Own 0 5 .u8 w' (.slice a n c') (bs ++ ys) ∧ Grew w v w' (.slice a n c') := fun ad c hn => by
  obtain ⟨v', w', hr, h2, h3, _, h5⟩ := run_append_own_at (P := Tryz.prog) w 0 22 ty 5 i0 (.int .u8 0) 1 1 Tryz.underlying22 hi hz0 hz1 hz2 rfl (by decide) v bs.length (vals .u8 bs) ho ad ys.length c (vals .u8 ys) (by simp [vals_length]) hn vals_one (by unfold maxLen; omega) (by omega) (Nat.zero_le _)
  have h2' : Own 0 5 .u8 w' v' (bs ++ ys) := by unfold Own; simpa [vals] using h2
  obtain ⟨a, n, c', rfl⟩ := slice_of_own h2'
  refine ⟨a, n, c', w', hr, h2', Kept.of_grown h3 (fun k e => e), fun b hb => ?_⟩
  rcases h5 with h5 | h5
  ·exact .inl (by rw [← h5]; exact hb)
  ·rw [h5] at hb
   exact .inr (by have := Option.some.inj hb; omega)
 rcases hx.2 with ⟨rfl, a, c, rfl, hac⟩ | ⟨b, off, c, rfl, _, hc⟩
 ·cases a with
  | none =>
   obtain rfl : c = 0 := hac rfl
   have hr := run_append_owned_none (P := Tryz.prog) (w := w) 0 22 ty 5 i0 1 Tryz.underlying22 hi v bs.length (vals .u8 bs) ho
   obtain ⟨a, n, c', rfl⟩ := slice_of_own ho
   exact ⟨a, n, c', w, hr, by rw [List.append_nil]; exact ho, Grew.refl _ _⟩
  | some ad => exact some_case ad c (fun j u h => by simp [vals] at h)
 ·exact some_case ⟨b, off, none⟩ c (news_of hc)
theorem wp_app {w : World} {o : Oper} {a : Act} {K : Act → World → Prop} {Q : Exit → Act → World → Prop} (s x : Operand)
  (ho : o.op = .call { callee := .builtin .append, args := #[s, x], argTypes := #[22, 22] })
  (v xv : Value) (bs ys : List Int) (hs : a.eval s = v) (hx : a.eval x = xv) (hown : Own 0 5 .u8 w v bs) (hrd : Rd .u8 w xv ys) (hl : bs.length + ys.length ≤ 1099511627776)
  (h : ∀ a' n' c' w', Own 0 5 .u8 w' (.slice a' n' c') (bs ++ ys) → Grew w v w' (.slice a' n' c') → K (a.put o.dst (.slice a' n' c')) w') : o.wp Tryz.prog a w K Q := by
 obtain ⟨a', n', c', w', hr, h2, h3⟩ := run_app (ty := o.type) hown hrd hl
 unfold Oper.wp execOp
 simp only [ho, resolve, invoke, builtin, Sem.run_bind, Sem.run_pure, Result.andThen_ok, List.map_toArray, List.map_cons, List.map_nil, hs, hx, hr]
 exact h a' n' c' w' h2 h3
theorem wpList_app {w : World} {ops : Array Oper} {rest : List Oper} {o : Oper} {a : Act} {Q : Exit → Act → World → Prop} (hgd : o.guard = none) (s x : Operand)
  (ho : o.op = .call { callee := .builtin .append, args := #[s, x], argTypes := #[22, 22] })
  (v xv : Value) (bs ys : List Int) (hs : a.eval s = v) (hx : a.eval x = xv) (hown : Own 0 5 .u8 w v bs) (hrd : Rd .u8 w xv ys) (hl : bs.length + ys.length ≤ 1099511627776)
  (h : ∀ a' n' c' w', Own 0 5 .u8 w' (.slice a' n' c') (bs ++ ys) → Grew w v w' (.slice a' n' c') → wpList Tryz.prog ops Q rest (a.put o.dst (.slice a' n' c')) w') : wpList Tryz.prog ops Q (o :: rest) a w :=
 wpList_plain hgd fun _ hK => wp_app s x ho v xv bs ys hs hx hown hrd hl fun a' n' c' w' h2 h3 => hK _ _ (h a' n' c' w' h2 h3)
theorem step_app {w : World} {ops : Array Oper} {o : Oper} {a : Act} {K : Act → World → Prop} {Q : Exit → Act → World → Prop} {E : Prop} (hgd : o.guard = none) (s x : Operand)
  (ho : o.op = .call { callee := .builtin .append, args := #[s, x], argTypes := #[22, 22] })
  (v xv : Value) (bs ys : List Int) (hs : a.eval s = v) (hx : a.eval x = xv) (hown : Own 0 5 .u8 w v bs) (hrd : Rd .u8 w xv ys) (hl : bs.length + ys.length ≤ 1099511627776)
  (h : ∀ a' n' c' w', Own 0 5 .u8 w' (.slice a' n' c') (bs ++ ys) → Grew w v w' (.slice a' n' c') → K (a.put o.dst (.slice a' n' c')) w') :
  if Region.wanted o (yielded ops a.tmps) = true then Oper.wp Tryz.prog o a w K Q else E := by
 have hw : Region.wanted o (yielded ops a.tmps) = true := by simp [Region.wanted, hgd]
 rw [if_pos hw]
 exact wp_app s x ho v xv bs ys hs hx hown hrd hl h
theorem rd_one (w : World) (x : Int) : Rd .u8 (w.alloc (.cells #[.int .u8 x] 5)) (.slice (some ⟨w.heap.size, 0, none⟩) 1 1) [x] := by
 have h : Blk (w.alloc (.cells #[.int .u8 x] 5)) w.heap.size 5 (vals .u8 [x]) := Blk.new w #[.int .u8 x] 5
 exact (h.own (by unfold maxLen; simp)).rd
theorem implPut_yes (v n : Int) (w : World) (hi0 : IsI v) (h1 : 1 ≤ n) (h2 : n ≤ 8) (h3 : 0 ≤ v) :
  Calls Tryz.prog 77 #[.int .i64 v, .int .i64 n] w fun e w' => ∃ a c, e = .returned (.slice a (numB v n).length c) ∧ (∀ b, (Value.slice a (numB v n).length c).ownBlock = some b → w.heap.size ≤ b) ∧
   Own 0 5 .u8 w' (.slice a (numB v n).length c) (numB v n) ∧ Same w w' := by
 obtain ⟨n, rfl⟩ : ∃ m : Nat, n = m := ⟨n.toNat, by omega⟩
 obtain ⟨i0, hi, hz0, hz1, hz2⟩ := info_parts Tryz.infoByte'
 obtain ⟨hv1, hv2⟩ := hi0
 have h1' : ¬ (n : Int) < 1 := by omega
 have h2' : ¬ (8 : Int) < n := by omega
 have h3' : ¬ v < 0 := by omega
 by_cases hz : v / 256 ^ n = 0
 ·have hz2' : v / 2 ^ (8 * n) = 0 := by rw [pow8]; exact hz
  have hnum : numB v n = lows v n := by unfold numB; rw [if_neg (by simp only [Int.toNat_natCast]; omega)]; simp
  have HN : Hid (numB v n = lows v n) := hnum
  clear hz hnum
  go_enter Tryz.func77, Tryz.ntmps77
  go_wp2_with (first
   | (at_make; go_loud (refine wpList_make_full _ rfl _ _ 22 rfl 0 5 i0 (.int .u8 0) 1 Tryz.underlying22 hi hz0 hz1 .i64 .i64 _ _ n rfl rfl (by first | rfl | simp | omega) (by first | rfl | simp | omega) (by rw [hz2]; omega) (by unfold maxLen; omega) (Nat.zero_le _) ?_); intro w1 hown1 hgrow1; have HO : Hid (Own 0 5 .u8 w1 (.slice (some ⟨w.heap.size, 0, none⟩) n n) (List.replicate n 0)) := own_made (by simpa using hown1); have HK : Hid (Same w w1) := Kept.of_grown hgrow1 (fun k e => by cases e); clear hown1 hgrow1)
   | (go_at_call 57; refine (writeNumber_any w.heap.size 0 n n 5 (vals .u8 (List.replicate n 0)) v _ (Own.blk HO.out) (by simp [vals]) h3 (by omega) (by omega)).mono ?_; rintro e w2 ⟨rfl, hb2, hk2⟩))
  go_ret
  rw [HN.out, lows_length]
  rw [lay_all _ _ (by simp [vals, lows_length])] at hb2
  refine ⟨_, _, rfl, fun b hb => ?_, ?_, HK.out.next hk2 (fun i hi e => by omega)⟩
  ·simp [Value.ownBlock] at hb; omega
  ·have h := Blk.own hb2 (by unfold maxLen; rw [lows_length]; omega)
   rw [lows_length] at h
   exact h
 ·have hz2' : v / 2 ^ (8 * n) ≠ 0 := by rw [pow8]; exact hz
  have hnum : numB v n = [] := by unfold numB; rw [if_pos (by simp only [Int.toNat_natCast]; omega)]
  have HN : Hid (numB v n = []) := hnum
  clear hz hnum
  go_enter Tryz.func77, Tryz.ntmps77
  go_wp2
  go_ret
  rw [HN.out]
  exact ⟨none, 0, rfl, fun b hb => by simp [Value.ownBlock] at hb, Own.nil _ _ _ _, Kept.refl _ _⟩
theorem implPut_no (v n : Int) (w : World) (h : n < 1 ∨ 8 < n ∨ v < 0) :
  Calls Tryz.prog 77 #[.int .i64 v, .int .i64 n] w fun e w' => e = .returned (.slice none 0 0) ∧ w' = w := by
 rcases h with h | h
 ·go_enter Tryz.func77, Tryz.ntmps77
  go_wp2
  go_ret
  exact ⟨rfl, rfl⟩
 ·by_cases h1 : n < 1
  ·go_enter Tryz.func77, Tryz.ntmps77
   go_wp2
   go_ret
   exact ⟨rfl, rfl⟩
  ·rcases h with h | h
   ·go_enter Tryz.func77, Tryz.ntmps77
    go_wp2
    go_ret
    exact ⟨rfl, rfl⟩
   ·by_cases h2 : 8 < n
    ·go_enter Tryz.func77, Tryz.ntmps77
     go_wp2
     go_ret
     exact ⟨rfl, rfl⟩
    ·go_enter Tryz.func77, Tryz.ntmps77
     go_wp2
     go_ret
     exact ⟨rfl, rfl⟩
theorem implPut_any (v n : Int) (w : World) (hi0 : IsI v) (hi1 : IsI n) :
  Calls Tryz.prog 77 #[.int .i64 v, .int .i64 n] w fun e w' => ∃ a c, e = .returned (.slice a (numB v n).length c) ∧ (∀ b, (Value.slice a (numB v n).length c).ownBlock = some b → w.heap.size ≤ b) ∧
   Own 0 5 .u8 w' (.slice a (numB v n).length c) (numB v n) ∧ Same w w' := by
 by_cases h : n < 1 ∨ 8 < n ∨ v < 0
 ·refine (implPut_no v n w h).mono ?_
  rintro e w' ⟨rfl, rfl⟩
  have e : numB v n = [] := by unfold numB; rw [if_pos (by omega)]
  rw [e]
  exact ⟨none, 0, rfl, fun b hb => by simp [Value.ownBlock] at hb, Own.nil _ _ _ _, Kept.refl _ _⟩
 ·exact implPut_yes v n w hi0 (by omega) (by omega) (by omega)
end Go.Proofs.YtkdohacgkjpopaaGreat
