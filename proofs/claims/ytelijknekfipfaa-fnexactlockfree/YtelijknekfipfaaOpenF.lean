import Derived.Test.YtelijknekfipfaaG00
namespace Go.Proofs.Ytelijknekfipfaa
set_option maxRecDepth 100000
set_option maxHeartbeats 2000000
set_option linter.unusedVariables false
set_option linter.unusedSimpArgs false
open Go.ChangeShapes Go.WideShapes Go.ChangeAt Go.RowKit
theorem flatF_length (f : Nat → List Int) (m : Nat) : ∀ n, (∀ i, i < n → (f i).length = m) → ((List.range n).flatMap f).length = n * m
 | 0, _ => by simp
 | n + 1, h => by
  rw [List.range_succ, List.flatMap_append, List.length_append, flatF_length f m n (fun i hi => h i (by omega))]
  simp [h n (by omega), Nat.succ_mul]
theorem flatF_at (f : Nat → List Int) (m : Nat) : ∀ n, 0 < m → (∀ i, i < n → (f i).length = m) → ∀ i, i < n * m → ((List.range n).flatMap f).getD i 0 = (f (i / m)).getD (i % m) 0
 | 0, _, _, i, hi => by simp at hi
 | n + 1, hm, h, i, hi => by
  rw [List.range_succ, List.flatMap_append]
  have hl := flatF_length f m n (fun i hi => h i (by omega))
  by_cases h1 : i < n * m
  ·have h2 := flatF_at f m n hm (fun i hi => h i (by omega)) i h1
   rw [← h2]
   simp only [List.getD]
   rw [List.getElem?_append_left (by omega)]
  ·have h3 : i < n * m + m := by rw [Nat.succ_mul] at hi; exact hi
   have hd : i / m = n := by
    rw [Nat.div_eq_iff hm]
    constructor <;> omega
   have hmod : i % m = i - n * m := by
    have := Nat.div_add_mod i m
    rw [hd, Nat.mul_comm] at this
    omega
   rw [hd, hmod]
   simp only [List.getD]
   rw [List.getElem?_append_right (by omega), hl]
   simp
section
variable {H : Type} {enc : TypeId × Value → H} {w : World} {base : Nat} {spare : Nat → Bool} {held : Bool}
theorem read_flatB {t e : TypeId} {m : Nat} (hm0 : 0 < m) (ht : Try.prog.underlying t = some (.slice e)) (hc : Try.prog.cellsOf e = m)
  (he : ∀ (n : Nat) (cs : List Value) (x : DataW H × List MemPlace), DataW.trod enc Try.prog w base spare held n e cs = some x → ∃ ns : List Int, cs = vals .i64 ns ∧ ns.length = m ∧ ∀ z ∈ ns, IsI z)
  {fuel : Nat} {v : Value} {x : DataW H × List MemPlace} (h : DataW.trod enc Try.prog w base spare held fuel t [v] = some x) : ∃ y : FR, v = y.v ∧ RdF m w y ∧ ∀ z ∈ y.bs, IsI z := by
 rcases Deep.open_slice ht h with ⟨hcs, _⟩ | ⟨a, len, cap, m', n, D, Pl, hcs, hb, hl, hm, hmm, _, hx⟩
 ·simp at hcs
  subst hcs
  exact ⟨⟨0, none, 0, 0, []⟩, rfl, ⟨Nat.zero_le _, by simp, .inl rfl⟩, fun z hz => by simp at hz⟩
 ·simp at hcs
  subst hcs
  have hlm : len ≤ m' := by rw [hmm]; split <;> omega
  have each : ∀ i, i < len → ∃ ns : List Int, (ns.length = m ∧ ∀ z ∈ ns, IsI z) ∧ ∀ j, j < m → w.cell? ((a.add (i * m)).add j) = some (.int .i64 (ns.getD j 0)) := fun i hi => by
   obtain ⟨cs', h1, h2⟩ := hx i (by omega)
   rw [hc] at h1
   obtain ⟨_, hlen, hcell⟩ := World.cells?_some h1
   obtain ⟨ns, rfl, hns, hbb⟩ := he _ _ _ h2
   refine ⟨ns, ⟨hns, hbb⟩, fun j hj => ?_⟩
   have := hcell j (by omega)
   rw [this, vals_at _ _ _ (by omega)]
  obtain ⟨f, hf⟩ := Deep.choose_lt each
  by_cases h0 : len = 0
  ·subst h0
   exact ⟨⟨0, some a, 0, cap, []⟩, rfl, ⟨Nat.zero_le _, by simp, .inl rfl⟩, fun z hz => by simp at hz⟩
  ·have ha : ∃ b off, a = ⟨b, off, none⟩ := by
    have h1 := (hf 0 (by omega)).2 0 hm0
    rw [Nat.zero_mul] at h1
    have e0 : a.add 0 = a := by cases a; simp [Addr.add]
    rw [e0] at h1
    exact addr_form (a := a) h1
   obtain ⟨b, off, rfl⟩ := ha
   refine ⟨⟨0, some ⟨b, off, none⟩, len, cap, (List.range len).flatMap f⟩, rfl, ⟨by dsimp only; omega, ?_, .inr ⟨b, off, rfl, hl, fun i hi => ?_⟩⟩, fun z hz => ?_⟩
   ·dsimp only
    exact flatF_length f m len (fun i hi => (hf i hi).1.1)
   ·dsimp only at hi ⊢
    have hdiv : i / m < len := (Nat.div_lt_iff_lt_mul hm0).2 hi
    have h1 := (hf (i / m) hdiv).2 (i % m) (Nat.mod_lt _ hm0)
    rw [add_none, add_none] at h1
    rw [flatF_at f m len hm0 (fun i hi => (hf i hi).1.1) i hi]
    have e : off + i = off + i / m * m + i % m := by
     have := Nat.div_add_mod i m
     rw [Nat.mul_comm] at this
     omega
    rw [e]
    exact h1
   ·dsimp only at hz
    obtain ⟨i, hi, hz⟩ := List.mem_flatMap.1 hz
    exact (hf i (List.mem_range.1 hi)).1.2 z hz
theorem ints_cellsB {e : TypeId} {fs : Array Field} (m : Nat) (hs : Try.prog.underlying e = some (.struct fs)) (hsz : fs.size = m) (hc : Try.prog.cellsOf e = m)
  (hf : ∀ (i : Nat) (f : Field), fs[i]? = some f → f.type = 2 ∧ f.offset = i) (n : Nat) (cs : List Value) (x : DataW H × List MemPlace) (h : DataW.trod enc Try.prog w base spare held n e cs = some x) :
  ∃ ns : List Int, cs = vals .i64 ns ∧ ns.length = m ∧ ∀ z ∈ ns, IsI z := by
 obtain ⟨xs, k, _, _, hl, hxl, hg⟩ := DataW.trod_struct hs h
 have each : ∀ i, i < m → ∃ z : Int, IsI z ∧ cs[i]? = some (.int .i64 z) := fun i hi => by
  have hi' : i < fs.size := by omega
  obtain ⟨h1, h2⟩ := hf i fs[i] (by simp [hi'])
  have h3 := hg i fs[i] (by simp [hi'])
  rw [h1, h2, show Try.prog.cellsOf 2 = 1 from by kernel_rfl] at h3
  have h4 : xs[i]? = some xs[i] := by simp [hxl, hi']
  rw [h4] at h3
  obtain ⟨z, hz, _, hwf⟩ := DataW.trod_int Try.underlying2 h3
  refine ⟨z, int_bounds hwf, ?_⟩
  have h5 := congrArg (fun l => l[0]?) hz
  simpa [List.getElem?_take, List.getElem?_drop] using h5
 obtain ⟨g, hg2⟩ := Deep.choose_lt each
 refine ⟨(List.range m).map g, ?_, by simp, fun z hz => by obtain ⟨i, hi, rfl⟩ := List.mem_map.1 hz; exact (hg2 i (List.mem_range.1 hi)).1⟩
 apply List.ext_getElem?
 intro i
 by_cases hi : i < m
 ·rw [(hg2 i hi).2]
  simp [vals, hi]
 ·rw [List.getElem?_eq_none (by rw [hl, hc]; omega), List.getElem?_eq_none (by simp [vals]; omega)]
theorem open_lockS {r : Reach} {b0 : Nat} {v : Value} {d : DataW H} {p : List MemPlace} (hv : Value.okWide Try.prog w r b0 33 v) (h : DataW.Trod enc Try.prog w base spare held 33 v d p) : ∃ x : FR, v = x.v ∧ RdF 3 w x ∧ ∀ z ∈ x.bs, IsI z := by
 obtain ⟨a, l, c, rfl⟩ := okWide_slice Try.underlying33 hv
 obtain ⟨n, hm⟩ := h
 exact read_flatB (m := 3) (by decide) Try.underlying33 (by kernel_rfl) (ints_cellsB 3 Try.underlying59 rfl (by kernel_rfl) (fun i f hi => by
  match i, hi with
  | 0, hi => simp at hi; subst hi; exact ⟨rfl, rfl⟩
  | 1, hi => simp at hi; subst hi; exact ⟨rfl, rfl⟩
  | 2, hi => simp at hi; subst hi; exact ⟨rfl, rfl⟩
  | j + 3, hi => simp at hi)) hm
end
end Go.Proofs.Ytelijknekfipfaa
