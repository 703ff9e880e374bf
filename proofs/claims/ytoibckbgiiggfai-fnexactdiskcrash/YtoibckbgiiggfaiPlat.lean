/-
  ROWS OF ARRAYS: laws of my own for what a platter is made of. No function of the program in sight.
-/
import Derived.Test.YtoibckbgiiggfaiSettle
import Derived.Deep.MidRow
import Derived.Great.BuildSlice
namespace Go.Proofs.Ytoibckbgiiggfai
open Go.RowKit
set_option linter.unusedSimpArgs false

/-- The cells of pending sectors: a number and 512 bytes each. -/
def penCells : List (Int × List Int) → List Value
  | [] => []
  | p :: ds => .int .i64 p.1 :: (vals .u8 p.2 ++ penCells ds)
theorem penCells_append (ds es : List (Int × List Int)) : penCells (ds ++ es) = penCells ds ++ penCells es := by
  induction ds with
  | nil => rfl
  | cons p ds ih => simp [penCells, ih]
theorem penCells_length (ds : List (Int × List Int)) (h : ∀ p ∈ ds, p.2.length = 512) : (penCells ds).length = ds.length * 513 := by
  induction ds with
  | nil => rfl
  | cons p ds ih =>
    have h1 := ih (fun q hq => h q (List.mem_cons_of_mem _ hq))
    have h2 := h p (List.mem_cons_self ..)
    simp only [penCells, List.length_cons, List.length_append, vals_length, h1, h2]
    omega
theorem penCells_at (ds : List (Int × List Int)) (h : ∀ p ∈ ds, p.2.length = 512) (k : Nat) (hk : k < ds.length) : (penCells ds).drop (k * 513) = .int .i64 ds[k].1 :: (vals .u8 ds[k].2 ++ penCells (ds.drop (k + 1))) := by
  have e : penCells ds = penCells (ds.take k) ++ penCells (ds.drop k) := by rw [← penCells_append, List.take_append_drop]
  have hl : (penCells (ds.take k)).length = k * 513 := by
    rw [penCells_length _ (fun p hp => h p (List.mem_of_mem_take hp)), List.length_take, Nat.min_eq_left (by omega)]
  rw [e, ← hl, List.drop_left, List.drop_eq_getElem_cons hk]
  rfl

/-- A run of cells laid over a row. -/
def lay (xs : List Value) (o : Nat) (vs : List Value) : List Value := xs.take o ++ (vs ++ xs.drop (o + vs.length))
theorem lay_length (xs : List Value) (o : Nat) (vs : List Value) (h : o + vs.length ≤ xs.length) : (lay xs o vs).length = xs.length := by simp [lay]; omega
theorem lay_cons (xs : List Value) (o : Nat) (v : Value) (vs : List Value) (h : o + (vs.length + 1) ≤ xs.length) : lay (xs.set o v) (o + 1) vs = lay xs o (v :: vs) := by
  have hlt : o < xs.length := by omega
  apply List.ext_getElem?
  intro j
  unfold lay
  simp only [List.getElem?_append, List.length_take, List.length_set, List.getElem?_take, List.getElem?_drop, List.length_cons]
  by_cases h1 : j < o
  · rw [if_pos (by omega), if_pos (by omega), if_pos (by omega), if_pos h1, List.getElem?_set_ne (by omega)]
  · by_cases h2 : j = o
    · subst h2
      rw [if_pos (by omega), if_pos (by omega), if_neg (by omega), if_pos (by omega)]
      have e : j - min j xs.length = 0 := by omega
      simp [hlt, e]
    · by_cases h3 : j < o + 1 + vs.length
      · rw [if_neg (by omega), if_pos (by omega), if_neg (by omega), if_pos (by omega)]
        have e : j - min o xs.length = (j - min (o + 1) xs.length) + 1 := by omega
        rw [e, List.getElem?_cons_succ]
      · rw [if_neg (by omega), if_neg (by omega), if_neg (by omega), if_neg (by omega), List.getElem?_set_ne (by omega)]
        congr 1
        omega

theorem owns_setCells {base : Nat} {e : TypeId} {size g n cap : Nat} : ∀ (vs : List Value) (o : Nat) (w : World) (xs : List Value), w.ownsRow base e size (.slice (some ⟨g, 0, none⟩) n cap) n xs → o + vs.length ≤ xs.length →
    (w.setCells g o vs).ownsRow base e size (.slice (some ⟨g, 0, none⟩) n cap) n (lay xs o vs) ∧ w.grownBy (w.setCells g o vs) (some g)
  | [], o, w, xs, h, _ => by
    refine ⟨?_, ⟨rfl, rfl, rfl, Nat.le_refl _, fun _ _ _ => rfl⟩⟩
    have e : lay xs o [] = xs := by simp [lay]
    rw [e]
    exact h
  | v :: vs, o, w, xs, h, hl => by
    obtain ⟨h1, h2⟩ := World.ownsRow.stored h o v
    simp only [List.length_cons] at hl
    obtain ⟨h3, h4⟩ := owns_setCells vs (o + 1) _ _ h1 (by rw [List.length_set]; omega)
    rw [lay_cons _ _ _ _ hl] at h3
    refine ⟨h3, ⟨h4.os.trans h2.os, h4.tape.trans h2.tape, h4.output.trans h2.output, Nat.le_trans h2.size h4.size, fun k hk hn => ?_⟩⟩
    exact (h4.block k (Nat.lt_of_lt_of_le hk h2.size) hn).trans (h2.block k hk hn)

theorem owns_there {base : Nat} {e : TypeId} {size g n cap : Nat} {w : World} {xs : List Value} (h : w.ownsRow base e size (.slice (some ⟨g, 0, none⟩) n cap) n xs) (o m : Nat) (hm : o + m ≤ xs.length) : w.there g o m := fun j hj => by
  have hl := h.1
  refine ⟨?_, World.ownsRow.frozenAt h _⟩
  rw [World.ownsRow.cellAt h (o + j) (by omega)]
  simp
  omega
theorem owns_range {base : Nat} {e : TypeId} {size g n cap : Nat} {w : World} {xs : List Value} (h : w.ownsRow base e size (.slice (some ⟨g, 0, none⟩) n cap) n xs) (o m : Nat) (hm : o + m ≤ xs.length) : w.rangeAt g o ((xs.drop o).take m) := fun j v hv => by
  have hl := h.1
  have hj : j < m := by have := (List.getElem?_eq_some_iff.1 hv).1; simp at this; omega
  rw [World.ownsRow.cellAt h (o + j) (by omega), ← hv]
  simp [hj]

theorem lay_fill (dur : List Int) (a : Nat) (h : a + 512 ≤ dur.length) : lay (vals .u8 (fillUp dur a)) a (vals .u8 ((dur.drop a).take 512)) = vals .u8 (fillUp dur (a + 512)) := by
  have hl : ((dur.drop a).take 512).length = 512 := by rw [List.length_take, List.length_drop]; omega
  have e1 : (fillUp dur a).take a = dur.take a := by
    unfold fillUp
    rw [List.take_append, List.take_take, Nat.min_self, List.length_take, Nat.min_eq_left (by omega), Nat.sub_self, List.take_zero, List.append_nil]
  have e2 : (fillUp dur a).drop (a + 512) = List.replicate (dur.length - (a + 512)) 0 := by
    unfold fillUp
    have e3 : (dur.take a).drop (a + 512) = [] := List.drop_eq_nil_of_le (by rw [List.length_take]; omega)
    rw [List.drop_append, e3, List.nil_append, List.length_take, Nat.min_eq_left (by omega), List.drop_replicate, show dur.length - a - (a + 512 - a) = dur.length - (a + 512) from by omega]
  have e4 : dur.take (a + 512) = dur.take a ++ (dur.drop a).take 512 := List.take_add
  unfold lay vals
  rw [← List.map_take, List.length_map, hl, ← List.map_drop, e1, e2, ← List.map_append, ← List.map_append]
  unfold fillUp
  rw [e4, List.append_assoc]

section
variable {P : Program} {ops : Array Oper} {S : World → Prop} {o : Oper} {a : Act} {w : World} {K : Act → World → Prop} {Q : Exit → Act → World → Prop} {E : Prop}

/-- 'make([]T, l, c)', as one step of a region. -/
theorem step_make (hgd : o.guard = none) (x y : Operand) (t : TypeId) (hop : o.op = Op.makeSlice t x y) (base : Nat) (e : TypeId) (i : TypeInfo) (z : Value) (size : Nat) (h1 : P.underlying t = some (.slice e)) (h2 : P.info? e = some i) (h3 : i.zero = some z) (h4 : i.size = size)
    (kl kc : IntKind) (L C : Int) (l c : Nat) (hl : a.eval x = .int kl L) (hc : a.eval y = .int kc C) (hL : L = l) (hC : C = c) (hlc : l ≤ c) (b2 : i.bytes * c ≤ 281474976710656) (b3 : c ≤ maxLen) (hb : base ≤ w.heap.size)
    (h : ∀ w', w'.ownsRow base e size (.slice (some ⟨w.heap.size, 0, none⟩) l c) l ((madeCells z.cells (c * size)).toList.take (l * size)) → w.grownBy w' none → w.heap.size < w'.heap.size → K (a.put o.dst (.slice (some ⟨w.heap.size, 0, none⟩) l c)) w') :
    if Region.wanted o (yielded ops a.tmps) = true then Oper.wp P o a w K Q else E := by
  have hw : Region.wanted o (yielded ops a.tmps) = true := by simp [Region.wanted, hgd]
  rw [if_pos hw]
  subst hL hC h4
  have hb' : (i.bytes : Int) * (c : Int) ≤ 281474976710656 := by
    have : ((i.bytes * c : Nat) : Int) ≤ 281474976710656 := by omega
    rwa [Int.natCast_mul] at this
  have hrun := run_make (P := P) w t e i z h1 h2 h3 kl kc l c (by omega) (by omega) hb' (by unfold maxLen at b3; omega)
  simp only [Int.toNat_natCast] at hrun
  unfold Oper.wp
  simp [execOp, hop, hl, hc, hrun, Result.andThen]
  refine h _ ⟨?_, .inr ⟨w.heap.size, c, _, rfl, hb, heap_alloc_new w _, hlc, b3, size_madeCells _ _, rfl⟩⟩ (World.grownBy_alloc w _ none) (by simp)
  rw [List.length_take, Array.length_toList, size_madeCells]
  exact Nat.min_eq_left (Nat.mul_le_mul_right _ hlc)
end
end Go.Proofs.Ytoibckbgiiggfai
