/-
  ROWS OF STRUCTS OF INTEGERS, their integers one behind the other.
-/
import Derived.Test.YtednajibnjofmaaOwnRows
import Derived.Test.YtednajibnjofmaaCopyB
namespace Go.Proofs.Ytednajibnjofmaa
open Go.RowKit
set_option linter.unusedVariables false
set_option linter.unusedSimpArgs false

/-- A slice of structs of m integers each, wherever it lies, that reads as these integers. -/
def RdF (m : Nat) (w : World) (x : FR) : Prop :=
  x.n ≤ maxLen ∧ x.bs.length = x.n * m ∧ (x.n = 0 ∨ ∃ b off, x.a = some ⟨b, off, none⟩ ∧ x.n ≤ x.c ∧ ∀ i, i < x.n * m → w.cell? ⟨b, off + i, none⟩ = some (.int .i64 (x.bs.getD i 0)))
theorem RdF.kept {R : Nat → Prop} {m : Nat} {w w' : World} {x : FR} (h : RdF m w x) (hk : Kept R w w') (hr : ∀ b, x.v.ownBlock = some b → ¬ R b) : RdF m w' x := by
  refine ⟨h.1, h.2.1, ?_⟩
  rcases h.2.2 with h | ⟨b, off, he, hle, hc⟩
  · exact .inl h
  · exact .inr ⟨b, off, he, hle, fun i hi => hk.cellOf (hc i hi) (hr b (by simp [FR.v, he, Value.ownBlock]))⟩
theorem RdF.same {m : Nat} {w w' : World} {x : FR} (h : RdF m w x) (hk : Same w w') : RdF m w' x := h.kept hk (fun _ _ => id)

/-- The slice's own memory, laid out. -/
def OwnF (m : Nat) (e : TypeId) (w : World) (g n c : Nat) (bs : List Int) : Prop := w.ownsRow 0 e m (.slice (some ⟨g, 0, none⟩) n c) n (vals .i64 bs)
theorem FR.own_one {m : Nat} {w : World} {x : FR} (h : OwnL w (x.rows m)) : w.ownsRow 0 x.e m x.v x.n (vals .i64 x.bs) := h.own _ (List.mem_singleton.2 rfl)
theorem FR.own_len {m : Nat} {w : World} {x : FR} (h : OwnL w (x.rows m)) : x.bs.length = x.n * m := by
  have := (FR.own_one h).1
  rwa [vals_length] at this
theorem FR.own_form {m : Nat} {w : World} {x : FR} (h : OwnL w (x.rows m)) : (x.n = 0 ∧ x.a = none ∧ x.c = 0) ∨ ∃ g, x.a = some ⟨g, 0, none⟩ ∧ x.n ≤ x.c ∧ x.c ≤ maxLen ∧ OwnF m x.e w g x.n x.c x.bs := by
  have h1 := FR.own_one h
  rcases h1.2 with ⟨h2, h3⟩ | ⟨g, cap, cur, hv, hb, hgg, hc, hm, hs, ht⟩
  · simp only [FR.v] at h2
    injection h2 with a1 a2 a3
    exact .inl ⟨a2, a1, a3⟩
  · have hv' := hv
    simp only [FR.v] at hv'
    injection hv' with a1 a2 a3
    refine .inr ⟨g, a1, by omega, by omega, ?_⟩
    unfold OwnF
    rw [a3, ← hv]
    exact h1
theorem OwnF.cell {m : Nat} {e : TypeId} {w : World} {g n c : Nat} {bs : List Int} (h : OwnF m e w g n c bs) (j : Nat) (hj : j < n * m) : w.cell? ⟨g, j, none⟩ = some (.int .i64 (bs.getD j 0)) := by
  have h1 := h.1
  rw [vals_length] at h1
  rw [World.ownsRow.cellAt h j hj, vals_at .i64 bs j (by omega)]
theorem OwnF.frozen {m : Nat} {e : TypeId} {w : World} {g n c : Nat} {bs : List Int} (h : OwnF m e w g n c bs) (j : Nat) : w.frozen? ⟨g, j, none⟩ = false := World.ownsRow.frozenAt h j
theorem OwnF.stored {m : Nat} {e : TypeId} {w : World} {g n c : Nat} {bs : List Int} (h : OwnF m e w g n c bs) (j : Nat) (x : Int) : OwnF m e (w.setCell ⟨g, j, none⟩ (.int .i64 x)) g n c (bs.set j x) := by
  have := (World.ownsRow.stored h j (.int .i64 x)).1
  unfold OwnF
  have e : vals .i64 (bs.set j x) = (vals .i64 bs).set j (.int .i64 x) := by simp [vals]
  rw [e]
  exact this
theorem OwnF.same {m : Nat} {e : TypeId} {w w' : World} {g n c : Nat} {bs : List Int} (h : OwnF m e w g n c bs) (hk : Same w w') : OwnF m e w' g n c bs := hk.owns h (fun _ _ => id)
theorem OwnF.out {m : Nat} {e : TypeId} {w : World} {g n c : Nat} {bs : List Int} (h : OwnF m e w g n c bs) : OwnL w (FR.rows m ⟨e, some ⟨g, 0, none⟩, n, c, bs⟩) :=
  ⟨fun r hr => by rw [List.mem_singleton.1 hr]; exact h, List.pairwise_singleton _ _⟩
theorem FR.own_rd {m : Nat} {w : World} {x : FR} (h : OwnL w (x.rows m)) : RdF m w x := by
  have hl := FR.own_len h
  rcases FR.own_form h with ⟨h1, h2, h3⟩ | ⟨g, h1, h2, h3, h4⟩
  · exact ⟨by rw [h1]; exact Nat.zero_le _, hl, .inl h1⟩
  · exact ⟨by omega, hl, .inr ⟨g, 0, h1, h2, fun i hi => by rw [Nat.zero_add]; exact h4.cell i hi⟩⟩
theorem ownF_made {m : Nat} {e : TypeId} {w : World} {g n : Nat} {z : Value} (hm : 0 < m) (hz : z.cells = (List.replicate m (Value.int .i64 0)).toArray) (h : w.ownsRow 0 e m (.slice (some ⟨g, 0, none⟩) n n) n (madeCells z.cells (n * m)).toList) : OwnF m e w g n n (List.replicate (n * m) 0) := by
  have e : (madeCells z.cells (n * m)).toList = vals .i64 (List.replicate (n * m) 0) := by
    rw [hz]
    apply List.ext_getElem?
    intro j
    by_cases hj : j < n * m
    · have h2 : j % m < m := Nat.mod_lt _ hm
      simp [madeCells, vals, hj, h2]
    · rw [List.getElem?_eq_none (by simp [madeCells]; omega), List.getElem?_eq_none (by simp [vals]; omega)]
  rw [e] at h
  exact h
/-- What mark has done up to the cell j. -/
def partI (k : Int) (bs : List Int) (j : Nat) : List Int := marksI k j ++ bs.drop j
theorem partI_length (k : Int) (bs : List Int) (j : Nat) (h : j ≤ bs.length) : (partI k bs j).length = bs.length := by simp [partI, marksI_length]; omega
theorem partI_zero (k : Int) (bs : List Int) : partI k bs 0 = bs := by simp [partI, marksI]
theorem partI_all (k : Int) (bs : List Int) : partI k bs bs.length = marksI k bs.length := by simp [partI]
theorem partI_step (k : Int) (bs : List Int) (j : Nat) (h : j < bs.length) : (partI k bs j).set j (k + j) = partI k bs (j + 1) := by
  unfold partI
  rw [List.set_append_right (h := by simp [marksI_length]), marksI_length, Nat.sub_self, List.drop_eq_getElem_cons h, List.set_cons_zero]
  have e : marksI k (j + 1) = marksI k j ++ [k + j] := by simp [marksI, List.range_succ]
  rw [e, List.append_assoc]
  rfl
theorem marksI_at (k : Int) (n j : Nat) (h : j < n) : (marksI k n).getD j 0 = k + j := by simp [marksI, h, List.getD]
end Go.Proofs.Ytednajibnjofmaa
