/-
  One more triple behind own ones.
-/
import Derived.Test.YtagcefbnhpkdiabTri
import Derived.Test.YtagcefbnhpkdiabBlk
import Derived.Test.YtagcefbnhpkdiabTyLockS
import Derived.Deep.AppendLies
namespace Go.Proofs.Ytagcefbnhpkdiab
open Go.RowKit
set_option linter.unusedVariables false
set_option linter.unusedSimpArgs false
theorem ownF_none (e : TypeId) (w : World) : OwnF 3 e (w.alloc (.cells #[] e)) w.heap.size 0 0 [] :=
  ⟨rfl, .inr ⟨w.heap.size, 0, #[], rfl, Nat.zero_le _, Blk.new w #[] e, Nat.le_refl _, Nat.zero_le _, rfl, rfl⟩⟩
theorem OwnF.of_app3 {e : TypeId} {w : World} {g n c : Nat} {bs : List Int} {x y z : Int} (h : w.ownsRow 0 e 3 (.slice (some ⟨g, 0, none⟩) n c) n (vals .i64 bs ++ [.int .i64 x, .int .i64 y, .int .i64 z])) : OwnF 3 e w g n c (bs ++ [x, y, z]) := by
  unfold OwnF
  have e : vals .i64 (bs ++ [x, y, z]) = vals .i64 bs ++ [.int .i64 x, .int .i64 y, .int .i64 z] := by simp [vals]
  rw [e]
  exact h
theorem OwnF.kept {R : Nat → Prop} {m : Nat} {e : TypeId} {w w' : World} {g n c : Nat} {bs : List Int} (h : OwnF m e w g n c bs) (hk : Kept R w w') (hr : ¬ R g) : OwnF m e w' g n c bs :=
  hk.owns h (fun b hb => by have hb' : g = b := by simpa [Value.ownBlock] using hb
                            rw [← hb']; exact hr)
theorem OwnF.lt {m : Nat} {e : TypeId} {w : World} {g n c : Nat} {bs : List Int} (h : OwnF m e w g n c bs) : g < w.heap.size := h.out.lt g ((FootL_one _ _).2 rfl)
theorem FootL_fr {e : TypeId} {g n c m : Nat} {bs : List Int} {b : Nat} (h : FootL (FR.rows m ⟨e, some ⟨g, 0, none⟩, n, c, bs⟩) b) : g = b := by
  have h := (FootL_one _ _).1 h
  simpa [FR.v, Value.ownBlock] using h
theorem OwnF.len {m : Nat} {e : TypeId} {w : World} {g n c : Nat} {bs : List Int} (h : OwnF m e w g n c bs) : bs.length = n * m := by
  have := h.1
  rwa [vals_length] at this
/-- The keeping of what lies below, behind an append. -/
theorem Same.app {w wr w3 : World} {g n c : Nat} {o : Obj} (hk : Same w wr) (hg : (wr.alloc o).grownBy w3 (Value.slice (some ⟨g, 0, none⟩) n c).ownBlock) (hw : w.heap.size ≤ g) : Same w w3 :=
  (hk.alloc o).grown hg (fun i e => .inl (by have : g = i := by simpa [Value.ownBlock] using e
                                             omega))
theorem not_at {g b n c : Nat} (h : g ≠ b) : ¬ (Value.slice (some ⟨g, 0, none⟩) n c).ownBlock = some b := fun e => h (by simpa [Value.ownBlock] using e)
theorem FR.own_nil {m : Nat} {e : TypeId} (w : World) : OwnL w (FR.rows m ⟨e, none, 0, 0, []⟩) :=
  ⟨fun r hr => by rw [List.mem_singleton.1 hr]; exact ⟨by simp [vals], .inl ⟨rfl, rfl⟩⟩, List.pairwise_singleton _ _⟩
theorem flat3_snoc (ls : List T3) (x y z : Int) : flat3 (ls ++ [(x, y, z)]) = flat3 ls ++ [x, y, z] := by rw [flat3_append]; rfl
end Go.Proofs.Ytagcefbnhpkdiab
