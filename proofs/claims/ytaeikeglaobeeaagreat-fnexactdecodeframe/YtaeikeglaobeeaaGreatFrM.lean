import Derived.Test.YtaeikeglaobeeaaGreatTyFrameResult
import Derived.Test.YtaeikeglaobeeaaGreatFrD
import Derived.Test.YtaeikeglaobeeaaGreatG25
import Derived.Test.YtaeikeglaobeeaaGreatG01
import Derived.Deep.MidRow
namespace Go.Proofs.YtaeikeglaobeeaaGreat
set_option maxRecDepth 100000
set_option maxHeartbeats 8000000
open Go.RowKit
set_option linter.unusedVariables false
set_option linter.unusedSimpArgs false
def cZ (c : Int) : List Value := [.int .i64 c, .int .i64 0, .int .i64 0, .int .i64 0, .int .i64 0, .int .i64 0, .int .i64 0, .int .i64 0, .bool false, .slice none 0 0, .bool false, .slice none 0 0, .int .i64 0, .int .i64 0, .slice none 0 0, .slice none 0 0, .slice none 0 0]
/-- a region that builds a struct and lays it into its box -/
theorem wp_bs {P : Program} {id : Nat} {o1 o2 : Oper} {Q : Exit → Act → World → Prop} {a : Act} {w : World} (d : Nat) (ty : TypeId) (parts : Array (Nat × Operand)) (x : Operand) (Z : Nat) (cells : Array Value)
    (h1 : o1.op = .build ty parts) (g1 : o1.guard = none) (d1 : o1.dst = some d) (h2 : o2.op = .store ty x (.tmp d)) (g2 : o2.guard = none) (d2 : o2.dst = none)
    (hb : ∀ wx, (execOp a.eval o1).run P wx = .ok (.value (.agg cells)) wx) (hx : (a.put (some d) (.agg cells)).eval x = .pointer (some ⟨Z, 0, none⟩)) (hy : (a.put (some d) (.agg cells)).eval (.tmp d) = .agg cells)
    (ht : w.there Z 0 cells.size) (hi : (P.info? ty).map (·.size) = some cells.size) (hc : cells.all (·.oneCell') = true)
    (h : Q .normal (a.put (some d) (.agg cells)) (w.setCells Z 0 cells.toList)) : (Code.region id #[o1, o2] false).wp P Q a w := by
  refine wp_region_lit (l := [o1, o2]) ?_
  refine wpList_plain g1 (fun K hK => ?_)
  unfold Oper.wp
  rw [hb]
  refine hK _ _ ?_
  rw [d1]
  refine wpList_store_mid g2 ty x (.tmp d) h2 Z 0 cells hx hy ht hi hc ?_
  rw [d2]
  exact h
theorem infoFr : (Tryz.prog.info? 39).map (·.size) = some 17 := by kernel_rfl
/-- what a function with one result in a box tells -/
theorem endZ {fn : Func} {p : Tmp} {ty : TypeId} {tmps : Array Value} {P : Program} {w : World} {Z : Nat} {cs : List Value} {d : TypeDesc} (h : fn.results = #[.cell p ty]) (hp : tmps.getD p undef = .pointer (some ⟨Z, 0, none⟩)) (hc : w.rangeAt Z 0 cs)
    (hu : P.underlying ty = some d) (hd : d.isRow = true) (hi : (P.info? ty).map (·.size) = some cs.length) : (results fn tmps).run P w = .ok (.agg cs.toArray) w := by
  rw [Array.getD_eq_getD_getElem?] at hp
  simp only [results, h]
  simp [Sem.run_bind, Result.andThen, hp, asAddr, run_loadVar_mid w Z 0 ty cs d hc hu hd hi]
theorem blk_put {w : World} {Z : Nat} {e : TypeId} {xs : List Value} (h : Blk w Z e xs) (vs : List Value) (hl : vs.length = xs.length) : Blk (w.setCells Z 0 vs) Z e vs := by
  have h1 := h.setCells vs 0 (by omega)
  rwa [lay_all _ _ (by omega)] at h1
theorem Blk.all17 {w : World} {B : Nat} {e : TypeId} {v0 v1 v2 v3 v4 v5 v6 v7 v8 v9 v10 v11 v12 v13 v14 v15 v16 : Value} (h : Blk w B e [v0, v1, v2, v3, v4, v5, v6, v7, v8, v9, v10, v11, v12, v13, v14, v15, v16]) : w.cell? ⟨B, 0, none⟩ = some v0 ∧ w.cell? ⟨B, 1, none⟩ = some v1 ∧ w.cell? ⟨B, 2, none⟩ = some v2 ∧ w.cell? ⟨B, 3, none⟩ = some v3 ∧ w.cell? ⟨B, 4, none⟩ = some v4 ∧ w.cell? ⟨B, 5, none⟩ = some v5 ∧ w.cell? ⟨B, 6, none⟩ = some v6 ∧ w.cell? ⟨B, 7, none⟩ = some v7 ∧ w.cell? ⟨B, 8, none⟩ = some v8 ∧ w.cell? ⟨B, 9, none⟩ = some v9 ∧ w.cell? ⟨B, 10, none⟩ = some v10 ∧ w.cell? ⟨B, 11, none⟩ = some v11 ∧ w.cell? ⟨B, 12, none⟩ = some v12 ∧ w.cell? ⟨B, 13, none⟩ = some v13 ∧ w.cell? ⟨B, 14, none⟩ = some v14 ∧ w.cell? ⟨B, 15, none⟩ = some v15 ∧ w.cell? ⟨B, 16, none⟩ = some v16 := ⟨h.cell 0, h.cell 1, h.cell 2, h.cell 3, h.cell 4, h.cell 5, h.cell 6, h.cell 7, h.cell 8, h.cell 9, h.cell 10, h.cell 11, h.cell 12, h.cell 13, h.cell 14, h.cell 15, h.cell 16⟩
theorem set17 {w a : World} {Z : Nat} (h : Same w a) (hz : w.heap.size ≤ Z) (v0 v1 v2 v3 v4 v5 v6 v7 v8 v9 v10 v11 v12 v13 v14 v15 v16 : Value) : Same w (((((((((((((((((a.setCell ⟨Z, 0, none⟩ v0).setCell ⟨Z, 1, none⟩ v1).setCell ⟨Z, 2, none⟩ v2).setCell ⟨Z, 3, none⟩ v3).setCell ⟨Z, 4, none⟩ v4).setCell ⟨Z, 5, none⟩ v5).setCell ⟨Z, 6, none⟩ v6).setCell ⟨Z, 7, none⟩ v7).setCell ⟨Z, 8, none⟩ v8).setCell ⟨Z, 9, none⟩ v9).setCell ⟨Z, 10, none⟩ v10).setCell ⟨Z, 11, none⟩ v11).setCell ⟨Z, 12, none⟩ v12).setCell ⟨Z, 13, none⟩ v13).setCell ⟨Z, 14, none⟩ v14).setCell ⟨Z, 15, none⟩ v15).setCell ⟨Z, 16, none⟩ v16) := (((((((((((((((((h.setCell (p := ⟨Z, 0, none⟩) (.inl hz) v0).setCell (p := ⟨Z, 1, none⟩) (.inl hz) v1).setCell (p := ⟨Z, 2, none⟩) (.inl hz) v2).setCell (p := ⟨Z, 3, none⟩) (.inl hz) v3).setCell (p := ⟨Z, 4, none⟩) (.inl hz) v4).setCell (p := ⟨Z, 5, none⟩) (.inl hz) v5).setCell (p := ⟨Z, 6, none⟩) (.inl hz) v6).setCell (p := ⟨Z, 7, none⟩) (.inl hz) v7).setCell (p := ⟨Z, 8, none⟩) (.inl hz) v8).setCell (p := ⟨Z, 9, none⟩) (.inl hz) v9).setCell (p := ⟨Z, 10, none⟩) (.inl hz) v10).setCell (p := ⟨Z, 11, none⟩) (.inl hz) v11).setCell (p := ⟨Z, 12, none⟩) (.inl hz) v12).setCell (p := ⟨Z, 13, none⟩) (.inl hz) v13).setCell (p := ⟨Z, 14, none⟩) (.inl hz) v14).setCell (p := ⟨Z, 15, none⟩) (.inl hz) v15).setCell (p := ⟨Z, 16, none⟩) (.inl hz) v16)
theorem kept17 (a : World) (Z : Nat) (v0 v1 v2 v3 v4 v5 v6 v7 v8 v9 v10 v11 v12 v13 v14 v15 v16 : Value) : Kept (fun b => b = Z) a (((((((((((((((((a.setCell ⟨Z, 0, none⟩ v0).setCell ⟨Z, 1, none⟩ v1).setCell ⟨Z, 2, none⟩ v2).setCell ⟨Z, 3, none⟩ v3).setCell ⟨Z, 4, none⟩ v4).setCell ⟨Z, 5, none⟩ v5).setCell ⟨Z, 6, none⟩ v6).setCell ⟨Z, 7, none⟩ v7).setCell ⟨Z, 8, none⟩ v8).setCell ⟨Z, 9, none⟩ v9).setCell ⟨Z, 10, none⟩ v10).setCell ⟨Z, 11, none⟩ v11).setCell ⟨Z, 12, none⟩ v12).setCell ⟨Z, 13, none⟩ v13).setCell ⟨Z, 14, none⟩ v14).setCell ⟨Z, 15, none⟩ v15).setCell ⟨Z, 16, none⟩ v16) := ((((((((((((((((((Kept.refl (fun b => b = Z) a).setCell (p := ⟨Z, 0, none⟩) (.inr rfl) v0).setCell (p := ⟨Z, 1, none⟩) (.inr rfl) v1).setCell (p := ⟨Z, 2, none⟩) (.inr rfl) v2).setCell (p := ⟨Z, 3, none⟩) (.inr rfl) v3).setCell (p := ⟨Z, 4, none⟩) (.inr rfl) v4).setCell (p := ⟨Z, 5, none⟩) (.inr rfl) v5).setCell (p := ⟨Z, 6, none⟩) (.inr rfl) v6).setCell (p := ⟨Z, 7, none⟩) (.inr rfl) v7).setCell (p := ⟨Z, 8, none⟩) (.inr rfl) v8).setCell (p := ⟨Z, 9, none⟩) (.inr rfl) v9).setCell (p := ⟨Z, 10, none⟩) (.inr rfl) v10).setCell (p := ⟨Z, 11, none⟩) (.inr rfl) v11).setCell (p := ⟨Z, 12, none⟩) (.inr rfl) v12).setCell (p := ⟨Z, 13, none⟩) (.inr rfl) v13).setCell (p := ⟨Z, 14, none⟩) (.inr rfl) v14).setCell (p := ⟨Z, 15, none⟩) (.inr rfl) v15).setCell (p := ⟨Z, 16, none⟩) (.inr rfl) v16)
theorem Blk.all15 {w : World} {B : Nat} {e : TypeId} {v0 v1 v2 v3 v4 v5 v6 v7 v8 v9 v10 v11 v12 v13 v14 : Value} (h : Blk w B e [v0, v1, v2, v3, v4, v5, v6, v7, v8, v9, v10, v11, v12, v13, v14]) : w.cell? ⟨B, 0, none⟩ = some v0 ∧ w.cell? ⟨B, 1, none⟩ = some v1 ∧ w.cell? ⟨B, 2, none⟩ = some v2 ∧ w.cell? ⟨B, 3, none⟩ = some v3 ∧ w.cell? ⟨B, 4, none⟩ = some v4 ∧ w.cell? ⟨B, 5, none⟩ = some v5 ∧ w.cell? ⟨B, 6, none⟩ = some v6 ∧ w.cell? ⟨B, 7, none⟩ = some v7 ∧ w.cell? ⟨B, 8, none⟩ = some v8 ∧ w.cell? ⟨B, 9, none⟩ = some v9 ∧ w.cell? ⟨B, 10, none⟩ = some v10 ∧ w.cell? ⟨B, 11, none⟩ = some v11 ∧ w.cell? ⟨B, 12, none⟩ = some v12 ∧ w.cell? ⟨B, 13, none⟩ = some v13 ∧ w.cell? ⟨B, 14, none⟩ = some v14 := ⟨h.cell 0, h.cell 1, h.cell 2, h.cell 3, h.cell 4, h.cell 5, h.cell 6, h.cell 7, h.cell 8, h.cell 9, h.cell 10, h.cell 11, h.cell 12, h.cell 13, h.cell 14⟩
def nzB : BS := ⟨5, none, 0, []⟩
def nzF (e : TypeId) : FR := ⟨e, none, 0, 0, []⟩
def recZ : StLogRecord := ⟨0, 0, 0, 0, 0, ⟨false, nzB⟩, ⟨false, nzB⟩, 0, 0, nzF 50, nzF 52, nzB⟩
theorem foot_recZ {b : Nat} (h : FootL recZ.rows b) : False := by
  have fB : ∀ b, ¬ FootL nzB.rows b := fun b h => by have h := (footL_ints _ _ _ _ _).1 h; simp [nzB, BS.v, Value.ownBlock] at h
  have fF : ∀ (m : Nat) (e : TypeId) (b : Nat), ¬ FootL ((nzF e).rows m) b := fun m e b h => by have h := (FootL_one _ _).1 h; simp [nzF, FR.v, Value.ownBlock] at h
  rcases (FootL_append _ _ _).1 h with h | h
  · exact fB _ h
  rcases (FootL_append _ _ _).1 h with h | h
  · exact fB _ h
  rcases (FootL_append _ _ _).1 h with h | h
  · exact fF _ _ _ h
  rcases (FootL_append _ _ _).1 h with h | h
  · exact fF _ _ _ h
  · exact fB _ h
theorem own_recZ (w : World) : OwnL w recZ.rows :=
  have hB : OwnL w nzB.rows := OwnL.one (Own.nil 0 _ .u8 _)
  have fB : ∀ b, ¬ FootL nzB.rows b := fun b h => by have h := (footL_ints _ _ _ _ _).1 h; simp [nzB, BS.v, Value.ownBlock] at h
  have fF : ∀ (m : Nat) (e : TypeId) (b : Nat), ¬ FootL ((nzF e).rows m) b := fun m e b h => by have h := (FootL_one _ _).1 h; simp [nzF, FR.v, Value.ownBlock] at h
  hB.append (hB.append ((own_nilR 4 _ w).append ((own_nilR 2 _ w).append hB (fun b h => (fF _ _ _ h).elim)) (fun b h => (fF _ _ _ h).elim)) (fun b h => (fB _ h).elim)) (fun b h => (fB _ h).elim)
theorem IsB.tk {xs : List Int} (n : Nat) (h : IsB xs) : IsB (xs.take n) := fun x hx => h x (List.mem_of_mem_take hx)
theorem take_len {xs : List Int} {a m : Nat} (h : a + m ≤ xs.length) : ((xs.drop a).take m).length = m := by simp; omega
end Go.Proofs.YtaeikeglaobeeaaGreat
