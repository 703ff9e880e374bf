/-
  A page taken apart, in memory: four bytes, three numbers, 64 numbers of the slots, 4096 bytes. And what its encoding is.
-/
import Derived.Test.YtclmdpmelifplabSeal
namespace Go.Proofs.Ytclmdpmelifplab
open Go.RowKit
set_option linter.unusedVariables false
set_option linter.unusedSimpArgs false

def spCells (sum : List Int) (lsn num bot : Int) (sl raw : List Int) : List Value :=
  vals .u8 sum ++ (.int .i64 lsn :: .int .i64 num :: .int .i64 bot :: (vals .i64 sl ++ vals .u8 raw))
/-- The page p in block B. -/
structure SP (w : World) (B : Nat) (sum : List Int) (lsn num bot : Int) (sl raw : List Int) : Prop where
  blk : Blk w B 71 (spCells sum lsn num bot sl raw)
  l1 : sum.length = 4
  l2 : sl.length = 64
  l3 : raw.length = 4096
section
variable {w w' : World} {B : Nat} {sum : List Int} {lsn num bot : Int} {sl raw : List Int}
theorem SP.kept {R : Nat → Prop} (h : SP w B sum lsn num bot sl raw) (hk : Kept R w w') (hr : ¬ R B) : SP w' B sum lsn num bot sl raw := ⟨h.blk.kept hk hr, h.l1, h.l2, h.l3⟩
theorem SP.same (h : SP w B sum lsn num bot sl raw) (hk : Same w w') : SP w' B sum lsn num bot sl raw := ⟨h.blk.same hk, h.l1, h.l2, h.l3⟩
theorem spCells_length (h1 : sum.length = 4) (h2 : sl.length = 64) (h3 : raw.length = 4096) : (spCells sum lsn num bot sl raw).length = 4167 := by simp [spCells, vals, h1, h2, h3]
theorem SP.sumAt (h : SP w B sum lsn num bot sl raw) (j : Nat) (hj : j < 4) : w.cell? ⟨B, j, none⟩ = some (.int .u8 (sum.getD j 0)) := by
  rw [h.blk.cell, spCells, List.getElem?_append_left (by rw [vals_length, h.l1]; exact hj), vals_at _ _ _ (by rw [h.l1]; exact hj)]
theorem SP.num3 (h : SP w B sum lsn num bot sl raw) : w.cell? ⟨B, 4, none⟩ = some (.int .i64 lsn) ∧ w.cell? ⟨B, 5, none⟩ = some (.int .i64 num) ∧ w.cell? ⟨B, 6, none⟩ = some (.int .i64 bot) := by
  have e : (vals .u8 sum).length = 4 := by rw [vals_length, h.l1]
  refine ⟨?_, ?_, ?_⟩ <;> rw [h.blk.cell, spCells, List.getElem?_append_right (by rw [e]; decide), e] <;> rfl
theorem SP.slAt (h : SP w B sum lsn num bot sl raw) (j : Nat) (hj : j < 64) : w.cell? ⟨B, 7 + j, none⟩ = some (.int .i64 (sl.getD j 0)) := by
  have e : (vals .u8 sum).length = 4 := by rw [vals_length, h.l1]
  rw [h.blk.cell, spCells, List.getElem?_append_right (by omega), e, show 7 + j - 4 = j + 1 + 1 + 1 from by omega, List.getElem?_cons_succ, List.getElem?_cons_succ, List.getElem?_cons_succ,
    List.getElem?_append_left (by rw [vals_length, h.l2]; exact hj), vals_at _ _ _ (by rw [h.l2]; exact hj)]
theorem SP.rawAt (h : SP w B sum lsn num bot sl raw) (j : Nat) (hj : j < 4096) : w.cell? ⟨B, 71 + j, none⟩ = some (.int .u8 (raw.getD j 0)) := by
  have e : (vals .u8 sum).length = 4 := by rw [vals_length, h.l1]
  have e2 : (vals .i64 sl).length = 64 := by rw [vals_length, h.l2]
  rw [h.blk.cell, spCells, List.getElem?_append_right (by omega), e, show 71 + j - 4 = 64 + j + 1 + 1 + 1 from by omega, List.getElem?_cons_succ, List.getElem?_cons_succ, List.getElem?_cons_succ,
    List.getElem?_append_right (by omega), e2, Nat.add_sub_cancel_left, vals_at _ _ _ (by rw [h.l3]; exact hj)]
theorem SP.rawRange (h : SP w B sum lsn num bot sl raw) : w.rangeAt B 71 (vals .u8 raw) := fun j v hv => by
  have hj : j < 4096 := by have := (List.getElem?_eq_some_iff.1 hv).1; rwa [vals_length, h.l3] at this
  rw [h.rawAt j hj, ← hv, vals_at _ _ _ (by rw [h.l3]; exact hj)]
theorem SP.slRange (h : SP w B sum lsn num bot sl raw) : w.rangeAt B 7 (vals .i64 sl) := fun j v hv => by
  have hj : j < 64 := by have := (List.getElem?_eq_some_iff.1 hv).1; rwa [vals_length, h.l2] at this
  rw [h.slAt j hj, ← hv, vals_at _ _ _ (by rw [h.l2]; exact hj)]
end

/-! ### What is written from the front on -/
def cont (A raw : List Int) : List Int := A ++ raw.drop A.length
theorem cont_nil (raw : List Int) : cont [] raw = raw := by simp [cont]
theorem cont_length (A raw : List Int) (h : A.length ≤ raw.length) : (cont A raw).length = raw.length := by simp [cont]; omega
theorem lay_cont (A raw xs : List Int) (h : A.length + xs.length ≤ raw.length) : lay (vals .u8 (cont A raw)) A.length (vals .u8 xs) = vals .u8 (cont (A ++ xs) raw) := by
  unfold lay cont
  simp [vals, Nat.add_comm]
  rw [List.drop_append, List.drop_of_length_le (by simp), List.drop_drop, List.nil_append, List.length_map]
  congr 1
  omega
theorem Blk.more {w : World} {B : Nat} {e : TypeId} {A raw : List Int} (n : Nat) (xs : List Int) (h : Blk w B e (lay (vals .u8 (cont A raw)) n (vals .u8 xs))) (hn : n = A.length) (hl : A.length + xs.length ≤ raw.length) : Blk w B e (vals .u8 (cont (A ++ xs) raw)) := by
  subst hn
  rwa [lay_cont _ _ _ hl] at h
def headB (sum : List Int) (lsn num bot : Int) : List Int := sum ++ lows lsn 8 ++ lows num 4 ++ lows bot 2 ++ lows 0 2
theorem headB_length (sum : List Int) (lsn num bot : Int) (h : sum.length = 4) : (headB sum lsn num bot).length = 20 := by simp [headB, lows_length, h]
def slotB (sl : List Int) : List Int := sl.flatMap fun x => lows x 2
theorem slotB_length (sl : List Int) : (slotB sl).length = 2 * sl.length := by
  induction sl with
  | nil => rfl
  | cons x sl ih => simp only [slotB, List.flatMap_cons, List.length_append, lows_length, List.length_cons] at ih ⊢; omega
theorem slotB_take (sl : List Int) (k : Nat) (h : k < sl.length) : slotB (sl.take (k + 1)) = slotB (sl.take k) ++ lows (sl.getD k 0) 2 := by
  unfold slotB
  rw [List.take_succ_eq_append_getElem h, List.flatMap_append]
  simp [h]
/-- What a page that was taken apart is, as bytes. -/
def encB (sum : List Int) (lsn num bot : Int) (sl raw : List Int) : List Int := cont (headB sum lsn num bot ++ slotB sl) raw
theorem encB_length {sum : List Int} {lsn num bot : Int} {sl raw : List Int} (h1 : sum.length = 4) (h2 : sl.length = 64) (h3 : raw.length = 4096) : (encB sum lsn num bot sl raw).length = 4096 := by
  unfold encB
  rw [cont_length, h3]
  rw [List.length_append, headB_length _ _ _ _ h1, slotB_length, h2, h3]
  decide

section
variable {P : Program} {ops : Array Oper} {o : Oper} {a : Act} {w : World} {K : Act → World → Prop} {Q : Exit → Act → World → Prop} {E : Prop}
/-- 'copy(x, y)' into a block, as one step of a region. -/
theorem step_copy_blk {B off dl dc sl sc : Nat} {e tb : TypeId} {ad : Addr} {xs : List Value} (hgd : o.guard = none) (d s : Operand) (T : TypeId) (ho : o.op = .call { callee := .builtin .copy, args := #[d, s], argTypes := #[T, T] })
    (hu : P.underlying T = some (.slice tb)) (hsz : (P.info? tb).map (·.size) = some 1) (cs : List Value) (hb : Blk w B e xs) (hd : a.eval d = .slice (some ⟨B, off, none⟩) dl dc) (hs : a.eval s = .slice (some ad) sl sc)
    (hn : cs.length = Nat.min sl dl) (hsrc : ∀ j v, cs[j]? = some v → w.cell? (ad.add j) = some v) (hfit : off + cs.length ≤ xs.length) (h1 : ∀ v ∈ cs, v.oneCell' = true)
    (h : K (a.put o.dst (goInt cs.length)) (w.setCells B off cs)) :
    if Region.wanted o (yielded ops a.tmps) = true then Oper.wp P o a w K Q else E := by
  have hw : Region.wanted o (yielded ops a.tmps) = true := by simp [Region.wanted, hgd]
  rw [if_pos hw]
  have hrun := run_copy_cells (P := P) w T T o.type tb B off dl dc ad sl sc cs hu hsz hn hsrc (fun j hj => by rw [hb.cell, List.getElem?_eq_getElem (by omega)]; rfl) (fun j _ => hb.frozen _) h1
  unfold Oper.wp
  simp [execOp, ho, resolve, invoke, builtin, hd, hs, hrun, Result.andThen]
  exact h
end
theorem byte_size : (Try.prog.info? 5).map (·.size) = some 1 := by
  obtain ⟨i0, hi, hz0, hz1, hz2⟩ := info_parts Try.infoByte'
  simp [hi, hz1]
end Go.Proofs.Ytclmdpmelifplab
