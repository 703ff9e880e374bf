import Derived.Test.YtdbpaadndaoihaaGreatDoorG06
import Derived.Test.YtdbpaadndaoihaaGreatDoorG00
import Derived.Test.YtdbpaadndaoihaaGreatDoorG01
import Derived.Test.YtdbpaadndaoihaaGreatDoorG08
import Derived.Test.YtdbpaadndaoihaaGreatDoorG07
import Derived.Test.YtdbpaadndaoihaaGreatDoorG04
import Derived.Test.YtdbpaadndaoihaaGreatDoorG05
import Derived.Test.YtdbpaadndaoihaaGreatDoorG03
import Derived.Deep.DeepCutAuto
import Derived.Deep.RegionHeld3
import Derived.Deep.RegionWith
import Derived.Deep.DeepMust
import Derived.Deep.MidRow
import Derived.Deep.AppendLies
namespace Go.Proofs.YtdbpaadndaoihaaGreatDoor
set_option maxRecDepth 100000
set_option maxHeartbeats 16000000
set_option linter.unusedVariables false
set_option linter.unusedSimpArgs false
open Go.RowKit Go Go.ChangeShapes Go.WideShapes Go.ChangeAt
structure StLogRecord where
 kind : Int
 txn : Int
 prev : Int
 page : Int
 slot : Int
 before : StPageRecord
 after : StPageRecord
 uN : Int
 nT : Int
 txns : FR
 dirty : FR
 image : BS
def StLogRecord.val (x : StLogRecord) : Value := .agg #[.int .i64 x.kind, .int .i64 x.txn, .int .i64 x.prev, .int .i64 x.page, .int .i64 x.slot, .bool x.before.used, x.before.data.v, .bool x.after.used, x.after.data.v, .int .i64 x.uN, .int .i64 x.nT, x.txns.v, x.dirty.v, x.image.v]
def StLogRecord.rows (x : StLogRecord) : List Row := x.before.rows ++ (x.after.rows ++ ((x.txns).rows 4 ++ ((x.dirty).rows 2 ++ (x.image.rows))))
def StLogRecord.dat (x : StLogRecord) : Int × Int × Int × Int × Int × (Bool × List Int) × (Bool × List Int) × Int × Int × List Int × List Int × List Int := (x.kind, x.txn, x.prev, x.page, x.slot, x.before.dat, x.after.dat, x.uN, x.nT, x.txns.bs, x.dirty.bs, x.image.bs)
def StLogRecord.size (x : StLogRecord) : Int := x.before.size + x.after.size + (x.txns.bs.length : Int) + (x.dirty.bs.length : Int) + (x.image.bs.length : Int)
def StLogRecord.marked (x : StLogRecord) (k : Int) : StLogRecord := ⟨x.kind, x.txn, x.prev, x.page, x.slot, x.before.marked (k), x.after.marked (k + x.before.size), x.uN, x.nT, x.txns.marked (k + x.before.size + x.after.size), x.dirty.marked (k + x.before.size + x.after.size + (x.txns.bs.length : Int)), x.image.marked (k + x.before.size + x.after.size + (x.txns.bs.length : Int) + (x.dirty.bs.length : Int))⟩
def StLogRecord.rd (w : World) (x : StLogRecord) : Prop := StPageRecord.rd w x.before ∧ StPageRecord.rd w x.after ∧ RdF 4 w x.txns ∧ RdF 2 w x.dirty ∧ Rd .u8 w x.image.v x.image.bs
theorem StLogRecord.rd.kept {R : Nat → Prop} {w w' : World} {x : StLogRecord} (h : StLogRecord.rd w x) (hk : Kept R w w') (hr : ∀ b, FootL x.rows b → ¬ R b) : StLogRecord.rd w' x :=
 ⟨StPageRecord.rd.kept (h.1) hk (fun b hb => hr b ((FootL_append _ _ _).2 (.inl hb))), StPageRecord.rd.kept (h.2.1) hk (fun b hb => hr b ((FootL_append _ _ _).2 (.inr ((FootL_append _ _ _).2 (.inl hb))))), RdF.kept (h.2.2.1) hk (fun b hb => hr b ((FootL_append _ _ _).2 (.inr ((FootL_append _ _ _).2 (.inr ((FootL_append _ _ _).2 (.inl ((FootL_one _ _).2 hb)))))))), RdF.kept (h.2.2.2.1) hk (fun b hb => hr b ((FootL_append _ _ _).2 (.inr ((FootL_append _ _ _).2 (.inr ((FootL_append _ _ _).2 (.inr ((FootL_append _ _ _).2 (.inl ((FootL_one _ _).2 hb)))))))))), Rd.kept (h.2.2.2.2) hk (fun b hb => hr b ((FootL_append _ _ _).2 (.inr ((FootL_append _ _ _).2 (.inr ((FootL_append _ _ _).2 (.inr ((FootL_append _ _ _).2 (.inr (((footL_ints _ _ _ _ _).2 hb)))))))))))⟩
theorem StLogRecord.rd.same {w w' : World} {x : StLogRecord} (h : StLogRecord.rd w x) (hk : Same w w') : StLogRecord.rd w' x := h.kept hk (fun _ _ => id)
theorem StLogRecord.own_rd {w : World} {x : StLogRecord} (h : OwnL w x.rows) : StLogRecord.rd w x :=
 ⟨(StPageRecord.own_rd h.left), (StPageRecord.own_rd h.right.left), (FR.own_rd h.right.right.left), (FR.own_rd h.right.right.right.left), (OwnL.of_one h.right.right.right.right).rd⟩
def StLogRecord.szs (x : StLogRecord) : Int := x.before.szs + x.after.szs + (x.txns.n : Int) + (x.dirty.n : Int) + (x.image.bs.length : Int)
theorem StLogRecord.szs_le (x : StLogRecord) : 0 ≤ x.szs := by
 unfold StLogRecord.szs
 have h0 := x.before.szs_le
 have h1 := x.after.szs_le
 omega
structure StLogFrame where
 lsn : Int
 epoch : Int
 record : StLogRecord
def StLogFrame.val (x : StLogFrame) : Value := .agg #[.int .i64 x.lsn, .int .i64 x.epoch, .int .i64 x.record.kind, .int .i64 x.record.txn, .int .i64 x.record.prev, .int .i64 x.record.page, .int .i64 x.record.slot, .bool x.record.before.used, x.record.before.data.v, .bool x.record.after.used, x.record.after.data.v, .int .i64 x.record.uN, .int .i64 x.record.nT, x.record.txns.v, x.record.dirty.v, x.record.image.v]
def StLogFrame.rows (x : StLogFrame) : List Row := x.record.rows
def StLogFrame.dat (x : StLogFrame) : Int × Int × (Int × Int × Int × Int × Int × (Bool × List Int) × (Bool × List Int) × Int × Int × List Int × List Int × List Int) := (x.lsn, x.epoch, x.record.dat)
def StLogFrame.size (x : StLogFrame) : Int := x.record.size
def StLogFrame.marked (x : StLogFrame) (k : Int) : StLogFrame := ⟨x.lsn, x.epoch, x.record.marked (k)⟩
def StLogFrame.rd (w : World) (x : StLogFrame) : Prop := StLogRecord.rd w x.record
theorem StLogFrame.rd.kept {R : Nat → Prop} {w w' : World} {x : StLogFrame} (h : StLogFrame.rd w x) (hk : Kept R w w') (hr : ∀ b, FootL x.rows b → ¬ R b) : StLogFrame.rd w' x :=
 StLogRecord.rd.kept (h) hk (fun b hb => hr b (hb))
theorem StLogFrame.rd.same {w w' : World} {x : StLogFrame} (h : StLogFrame.rd w x) (hk : Same w w') : StLogFrame.rd w' x := h.kept hk (fun _ _ => id)
theorem StLogFrame.own_rd {w : World} {x : StLogFrame} (h : OwnL w x.rows) : StLogFrame.rd w x :=
 (StLogRecord.own_rd h)
def StLogFrame.szs (x : StLogFrame) : Int := x.record.szs
theorem StLogFrame.szs_le (x : StLogFrame) : 0 ≤ x.szs := by
 unfold StLogFrame.szs
 have h0 := x.record.szs_le
 omega
def StLogFrame.cells (x : StLogFrame) : List Value := [.int .i64 x.lsn, .int .i64 x.epoch, .int .i64 x.record.kind, .int .i64 x.record.txn, .int .i64 x.record.prev, .int .i64 x.record.page, .int .i64 x.record.slot, .bool x.record.before.used, x.record.before.data.v, .bool x.record.after.used, x.record.after.data.v, .int .i64 x.record.uN, .int .i64 x.record.nT, x.record.txns.v, x.record.dirty.v, x.record.image.v]
def kFr : RowK StLogFrame := ⟨16, StLogFrame.cells, fun _ => rfl, fun _ => .slice none 0 0, fun _ => []⟩
def datFr (ps : List StLogFrame) := ps.map StLogFrame.dat
def szsFr (ps : List StLogFrame) := ps.map StLogFrame.szs
def frRows (ps : List StLogFrame) : List Row := ps.flatMap StLogFrame.rows
theorem datFr_length (ps : List StLogFrame) : (datFr ps).length = ps.length := by simp [datFr]
theorem datFr_at {ps qs : List StLogFrame} (h : datFr ps = datFr qs) (k : Nat) (h1 : k < ps.length) (h2 : k < qs.length) : ps[k].dat = qs[k].dat := by
 have e : (datFr ps)[k]'(by rw [datFr_length]; exact h1) = (datFr qs)[k]'(by rw [datFr_length]; exact h2) := by simp only [h]
 simpa [datFr] using e
theorem frRows_append (ps qs : List StLogFrame) : frRows (ps ++ qs) = frRows ps ++ frRows qs := by simp [frRows]
theorem frRows_cons (p : StLogFrame) (ps : List StLogFrame) : frRows (p :: ps) = p.rows ++ frRows ps := by simp [frRows]
structure OwnFr (w : World) (v : Value) (ps : List StLogFrame) : Prop where
 own : OwnR kFr 0 51 5 w v ps
 rows : OwnL w (frRows ps)
 out : ∀ b, v.ownBlock = some b → ¬ FootL (frRows ps) b
def footFr (v : Value) (ps : List StLogFrame) (b : Nat) : Prop := v.ownBlock = some b ∨ FootL (frRows ps) b
structure RdFr (w : World) (v : Value) (ps : List StLogFrame) : Prop where
 row : RdR kFr w v ps
 data : ∀ p ∈ ps, StLogFrame.rd w p
theorem footFr_head {v : Value} {ps : List StLogFrame} {b : Nat} (h : footR kFr v ps b) : v.ownBlock = some b := by
 rcases h with h | ⟨p, _, h⟩
 ·exact h
 ·simp [kFr, Value.ownBlock] at h
theorem OwnFr.kept {R : Nat → Prop} {w w' : World} {v : Value} {ps : List StLogFrame} (h : OwnFr w v ps) (hk : Kept R w w') (hr : ∀ b, footFr v ps b → ¬ R b) : OwnFr w' v ps :=
 ⟨h.own.kept hk (fun b hb => hr b (.inl (footFr_head hb))), h.rows.kept hk (fun b hb => hr b (.inr hb)), h.out⟩
theorem OwnFr.same {w w' : World} {v : Value} {ps : List StLogFrame} (h : OwnFr w v ps) (hk : Same w w') : OwnFr w' v ps := h.kept hk (fun _ _ => id)
theorem OwnFr.lt {w : World} {v : Value} {ps : List StLogFrame} (h : OwnFr w v ps) (b : Nat) (hb : footFr v ps b) : b < w.heap.size := by
 rcases hb with hb | hb
 ·exact (h.own.lt b (.inl hb)).2
 ·exact h.rows.lt b hb
theorem OwnL.mem {w : World} {ps : List StLogFrame} (h : OwnL w (frRows ps)) (p : StLogFrame) (hp : p ∈ ps) : OwnL w p.rows := by
 obtain ⟨a, c, rfl⟩ := List.append_of_mem hp
 rw [frRows_append, frRows_cons] at h
 exact h.right.left
theorem OwnFr.rd {w : World} {v : Value} {ps : List StLogFrame} (h : OwnFr w v ps) : RdFr w v ps := ⟨h.own.rd, fun p hp => StLogFrame.own_rd (h.rows.mem p hp)⟩
theorem RdFr.same {w w' : World} {v : Value} {ps : List StLogFrame} (h : RdFr w v ps) (hk : Same w w') : RdFr w' v ps := ⟨h.row.same hk, fun p hp => (h.data p hp).same hk⟩
theorem RdFr.form {w : World} {v : Value} {ps : List StLogFrame} (h : RdFr w v ps) : ∃ a c, v = .slice a ps.length c := h.row.form
def sizeFr : List StLogFrame → Int
 | [] => 0
 | p :: ps => p.szs + sizeFr ps
theorem sizeFr_nonneg (ps : List StLogFrame) : 0 ≤ sizeFr ps := by
 induction ps with
 | nil => exact Int.le_refl _
 | cons p ps ih => have := p.szs_le; simp only [sizeFr]; omega
theorem sizeFr_mem (ps : List StLogFrame) (p : StLogFrame) (h : p ∈ ps) : p.szs ≤ sizeFr ps := by
 induction ps with
 | nil => simp at h
 | cons q ps ih =>
  have h1 := sizeFr_nonneg ps
  have h2 := q.szs_le
  rcases List.mem_cons.1 h with rfl | h
  ·simp only [sizeFr]; omega
  ·have := ih h; simp only [sizeFr]; omega
theorem sizeFr_szs {ps qs : List StLogFrame} (h : szsFr qs = szsFr ps) : sizeFr qs = sizeFr ps := by
 have key : ∀ rs : List StLogFrame, sizeFr rs = (szsFr rs).sum := fun rs => by
  induction rs with
  | nil => rfl
  | cons p rs ih => simp only [sizeFr, szsFr, List.map_cons, List.sum_cons]; rw [ih]; rfl
 rw [key, key, h]
section
variable {H : Type} {enc : TypeId × Value → H} {w : World} {base : Nat} {spare : Nat → Bool} {held : Bool}
def StLogFrame.isB (p : StLogFrame) : Prop := IsB p.record.before.data.bs ∧ IsB p.record.after.data.bs ∧ IsB p.record.image.bs
theorem list16 {cs : List Value} (h : cs.length = 16) : ∃ a0 a1 c0 c1 c2 c3 c4 c5 c6 c7 c8 c9 c10 c11 c12 c13, cs = [a0, a1, c0, c1, c2, c3, c4, c5, c6, c7, c8, c9, c10, c11, c12, c13] := by
 match cs, h with
 | [a0, a1, c0, c1, c2, c3, c4, c5, c6, c7, c8, c9, c10, c11, c12, c13], _ => exact ⟨a0, a1, c0, c1, c2, c3, c4, c5, c6, c7, c8, c9, c10, c11, c12, c13, rfl⟩
end
structure FrOK (qs : List StLogFrame) : Prop where
 len : qs.length ≤ 1048576
 each : ∀ p ∈ qs, p.szs ≤ 1048576
 sum : sizeFr qs ≤ 1048576
 isB : ∀ p ∈ qs, p.isB
theorem isB_fr {x y : StLogFrame} (h : y.dat = x.dat) (hx : x.isB) : y.isB := by
 simp only [StLogFrame.dat, StLogRecord.dat, StPageRecord.dat, Prod.mk.injEq] at h
 obtain ⟨_, _, _, _, _, _, _, ⟨_, h1⟩, ⟨_, h2⟩, _, _, _, _, h3⟩ := h
 unfold StLogFrame.isB at *
 rw [h1, h2, h3]
 exact hx
theorem FrOK.of {qs ps : List StLogFrame} (h : datFr qs = datFr ps) (hz : szsFr qs = szsFr ps) (hB : ∀ p ∈ ps, p.isB) (hl : ps.length ≤ 1048576) (hs : sizeFr ps ≤ 1048576) : FrOK qs := by
 have hlen : qs.length = ps.length := by rw [← datFr_length, ← datFr_length, h]
 have hsum := sizeFr_szs hz
 refine ⟨by omega, fun p hp => by have := sizeFr_mem qs p hp; omega, by omega, fun p hp => ?_⟩
 obtain ⟨k, hk, rfl⟩ := List.mem_iff_getElem.1 hp
 exact isB_fr (datFr_at h k hk (by omega)) (hB _ (List.getElem_mem (by omega)))
structure StPageResult where
 code : Int
 page : BS
def StPageResult.val (x : StPageResult) : Value := .agg #[.int .i64 x.code, x.page.v]
def StPageResult.rows (x : StPageResult) : List Row := x.page.rows
def StPageResult.dat (x : StPageResult) : Int × List Int := (x.code, x.page.bs)
def StPageResult.size (x : StPageResult) : Int := (x.page.bs.length : Int)
def StPageResult.marked (x : StPageResult) (k : Int) : StPageResult := ⟨x.code, x.page.marked (k)⟩
def StPageResult.rd (w : World) (x : StPageResult) : Prop := Rd .u8 w x.page.v x.page.bs
theorem StPageResult.rd.kept {R : Nat → Prop} {w w' : World} {x : StPageResult} (h : StPageResult.rd w x) (hk : Kept R w w') (hr : ∀ b, FootL x.rows b → ¬ R b) : StPageResult.rd w' x :=
 Rd.kept (h) hk (fun b hb => hr b (((footL_ints _ _ _ _ _).2 hb)))
theorem StPageResult.rd.same {w w' : World} {x : StPageResult} (h : StPageResult.rd w x) (hk : Same w w') : StPageResult.rd w' x := h.kept hk (fun _ _ => id)
theorem StPageResult.own_rd {w : World} {x : StPageResult} (h : OwnL w x.rows) : StPageResult.rd w x :=
 (OwnL.of_one h).rd
def StPageResult.szs (x : StPageResult) : Int := (x.page.bs.length : Int)
theorem StPageResult.szs_le (x : StPageResult) : 0 ≤ x.szs := by
 unfold StPageResult.szs
 omega
def StPageRecord.isB (x : StPageRecord) : Prop := IsB x.data.bs
def SameP (w0 w : World) : Prop := Same w0 w
theorem SameP.same {w0 w w' : World} (h : SameP w0 w) (hk : Same w w') : SameP w0 w' := Kept.trans h hk
abbrev FrD := Int × Int × (Int × Int × Int × Int × Int × (Bool × List Int) × (Bool × List Int) × Int × Int × List Int × List Int × List Int)
def fLsn (d : FrD) : Int := d.1
def fKind (d : FrD) : Int := d.2.2.1
def fPage (d : FrD) : Int := d.2.2.2.2.2.1
def fSlot (d : FrD) : Int := d.2.2.2.2.2.2.1
def fAft (d : FrD) : Bool × List Int := d.2.2.2.2.2.2.2.2.1
def skipF (raw : List Int) (number frm : Int) (d : FrD) : Prop := (¬ fKind d = 1 ∧ ¬ fKind d = 2) ∨ ¬ fPage d = number ∨ fLsn d < frm ∨ fLsn d ≤ pageLSN raw
def skipFDec (raw : List Int) (number frm : Int) (d : FrD) : Decidable (skipF raw number frm d) := inferInstanceAs (Decidable (_ ∨ _))
def redoOne (raw : List Int) (d : FrD) : Int × List Int := pageSet raw (fSlot d) (fAft d).1 (fAft d).2 (fLsn d)
def redoL (number frm : Int) : List Int → List FrD → Int × List Int
 | raw, [] => (0, raw)
 | raw, d :: ds => @ite _ (skipF raw number frm d) (skipFDec raw number frm d) (redoL number frm raw ds) (if (redoOne raw d).1 = 0 then redoL number frm (redoOne raw d).2 ds else (2, []))
def redoD (raw : List Int) (number : Int) (ds : List FrD) (frm : Int) : Int × List Int := if pageFault raw number = 0 then redoL number frm raw ds else (1, [])
theorem fault0 {raw : List Int} {number : Int} : pageFault raw number = 0 ↔ ownOK raw = true ∧ numAt raw 12 4 = number := by
 unfold ownOK pageFault faultP
 by_cases hl : raw.length = 4096
 ·simp only [hl, ne_eq, not_true_eq_false, if_false, beq_self_eq_true, Bool.true_and, beq_iff_eq]
  by_cases hn : numAt raw 12 4 = number
  ·rw [hn]; simp
  ·simp [hn]
 ·simp [hl]
theorem redoOne_ok {raw : List Int} (hB : IsB raw) (hok : ownOK raw = true) {d : FrD} (hd : IsB (fAft d).2) (h0 : (redoOne raw d).1 = 0) : ownOK (redoOne raw d).2 = true ∧ IsB (redoOne raw d).2 ∧ numAt (redoOne raw d).2 12 4 = numAt raw 12 4 := by
 unfold redoOne pageSet at h0 ⊢
 by_cases h1 : setBad raw (fSlot d) (fAft d).1 (fAft d).2 (fLsn d) = true
 ·rw [if_pos h1] at h0; simp at h0
 rw [if_neg h1] at h0 ⊢
 by_cases h2 : setFull raw (fSlot d).toNat (fAft d).2
 ·rw [if_pos h2] at h0; simp at h0
 rw [if_neg h2] at h0 ⊢
 simp [setBad] at h1
 obtain ⟨_, g1, g2, g3, g4, g5, g6⟩ := h1
 have hk : (fSlot d).toNat < 32 := by omega
 have hsl := slOK_of hB hok
 have hz := usedN_zero (slotsOf raw) (fSlot d).toNat 32
 rw [if_pos hk] at hz
 obtain ⟨b, sl, r, e, h3, h4, h5, _⟩ := setB_ok hB hok (fSlot d).toNat hk (fAft d).1 (fAft d).2 hd (fLsn d) (by simp [isLSN]; omega) (by omega) (by unfold cBot; unfold setFull at h2; omega)
 refine ⟨h4, h5, ?_⟩
 show numAt (setB raw (fSlot d).toNat (fAft d).1 (fAft d).2 (fLsn d)) 12 4 = _
 rw [e, h3.dec.2.1]
theorem redoL_step {number frm : Int} {raw : List Int} {ps : List StLogFrame} {k : Nat} (hk : k < ps.length) : redoL number frm raw (datFr (ps.drop k)) = @ite _ (skipF raw number frm ps[k].dat) (skipFDec raw number frm ps[k].dat) (redoL number frm raw (datFr (ps.drop (k + 1)))) (if (redoOne raw ps[k].dat).1 = 0 then redoL number frm (redoOne raw ps[k].dat).2 (datFr (ps.drop (k + 1))) else (2, [])) := by
 rw [List.drop_eq_getElem_cons hk]
 rfl
structure Src (w : World) (B : Nat) (v : Value) (cs : List Int) (at_ : Nat) (size : Int) : Prop where
 blk : Blk w B 118 [v, .int .i64 at_, .int .i64 size]
 code : Rd .u8 w v cs
 bytes : IsB cs
 few : cs.length ≤ 1048577
 little : 0 ≤ size ∧ size ≤ 12
theorem Src.kept {R : Nat → Prop} {w w' : World} {B : Nat} {v : Value} {cs : List Int} {at_ : Nat} {size : Int} (h : Src w B v cs at_ size) (hk : Kept R w w') (hB : ¬ R B) (hv : Rd .u8 w' v cs) : Src w' B v cs at_ size :=
 ⟨h.blk.kept hk hB, hv, h.bytes, h.few, h.little⟩
theorem Src.same {w w' : World} {B : Nat} {v : Value} {cs : List Int} {at_ : Nat} {size : Int} (h : Src w B v cs at_ size) (hk : Same w w') : Src w' B v cs at_ size :=
 ⟨h.blk.same hk, h.code.same hk, h.bytes, h.few, h.little⟩
theorem source_any (v : Value) (cs : List Int) (w : World) (hb : IsB cs) (hn : cs.length ≤ 1048577) (hv : Rd .u8 w v cs) :
  Calls Tryz.prog 33 #[v] w fun e w' => ∃ B size, e = .returned (.pointer (some ⟨B, 0, none⟩)) ∧ w.heap.size ≤ B ∧ Src w' B v cs 0 size ∧ Same w w' := by
 obtain ⟨a, c, rfl⟩ := hv.form
 by_cases h : 12 < (cs.length : Int) / 16
 ·go_enter Tryz.func33, Tryz.ntmps33
  go_wp2
  go_ret
  exact ⟨_, 12, rfl, Nat.le_refl _, ⟨Blk.new _ _ _, hv.same ((Kept.refl _ _).alloc _), hb, hn, by omega, by omega⟩, (Kept.refl _ _).alloc _⟩
 ·go_enter Tryz.func33, Tryz.ntmps33
  go_wp2
  go_ret
  exact ⟨_, rfl, Nat.le_refl _, ⟨_, Blk.new _ _ _, hv.same ((Kept.refl _ _).alloc _), hb, hn, by omega, by omega⟩, (Kept.refl _ _).alloc _⟩
def Drawn (n r : Int) : Prop := (n < 1 → r = 0) ∧ (1 ≤ n → 0 ≤ r ∧ r < n)
theorem next_any (B : Nat) (v : Value) (cs : List Int) (k : Nat) (size n : Int) (w : World) (hs : Src w B v cs k size) (hR : ∀ w', Kept (fun b => b = B) w w' → Rd .u8 w' v cs) (hk : k ≤ 1073741824) (hn : IsI n) :
  Calls Tryz.prog 35 #[.pointer (some ⟨B, 0, none⟩), .int .i64 n] w fun e w' => ∃ r, e = .returned (.int .i64 r) ∧ Drawn n r ∧ Src w' B v cs (k + 1) size ∧ Kept (fun b => b = B) w w' := by
 obtain ⟨a, c, rfl⟩ := hs.code.form
 have c0 : w.cell? ⟨B, 0, none⟩ = some (.slice a cs.length c) := by rw [hs.blk.cell]; rfl
 have c1 : w.cell? ⟨B, 1, none⟩ = some (.int .i64 k) := by rw [hs.blk.cell]; rfl
 have f1 := hs.blk.frozen 1
 have hkk : Kept (fun b => b = B) w (w.setCell ⟨B, 1, none⟩ (.int .i64 ((k : Int) + 1))) := Kept.setCell (R := fun b => b = B) (Kept.refl _ _) (.inr rfl) _
 have hsrc : Src (w.setCell ⟨B, 1, none⟩ (.int .i64 ((k : Int) + 1))) B (.slice a cs.length c) cs (k + 1) size :=
  ⟨by have := hs.blk.stored 1 (.int .i64 ((k : Int) + 1)); exact this, hR _ hkk, hs.bytes, hs.few, hs.little⟩
 have HS := (show Hid (Src (w.setCell ⟨B, 1, none⟩ (.int .i64 ((k : Int) + 1))) B (.slice a cs.length c) cs (k + 1) size) from hsrc)
 have HK := (show Hid (Kept (fun b => b = B) w (w.setCell ⟨B, 1, none⟩ (.int .i64 ((k : Int) + 1)))) from hkk)
 have hfew := hs.few
 obtain ⟨hn1, hn2⟩ := hn
 clear hs hR hsrc hkk
 by_cases h1 : n < 1
 ·go_enter Tryz.func35, Tryz.ntmps35
  go_wp2
  go_ret
  exact ⟨0, rfl, ⟨fun _ => rfl, fun h => by omega⟩, HS.out, HK.out⟩
 ·by_cases h2 : cs.length = 0
  ·have e0 : ((cs.length : Nat) : Int) = 0 := by omega
   rw [h2] at c0
   go_enter Tryz.func35, Tryz.ntmps35
   go_wp2
   go_ret
   refine ⟨_, rfl, ⟨fun h => by omega, fun h => ⟨Int.emod_nonneg _ (by omega), Int.emod_lt_of_pos _ (by omega)⟩⟩, ?_, HK.out⟩
   have := HS.out
   rw [h2] at this
   exact this
  ·obtain ⟨b, off, rfl, hc⟩ : ∃ b off, a = some ⟨b, off, none⟩ ∧ ∀ i, i < cs.length → (w.setCell ⟨B, 1, none⟩ (.int .i64 ((k : Int) + 1))).cell? ⟨b, off + i, none⟩ = some (.int .u8 (cs.getD i 0)) := by
    rcases HS.out.code.2 with ⟨hnil, _⟩ | ⟨b, off, c', h, _, hc⟩
    ·rw [hnil] at h2
     simp at h2
    ·cases h
     exact ⟨b, off, rfl, hc⟩
   have q1 := hc (k % cs.length) (Nat.mod_lt _ (by omega))
   have q2 := hc ((k + 1) % cs.length) (Nat.mod_lt _ (by omega))
   have x1 := HS.out.bytes.at (k % cs.length) (Nat.mod_lt _ (by omega))
   have x2 := HS.out.bytes.at ((k + 1) % cs.length) (Nat.mod_lt _ (by omega))
   clear hc
   have m1 : (k : Int) % (cs.length : Int) = ((k % cs.length : Nat) : Int) := by simp
   have m2 : ((k : Int) + 1) % (cs.length : Int) = (((k + 1) % cs.length : Nat) : Int) := by simp
   have l1 := Nat.mod_lt k (y := cs.length) (by omega)
   have l2 := Nat.mod_lt (k + 1) (y := cs.length) (by omega)
   have d1 : (k : Int) / (cs.length : Int) = ((k / cs.length : Nat) : Int) := by simp
   have d2 : k / cs.length ≤ k := Nat.div_le_self _ _
   generalize cs.getD (k % cs.length) 0 = x at *
   generalize cs.getD ((k + 1) % cs.length) 0 = y at *
   generalize k % cs.length = i1 at *
   generalize (k + 1) % cs.length = i2 at *
   generalize k / cs.length = j1 at *
   generalize hl : cs.length = len at *
   have hl0 : (0 : Int) < (len : Int) := by omega
   have hl1 : ¬ (len : Int) = 0 := by omega
   have l1' : (i1 : Int) < (len : Int) := by omega
   have l2' : (i2 : Int) < (len : Int) := by omega
   by_cases h3 : 200 < n
   ·go_enter Tryz.func35, Tryz.ntmps35
    go_wp2
    go_quiet (fail)
    go_wp2
    go_quiet (fail)
    go_wp2
    go_ret
    refine ⟨_, rfl, ⟨fun h => by omega, fun h => ⟨Int.emod_nonneg _ (by omega), Int.emod_lt_of_pos _ (by omega)⟩⟩, ?_, ?_⟩
    ·exact HS.out.same ((Kept.refl _ _).drewN _)
    ·exact HK.out.drewN _
   ·go_enter Tryz.func35, Tryz.ntmps35
    go_wp2
    go_quiet (fail)
    go_wp2
    go_ret
    refine ⟨_, rfl, ⟨fun h => by omega, fun h => ⟨Int.emod_nonneg _ (by omega), Int.emod_lt_of_pos _ (by omega)⟩⟩, ?_, ?_⟩
    ·exact HS.out.same ((Kept.refl _ _).drewN _)
    ·exact HK.out.drewN _
theorem Src.lt {w : World} {B : Nat} {v : Value} {cs : List Int} {at_ : Nat} {size : Int} (h : Src w B v cs at_ size) : B < w.heap.size := h.blk.lt
structure SrcR (w0 w : World) (B : Nat) (v : Value) (cs : List Int) (k : Nat) (size : Int) : Prop where
 src : Src w B v cs k size
 kept : Kept (fun b => b = B) w0 w
 rd : ∀ w', Kept (fun b => b = B) w0 w' → Rd .u8 w' v cs
theorem source_r1 (v : Value) (cs : List Int) (w : World) (hb : IsB cs) (hn : cs.length ≤ 1048577) (hv : Rd .u8 w v cs) :
  Calls Tryz.prog 33 #[v] w fun e w' => ∃ B size, e = .returned (.pointer (some ⟨B, 0, none⟩)) ∧ w.heap.size ≤ B ∧ SrcR w' w' B v cs 0 size ∧ Same w w' := by
 refine (source_any v cs w hb hn hv).mono ?_
 rintro e w' ⟨B, size, rfl, hB, hs, hk⟩
 exact ⟨B, size, rfl, hB, ⟨hs, Kept.refl _ _, fun w2 h => hv.same (hk.next h (fun i hi e => by omega))⟩, hk⟩
theorem SrcR.lt {w0 w : World} {B : Nat} {v : Value} {cs : List Int} {k : Nat} {size : Int} (h : SrcR w0 w B v cs k size) : B < w.heap.size := h.src.lt
theorem SrcR.on {R : Nat → Prop} {w0 w w' : World} {B : Nat} {v : Value} {cs : List Int} {k : Nat} {size : Int} (h : SrcR w0 w B v cs k size) (hk : Kept R w w') (hB : ¬ R B) (hR : ∀ i, i < w0.heap.size → ¬ R i) : SrcR w0 w' B v cs k size := by
 have hk' : Kept (fun b => b = B) w0 w' := h.kept.next hk (fun i hi e => absurd e (hR i hi))
 exact ⟨h.src.kept hk hB (h.rd w' hk'), hk', h.rd⟩
theorem SrcR.same {w0 w w' : World} {B : Nat} {v : Value} {cs : List Int} {k : Nat} {size : Int} (h : SrcR w0 w B v cs k size) (hk : Same w w') : SrcR w0 w' B v cs k size := h.on hk id (fun _ _ => id)
theorem next_k {w0 w : World} {B : Nat} {v : Value} {cs : List Int} {k : Nat} {size : Int} (n : Int) (h : SrcR w0 w B v cs k size) (hk : k ≤ 1073741824) (hn : IsI n) :
  Calls Tryz.prog 35 #[.pointer (some ⟨B, 0, none⟩), .int .i64 n] w fun e w' => ∃ r, e = .returned (.int .i64 r) ∧ Drawn n r ∧ SrcR w0 w' B v cs (k + 1) size ∧ Kept (fun b => b = B) w w' := by
 refine (next_any B v cs k size n w h.src (fun w' hw => h.rd w' (h.kept.trans hw)) hk hn).mono ?_
 rintro e w' ⟨r, rfl, hd, hs, hk'⟩
 exact ⟨r, rfl, hd, ⟨hs, h.kept.trans hk', h.rd⟩, hk'⟩
theorem chance_k {w0 w : World} {B : Nat} {v : Value} {cs : List Int} {k : Nat} {size : Int} (n : Int) (h : SrcR w0 w B v cs k size) (hk : k ≤ 1073741824) (hn : IsI n) :
  Calls Tryz.prog 66 #[.pointer (some ⟨B, 0, none⟩), .int .i64 n] w fun e w' => ∃ b, e = .returned (.bool b) ∧ SrcR w0 w' B v cs (k + 1) size ∧ Kept (fun b => b = B) w w' := by
 have k0 := next_k n h hk hn
 clear h
 go_enter Tryz.func66, Tryz.ntmps66
 go_wp2_with fail
 refine k0.mono ?_
 rintro e w1 ⟨r, rfl, hd, hs, hk1⟩
 have HS := hid hs
 have HK := hid hk1
 clear k0 hs hk1
 go_wp2
 go_ret
 exact ⟨_, rfl, HS.out, HK.out⟩
theorem wrapU8_bounds (x : Int) : 0 ≤ IntKind.u8.wrap x ∧ IntKind.u8.wrap x ≤ 255 := by
 simp [IntKind.wrap, IntKind.bits, IntKind.signed]
 omega
theorem fill_k {w0 w : World} {B : Nat} {v : Value} {cs : List Int} {k : Nat} {size : Int} (N : Nat) (h : SrcR w0 w B v cs k size) (hk : k ≤ 1073741821) (hN : N ≤ 4096) :
  Calls Tryz.prog 37 #[.pointer (some ⟨B, 0, none⟩), .int .i64 (N : Int)] w fun e w' => ∃ (g : Nat) (bs : List Int), e = .returned (.slice (some ⟨g, 0, none⟩) N N) ∧ bs.length = N ∧ IsB bs ∧ Own w0.heap.size 5 .u8 w' (.slice (some ⟨g, 0, none⟩) N N) bs ∧ g ≠ B ∧ SrcR w0 w' B v cs (k + 2) size ∧ w.heap.size ≤ g ∧ Kept (fun b => b = B) w w' := by
 obtain ⟨i0, hi, hz0, hz1, hz2⟩ := info_parts Tryz.infoByte'
 have k0 := next_k 256 h (by omega) (by constructor <;> decide)
 clear h
 go_enter Tryz.func37, Tryz.ntmps37
 go_wp2_with fail
 refine k0.mono ?_
 rintro e w1 ⟨a, rfl, hd, hs, hk1⟩
 have HK1 := hid hk1
 have HS1 := hid hs
 clear k0 hs hk1 hd
 go_wp2_with fail
 refine (next_k 5 HS1.out (by omega) (by constructor <;> decide)).mono ?_
 rintro e w2 ⟨b, rfl, hd, hs2, hk2⟩
 have HK2 := hid (HK1.out.trans hk2)
 have HS2 := hid hs2
 have hsz := hs2.kept.size
 have hBl := hs2.lt
 have hw2s := HK2.out.size
 clear hs2 hk2 hd
 obtain ⟨a', ha'⟩ : ∃ x, IntKind.u8.wrap a = x := ⟨_, rfl⟩
 obtain ⟨b', hb'⟩ : ∃ x, IntKind.u8.wrap b = x := ⟨_, rfl⟩
 go_wp2_with (at_make; refine wpList_make_full _ rfl (.tmp 15) (.tmp 15) 22 rfl w0.heap.size 5 i0 (.int .u8 0) 1 Tryz.underlying22 hi hz0 hz1 .i64 .i64 _ _ N rfl rfl (by simp) (by simp) (by rw [hz2]; omega) (by unfold maxLen; omega) hsz ?_; intro w3 hown1 hgrow1; have HO : Hid (∃ bs : List Int, bs.length = N ∧ IsB bs ∧ Own w0.heap.size 5 .u8 w3 (.slice (some ⟨w2.heap.size, 0, none⟩) N N) bs) := ⟨List.replicate N 0, List.length_replicate, fun y hy => by rw [List.eq_of_mem_replicate hy]; omega, own_made (by simpa using hown1)⟩; have HS3 := hid (HS2.out.same (Kept.of_grown hgrow1 (fun k e => by cases e))); have HK3 := hid (HK2.out.trans ((Kept.of_grown hgrow1 (fun k e => by cases e) : Same w2 w3).mono (fun _ _ e => e.elim))); clear hown1 hgrow1)
 go_loopw [8] (fun i wr => ∃ (j : Nat), j ≤ N ∧ i = .int .i64 (j : Int) ∧ Hid (∃ bs : List Int, bs.length = N ∧ IsB bs ∧ Own w0.heap.size 5 .u8 wr (.slice (some ⟨w2.heap.size, 0, none⟩) N N) bs) ∧ Hid (SrcR w0 wr B v cs (k + 2) size) ∧ Hid (Kept (fun b => b = B) w wr)) (fun i _ => N - (intOf i).toNat)
 case atStart => exact ⟨0, Nat.zero_le _, rfl, HO, HS3, HK3⟩
 case round =>
  obtain ⟨j, hj, rfl, HOj, HSj, HKj⟩ := hrel
  by_cases hlt : j < N
  ·obtain ⟨bs, hbl, hbb, ho⟩ := HOj.out
   have hc := ho.cell hbl.symm j (by omega)
   have hf := ho.frozen hbl.symm j
   have HO2 := hid ho
   clear ho
   go_wp2_with fail
   go_roundw
   case rel =>
    refine ⟨j + 1, by omega, by go_num, ⟨_, by rw [List.length_set, hbl], ?_, HO2.out.stored hbl.symm j _⟩, HSj.out.on (Kept.setCell (R := fun b => b = w2.heap.size) (Kept.refl _ _) (p := ⟨w2.heap.size, j, none⟩) (.inr rfl) _) (by omega) (fun i hi => by omega), HKj.out.setCell (p := ⟨w2.heap.size, j, none⟩) (.inl (by omega)) _⟩
    intro y hy
    rcases List.mem_or_eq_of_mem_set hy with hy | rfl
    ·exact hbb y hy
    ·exact wrapU8_bounds _
   case measure => simp [intOf]; omega
  ·go_wp2
   go_ret
   obtain ⟨bs, hbl, hbb, ho⟩ := HOj.out
   exact ⟨w2.heap.size, bs, rfl, hbl, hbb, ho, by omega, HSj.out, by omega, HKj.out⟩
def isPageB (x : Int) : Bool := decide (0 ≤ x) && decide (x < 16)
set_option maxRecDepth 100000 in
theorem isPage_any (x : Int) (w : World) : Calls Tryz.prog 31 #[.int .i64 x] w fun e w' => e = .returned (.bool (isPageB x)) ∧ Same w w' := by
 unfold isPageB
 by_cases h : 0 ≤ x
 ·by_cases h2 : x < 16
  ·go_enter Tryz.func31, Tryz.ntmps31
   go_wp2
   go_ret
   exact ⟨by simp [h, h2], Kept.refl _ _⟩
  ·go_enter Tryz.func31, Tryz.ntmps31
   go_wp2
   go_ret
   exact ⟨by simp [h]; omega, Kept.refl _ _⟩
 ·go_enter Tryz.func31, Tryz.ntmps31
  go_wp2
  go_ret
  exact ⟨by rw [show decide (0 ≤ x) = false from by simp; omega]; rfl, Kept.refl _ _⟩
set_option maxRecDepth 100000 in
theorem isPage_eq (x : Int) (w : World) : Calls Tryz.prog 31 #[.int .i64 x] w fun e w' => e = .returned (.bool (isPageB x)) ∧ w' = w := by
 unfold isPageB
 by_cases h : 0 ≤ x
 ·by_cases h2 : x < 16
  ·go_enter Tryz.func31, Tryz.ntmps31
   go_wp2
   go_ret
   exact ⟨by simp [h, h2], rfl⟩
  ·go_enter Tryz.func31, Tryz.ntmps31
   go_wp2
   go_ret
   exact ⟨by simp [h]; omega, rfl⟩
 ·go_enter Tryz.func31, Tryz.ntmps31
  go_wp2
  go_ret
  exact ⟨by rw [show decide (0 ≤ x) = false from by simp; omega]; rfl, rfl⟩
def newB (n : Int) : List Int := List.replicate 12 0 ++ lows n 4 ++ lows 4096 2 ++ List.replicate 4078 0
theorem newB_length (n : Int) : (newB n).length = 4096 := by
 unfold newB
 rw [List.length_append, List.length_append, List.length_append, lows_length, lows_length, List.length_replicate, List.length_replicate]
theorem newB_isB (n : Int) : IsB (newB n) := by
 intro y hy
 simp only [newB, List.mem_append] at hy
 rcases hy with ((h | h) | h) | h
 ·have := List.eq_of_mem_replicate h; omega
 ·exact lows_isB n 4 y h
 ·exact lows_isB 4096 2 y h
 ·have := List.eq_of_mem_replicate h; omega
theorem newB_enc (n : Int) : encB (List.replicate 4 0) 0 n 4096 (List.replicate 64 0) (List.replicate 4096 0) = newB n := by
 have e1 : slotB (List.replicate 64 0) = List.replicate 128 0 := by decide +kernel
 have e2 : lows 0 8 = List.replicate 8 0 := by decide
 have e3 : lows 0 2 = List.replicate 2 0 := by decide
 unfold encB headB newB cont
 rw [e1, e2, e3]
 have e4 : ((List.replicate 4 (0 : Int) ++ List.replicate 8 0 ++ lows n 4 ++ lows 4096 2 ++ List.replicate 2 0 ++ List.replicate 128 0).length) = 148 := by simp [lows_length]
 rw [e4, List.drop_replicate]
 simp only [List.append_assoc, List.replicate_append_replicate]
def pageNew (n : Int) : List Int := if n < 0 ∨ 16 ≤ n then [] else sealB (newB n)
theorem implNew_yes (n : Int) (w : World) (h0 : 0 ≤ n) (h1 : n < 16) :
  Calls Tryz.prog 6 #[.int .i64 n] w fun e w' => ∃ a c, e = .returned (.slice a (pageNew n).length c) ∧ (∀ b, (Value.slice a (pageNew n).length c).ownBlock = some b → w.heap.size ≤ b) ∧
   Own 0 71 .u8 w' (.slice a (pageNew n).length c) (pageNew n) ∧ Same w w' := by
 have hR : pageNew n = sealB (newB n) := by unfold pageNew; rw [if_neg (by omega)]
 have hsl : (sealB (newB n)).length = 4096 := by rw [sealB_length _ (by rw [newB_length]; decide), newB_length]
 rw [hR, hsl]
 have hzc : Tryz.zeroCells79.toList = spCells (List.replicate 4 0) 0 0 0 (List.replicate 64 0) (List.replicate 4096 0) := by kernel_rfl
 have hset : (Tryz.zeroCells79.toList.set 5 (.int .i64 n)).set 6 (.int .i64 4096) = spCells (List.replicate 4 0) 0 n 4096 (List.replicate 64 0) (List.replicate 4096 0) := by
  rw [hzc]
  unfold spCells
  generalize vals .i64 (List.replicate 64 0) ++ vals .u8 (List.replicate 4096 0) = rest
  rfl
 have hlen : (Tryz.zeroCells79.toList).length = 4167 := by rw [Array.length_toList]; exact Tryz.zeroCells79_size
 obtain ⟨L, hL⟩ : ∃ L, (Tryz.zeroCells79.toList.set 5 (.int .i64 n)).set 6 (.int .i64 4096) = L := ⟨_, rfl⟩
 have hLl : L.length = 4167 := by rw [← hL, List.length_set, List.length_set, hlen]
 have hone : ∀ v ∈ L, v.oneCell' = true := by
  rw [← hL, hset]
  intro v hv
  simp only [spCells, List.mem_append, List.mem_cons] at hv
  rcases hv with h | h | h | h | h | h
  ·exact vals_one v h
  ·rw [h]; rfl
  ·rw [h]; rfl
  ·rw [h]; rfl
  ·exact vals_one v h
  ·exact vals_one v h
 have hb0 := Blk.new w Tryz.zeroCells79 79
 have hst := hb0.stores (P := Tryz.prog) 0 L (by rw [hLl, hlen]; decide) hone
 have hb1 := hb0.setCells L 0 (by rw [hLl, hlen]; decide)
 rw [lay_all _ _ (by rw [hLl, hlen])] at hb1
 have hk1 : Same w ((w.alloc (.cells Tryz.zeroCells79 79)).setCells w.heap.size 0 L) := Kept.setCells (.inl (Nat.le_refl _)) L 0 ((Kept.refl _ _).alloc _)
 obtain ⟨w1, hw1⟩ : ∃ w1, (w.alloc (.cells Tryz.zeroCells79 79)).setCells w.heap.size 0 L = w1 := ⟨_, rfl⟩
 rw [hw1] at hb1 hk1 hst
 have HL := (show Hid (L = spCells (List.replicate 4 0) 0 n 4096 (List.replicate 64 0) (List.replicate 4096 0)) from hL.symm.trans hset)
 have HSP := (show Hid (SP w1 w.heap.size (List.replicate 4 0) 0 n 4096 (List.replicate 64 0) (List.replicate 4096 0)) from ⟨by rw [← HL.out]; exact hb1, rfl, List.length_replicate, List.length_replicate⟩)
 have HN3 := (show Hid (Num3 0 n 4096 (List.replicate 64 0)) from ⟨⟨by decide, by decide⟩, ⟨h0, by omega⟩, ⟨by decide, by decide⟩, fun x hx => by have := List.eq_of_mem_replicate hx; omega⟩)
 have HK1 := (show Hid (Same w w1) from hk1)
 have hE := encode_any w.heap.size _ 0 n 4096 _ _ w1 HSP.out HN3.out
 rw [newB_enc] at hE
 have hPg := isPage_eq n w
 rw [show isPageB n = true from by simp [isPageB]; omega] at hPg
 clear hb0 hb1 hk1 hw1 hset hzc hone
 go_enter Tryz.func6, Tryz.ntmps6
 go_wp2_with (first
  | (go_at_call 31; refine hPg.mono ?_; rintro e w' ⟨rfl, hww⟩; obtain rfl := hww.symm)
  | (go_at_call 32; refine hE.mono ?_; rintro e w2 ⟨rfl, hk2⟩; have HK2 := (show Hid (Same w w2) from HK1.out.trans hk2); have hS := sealed_any (newB n) w2 (newB_isB n) (newB_length n); clear hk2)
  | (go_at_call 29; refine hS.mono ?_; rintro e w3 ⟨rfl, hk3⟩; have HK3 := (show Hid (Same w w3) from HK2.out.trans hk3); have hLi := list_any (sealB (newB n)) w3 hsl; clear hk3)
  | (go_at_call 30; refine hLi.mono ?_; rintro e w4 ⟨rfl, hb4, hk4⟩))
 go_ret
 have hz3 := HK3.out.size
 refine ⟨some ⟨w3.heap.size, 0, none⟩, 4096, rfl, ?_, ?_, HK3.out.trans hk4⟩
 ·intro b hb
  simp [Value.ownBlock] at hb
  omega
 ·have h := Blk.own hb4 (by rw [hsl]; decide)
  rwa [hsl] at h
theorem implNew_any (n : Int) (w : World) :
  Calls Tryz.prog 6 #[.int .i64 n] w fun e w' => ∃ a c, e = .returned (.slice a (pageNew n).length c) ∧ (∀ b, (Value.slice a (pageNew n).length c).ownBlock = some b → w.heap.size ≤ b) ∧
   Own 0 71 .u8 w' (.slice a (pageNew n).length c) (pageNew n) ∧ Same w w' := by
 by_cases h : n < 0 ∨ 16 ≤ n
 ·have hR : pageNew n = [] := by unfold pageNew; rw [if_pos h]
  rw [hR]
  have hPg := isPage_eq n w
  rw [show isPageB n = false from by simp [isPageB]; omega] at hPg
  go_enter Tryz.func6, Tryz.ntmps6
  go_wp2_with (go_at_call 31; refine hPg.mono ?_; rintro e w' ⟨rfl, hww⟩; obtain rfl := hww.symm)
  go_ret
  exact ⟨none, 0, rfl, fun b hb => by simp [Value.ownBlock] at hb, Own.nil _ _ _ _, Kept.refl _ _⟩
 ·exact implNew_yes n w (by omega) (by omega)
theorem cont_zeros (k n : Nat) (h : k ≤ n) : cont (List.replicate k 0) (List.replicate n 0) = List.replicate n 0 := by
 unfold cont
 rw [List.length_replicate, List.drop_replicate, List.replicate_append_replicate]
 congr 1
 omega
theorem newB_cont (n : Int) : cont (List.replicate 12 0 ++ lows n 4 ++ lows 4096 2) (List.replicate 4096 0) = newB n := by
 unfold cont newB
 have e : (List.replicate 12 (0 : Int) ++ lows n 4 ++ lows 4096 2).length = 18 := by simp [lows_length]
 rw [e, List.drop_replicate]
theorem numB_small (x n : Int) (hn : 1 ≤ n) (hn8 : n ≤ 8) (h0 : 0 ≤ x) (h1 : x / 256 ^ n.toNat = 0) : numB x n = lows x n.toNat := by
 unfold numB
 rw [if_neg (by omega)]
theorem own_cells {base g n c : Nat} {e : TypeId} {w : World} {bs : List Int} (h : Own base e .u8 w (.slice (some ⟨g, 0, none⟩) n c) bs) (hn : n = bs.length) (j : Nat) (u : Value) (hu : (vals .u8 bs)[j]? = some u) : w.cell? ((⟨g, 0, none⟩ : Addr).add j) = some u := by
 have hj : j < bs.length := by have := (List.getElem?_eq_some_iff.1 hu).1; rwa [vals_length] at this
 rw [addr_add, Nat.zero_add, h.cell hn j (by omega), ← hu, vals_at _ _ _ hj]
theorem own_some {base n c : Nat} {a : Option Addr} {e : TypeId} {w : World} {bs : List Int} (h : Own base e .u8 w (.slice a n c) bs) (hn : 0 < bs.length) : ∃ g, a = some ⟨g, 0, none⟩ := by
 rcases h.form with ⟨_, h0⟩ | ⟨g, cap, e, _⟩
 ·rw [h0] at hn
  simp at hn
 ·cases e
  exact ⟨g, rfl⟩
theorem specNew_yes (n : Int) (w : World) (h0 : 0 ≤ n) (h1 : n < 16) :
  Calls Tryz.prog 83 #[.int .i64 n] w fun e w' => ∃ a c, e = .returned (.slice a (pageNew n).length c) ∧ (∀ b, (Value.slice a (pageNew n).length c).ownBlock = some b → w.heap.size ≤ b) ∧
   Own 0 5 .u8 w' (.slice a (pageNew n).length c) (pageNew n) ∧ Same w w' := by
 have hR : pageNew n = pageSeal (newB n) := by unfold pageNew pageSeal; rw [if_neg (by omega), if_pos (newB_length n)]
 rw [hR]
 clear hR
 obtain ⟨i0, hi, hz0, hz1, hz2⟩ := info_parts Tryz.infoByte'
 have HN1 := (show Hid (numB n 4 = lows n 4) from numB_small n 4 (by decide) (by decide) h0 (by rw [show (256 : Int) ^ (4 : Int).toNat = 4294967296 from rfl]; omega))
 have HN2 := (show Hid (numB 4096 2 = lows 4096 2) from (by decide : numB 4096 2 = lows 4096 2))
 go_enter Tryz.func83, Tryz.ntmps83
 go_wp2_with (at_make; refine wpList_make_full _ rfl _ _ 22 rfl 0 5 i0 (.int .u8 0) 1 Tryz.underlying22 hi hz0 hz1 .i64 .i64 _ _ 4096 rfl rfl (by first | rfl | simp) (by first | rfl | simp) (by rw [hz2]; decide) (by decide) (Nat.zero_le _) ?_; intro w1 hown1 hgrow1; have HB1 := (show Hid (Blk w1 w.heap.size 5 (vals .u8 (cont (List.replicate 12 0) (List.replicate 4096 0)))) from (by rw [cont_zeros 12 4096 (by decide)]; exact Own.blk (own_made (by simpa using hown1)))); have HK1 := (show Hid (Same w w1) from Kept.of_grown hgrow1 (fun k e => by cases e)); clear hown1 hgrow1)
 have hw1 := HB1.out.lt
 have hS : (fun _ : World => True) w1.drew := by trivial
 refine wp_region_V (fun _ : World => True) 99 5 rfl (by kernel_rfl) ?_
 refine tk 0 12 hS ?_
 refine tk 1 13 hS ?_
 refine tk 2 14 hS ?_
 refine wpAnyV_one (i := 3) (by kernel_rfl) rfl (fun K hK => ?_)
 go_simp
 have hc := specPut_any n 4 w1.drew ⟨by omega, by omega⟩ ⟨by decide, by decide⟩
 with_reducible refine hc.mono ?_
 clear hc
 rintro e w2 ⟨a2, c2, rfl, hf2, ho2, hk2⟩
 rw [HN1.out, lows_length] at hf2 ho2 ⊢
 obtain ⟨g2, rfl⟩ := own_some ho2 (by rw [lows_length]; decide)
 have hg2 := hf2 g2 rfl
 have HO2 := (show Hid (Own 0 5 .u8 w2 (.slice (some ⟨g2, 0, none⟩) 4 c2) (lows n 4)) from ho2)
 have hk2' : Same w1 w2 := (Kept.refl _ _).drew.trans hk2
 have HB2 := hid (HB1.out.same hk2')
 have HK2 := hid (HK1.out.trans hk2')
 clear hf2 ho2 hk2 hk2'
 refine hK.out _ _ (fun _ => trivial) ?_
 clear hK K
 try simp only [Act.put, sA, s0, sS]
 refine wpAnyV_one (i := 4) (by kernel_rfl) rfl (fun K hK => ?_)
 refine step_copy_blk (by rfl) _ _ 22 (by rfl) Tryz.underlying22 byte_size (vals .u8 (lows n 4)) HB2.out (by rfl) (by rfl) (by rw [vals_length, lows_length]; decide) (own_cells HO2.out (by rw [lows_length])) (by rw [vals_length, vals_length, lows_length, cont_length _ _ (by rw [List.length_replicate, List.length_replicate]; decide), List.length_replicate]; decide) vals_one ?_
 have hb3 := Blk.more 12 (lows n 4) (HB2.out.setCells (vals .u8 (lows n 4)) 12 (by rw [vals_length, vals_length, lows_length, cont_length _ _ (by rw [List.length_replicate, List.length_replicate]; decide), List.length_replicate]; decide)) (by rw [List.length_replicate]) (by rw [List.length_replicate, List.length_replicate, lows_length]; decide)
 have hk3 := Kept.setCells (R := fun _ => False) (a := w) (B := w.heap.size) (.inl (Nat.le_refl _)) (vals .u8 (lows n 4)) 12 HK2.out
 obtain ⟨w3, hw3⟩ : ∃ w3, w2.setCells w.heap.size 12 (vals .u8 (lows n 4)) = w3 := ⟨_, rfl⟩
 rw [hw3] at hb3 hk3 ⊢
 have HB3 := (show Hid (Blk w3 w.heap.size 5 (vals .u8 (cont (List.replicate 12 0 ++ lows n 4) (List.replicate 4096 0)))) from hb3)
 have HK3 := (show Hid (Same w w3) from hk3)
 clear hw3 hb3 hk3 HB2 HK2 HB1 HK1 HO2
 show K (Act.put _ (some 16) (goInt (vals .u8 (lows n 4)).length)) _
 refine hK.out _ _ (fun _ => trivial) ?_
 clear hK K hS
 refine wpAnyV_done (by kernel_rfl) ?_
 try simp only [Act.put, sA, s0, sS]
 go_wp2_with fail
 have hS : (fun _ : World => True) w3.drew := by trivial
 refine wp_region_V (fun _ : World => True) 99 4 rfl (by kernel_rfl) ?_
 refine tk 0 17 hS ?_
 refine tk 1 18 hS ?_
 refine wpAnyV_one (i := 2) (by kernel_rfl) rfl (fun K hK => ?_)
 go_simp
 have hc := specPut_any 4096 2 w3.drew ⟨by decide, by decide⟩ ⟨by decide, by decide⟩
 with_reducible refine hc.mono ?_
 clear hc
 rintro e w4 ⟨a4, c4, rfl, hf4, ho4, hk4⟩
 rw [HN2.out, lows_length] at hf4 ho4 ⊢
 obtain ⟨g4, rfl⟩ := own_some ho4 (by rw [lows_length]; decide)
 have HO4 := (show Hid (Own 0 5 .u8 w4 (.slice (some ⟨g4, 0, none⟩) 2 c4) (lows 4096 2)) from ho4)
 have hk4' : Same w3 w4 := (Kept.refl _ _).drew.trans hk4
 have HB4 := hid (HB3.out.same hk4')
 have HK4 := hid (HK3.out.trans hk4')
 clear hf4 ho4 hk4 hk4'
 refine hK.out _ _ (fun _ => trivial) ?_
 clear hK K
 try simp only [Act.put, sA, s0, sS]
 refine wpAnyV_one (i := 3) (by kernel_rfl) rfl (fun K hK => ?_)
 have hl16 : (List.replicate 12 (0 : Int) ++ lows n 4).length = 16 := by rw [List.length_append, List.length_replicate, lows_length]
 have hcl : (cont (List.replicate 12 0 ++ lows n 4) (List.replicate 4096 0)).length = 4096 := by rw [cont_length _ _ (by rw [hl16, List.length_replicate]; decide), List.length_replicate]
 refine step_copy_blk (by rfl) _ _ 22 (by rfl) Tryz.underlying22 byte_size (vals .u8 (lows 4096 2)) HB4.out (by rfl) (by rfl) (by rw [vals_length, lows_length]; decide) (own_cells HO4.out (by rw [lows_length])) (by rw [vals_length, vals_length, lows_length, hcl]; decide) vals_one ?_
 have hb5 := Blk.more 16 (lows 4096 2) (HB4.out.setCells (vals .u8 (lows 4096 2)) 16 (by rw [vals_length, vals_length, lows_length, hcl]; decide)) hl16.symm (by rw [hl16, List.length_replicate, lows_length]; decide)
 rw [newB_cont] at hb5
 have hk5 := Kept.setCells (R := fun _ => False) (a := w) (B := w.heap.size) (.inl (Nat.le_refl _)) (vals .u8 (lows 4096 2)) 16 HK4.out
 obtain ⟨w5, hw5⟩ : ∃ w5, w4.setCells w.heap.size 16 (vals .u8 (lows 4096 2)) = w5 := ⟨_, rfl⟩
 rw [hw5] at hb5 hk5 ⊢
 have hO5 := Blk.own hb5 (by rw [newB_length]; decide)
 rw [newB_length] at hO5
 have HK5 := (show Hid (Same w w5) from hk5)
 have hSe := specSeal_any (.slice (some ⟨w.heap.size, 0, none⟩) 4096 4096) (newB n) w5 (newB_isB n) (by rw [newB_length]; decide) hO5.rd
 clear hw5 hb5 hk5 HB4 HK4 HO4 HB3 HK3 hO5
 show K (Act.put _ (some 20) (goInt (vals .u8 (lows 4096 2)).length)) _
 refine hK.out _ _ (fun _ => trivial) ?_
 clear hK K hS
 refine wpAnyV_done (by kernel_rfl) ?_
 try simp only [Act.put, sA, s0, sS]
 go_wp2_with fail
 with_reducible refine hSe.mono ?_
 rintro e w6 ⟨a6, c6, rfl, hf6, ho6, hk6⟩
 have hz5 := HK5.out.size
 go_wp2
 go_ret
 exact ⟨a6, c6, rfl, fun b hb => Nat.le_trans hz5 (hf6 b hb), ho6, HK5.out.trans hk6⟩
theorem specNew_any (n : Int) (w : World) :
  Calls Tryz.prog 83 #[.int .i64 n] w fun e w' => ∃ a c, e = .returned (.slice a (pageNew n).length c) ∧ (∀ b, (Value.slice a (pageNew n).length c).ownBlock = some b → w.heap.size ≤ b) ∧
   Own 0 5 .u8 w' (.slice a (pageNew n).length c) (pageNew n) ∧ Same w w' := by
 by_cases h : n < 0 ∨ 16 ≤ n
 ·have hR : pageNew n = [] := by unfold pageNew; rw [if_pos h]
  rw [hR]
  rcases h with h | h <;>
  (go_enter Tryz.func83, Tryz.ntmps83
   go_wp2
   go_ret
   exact ⟨some ⟨w.heap.size, 0, none⟩, 0, rfl, fun b hb => by simp [Value.ownBlock] at hb; omega, Own.empty _ _, (Kept.refl _ _).alloc _⟩)
 ·exact specNew_yes n w (by omega) (by omega)
theorem implWhole_any (v : Value) (bs : List Int) (w : World) (hB : IsB bs) (hn : bs.length ≤ 1099511627776) (hv : Rd .u8 w v bs) :
  Calls Tryz.prog 18 #[v] w fun e w' => e = .returned (.bool (pageWhole bs)) ∧ Same w w' := by
 obtain ⟨a, c, rfl⟩ := hv.form
 by_cases hl : bs.length = 4096
 ·have hR : pageWhole bs = (sealB bs == bs) := by unfold pageWhole; rw [hl]; rfl
  have hsl : (sealB bs).length = 4096 := by rw [sealB_length _ (by omega), hl]
  obtain ⟨b, off, rfl, hc⟩ := rd_some hv (by omega)
  have hrg := rd_range hv (by omega)
  have hcl := vals_length .u8 bs
  have hI : (Tryz.prog.info? 71).map (·.size) = some (vals .u8 bs).length := by rw [hcl, hl]; exact page_info
  have hSd := sealed_any bs w.drew hB hl
  have heq := fun w => run_eql_pages w (sealB bs) bs hsl hl
  obtain ⟨cs, hcs⟩ : ∃ cs : List Value, vals .u8 bs = cs := ⟨_, rfl⟩
  obtain ⟨ds, hds⟩ : ∃ ds : Array Value, (vals .u8 (sealB bs)).toArray = ds := ⟨_, rfl⟩
  rw [hcs] at hSd hrg hI heq
  rw [hds] at hSd heq
  rw [hR, hl]
  obtain ⟨r, hr⟩ : ∃ r, (sealB bs == bs) = r := ⟨_, rfl⟩
  rw [hr] at heq ⊢
  have harr := run_arrayP
  clear hcs hds hcl hv hB hn hR hsl hr hl
  go_enter Tryz.func18, Tryz.ntmps18
  go_wp2_with fail
  have hS : (fun wx : World => wx.rangeAt b off cs) w.drew := by exact Kept.ranges (Kept.refl _ _).drew hrg
  refine wp_region_V (fun wx : World => wx.rangeAt b off cs) 99 14 rfl (by kernel_rfl) ?_
  refine tk 0 3 hS ?_
  refine tk 1 4 hS ?_
  refine tk 2 5 hS ?_
  refine tk 3 6 hS ?_
  refine tk 4 7 hS ?_
  refine tk 5 8 hS ?_
  refine wpAnyV_take (i := 6) (v := .agg cs.toArray) (some 9) rfl rfl (by kernel_rfl) (by kernel_rfl) (by kernel_rfl) (by kernel_rfl) (fun _ _ _ h => h) (yieldsIf_load_mid (by rfl) 71 _ rfl b off rfl cs _ (fun _ h => h) Tryz.underlying71 rfl hI) hS ?_
  try simp only [Act.put, sA, s0, sS]
  refine tk 8 11 hS ?_
  refine tk 9 12 hS ?_
  refine wpAnyV_take (i := 10) (v := .agg cs.toArray) (some 13) rfl rfl (by kernel_rfl) (by kernel_rfl) (by kernel_rfl) (by kernel_rfl) (fun _ _ _ h => h) (yieldsIf_load_mid (by rfl) 71 _ rfl b off rfl cs _ (fun _ h => h) Tryz.underlying71 rfl hI) hS ?_
  try simp only [Act.put, sA, s0, sS]
  refine wpAnyV_one (i := 7) (by kernel_rfl) rfl (fun K hK => ?_)
  go_simp
  with_reducible refine hSd.mono ?_
  rintro e w2 ⟨rfl, hkk⟩
  have hk2 : Same w w2 := (Kept.refl _ _).drew.trans hkk
  have hS2 : (fun wx : World => wx.rangeAt b off cs) w2 := Kept.ranges hk2 hrg
  refine hK.out _ _ (fun _ => hS2) ?_
  clear hK K
  try simp only [Act.put, sA, s0, sS]
  refine tk 11 14 hS2 ?_
  refine tk 12 15 hS2 ?_
  refine tk 13 2 hS2 ?_
  refine wpAnyV_done (by kernel_rfl) ?_
  go_wp2
  go_ret
  exact ⟨rfl, hk2⟩
 ·have hR : pageWhole bs = false := by unfold pageWhole; simp [hl]
  rw [hR]
  have hl' : ¬ (bs.length : Int) = 4096 := by omega
  clear hv hB
  go_enter Tryz.func18, Tryz.ntmps18
  go_wp2
  go_quiet (fail)
  go_wp2
  go_ret
  exact ⟨rfl, (Kept.refl _ _).drewN _⟩
end Go.Proofs.YtdbpaadndaoihaaGreatDoor
