import Derived.Test.YtepdakgfioffgaaGreatG01
import Derived.Test.YtepdakgfioffgaaGreatG00
import Derived.Test.YtepdakgfioffgaaGreatG29
import Derived.Test.YtepdakgfioffgaaGreatG21
import Derived.Test.YtepdakgfioffgaaGreatG13
import Derived.Deep.DeepCutAuto
import Derived.Deep.RegionHeld3
namespace Go.Proofs.YtepdakgfioffgaaGreat
set_option linter.unusedVariables false
set_option linter.unusedSimpArgs false
set_option maxHeartbeats 4000000
set_option maxRecDepth 100000
open Go.RowKit
structure StAnalysis where
 code : Int
 frs : Int
 endL : Int
 nT : Int
 txns : FR
 dirty : FR
 img : FR
def StAnalysis.val (x : StAnalysis) : Value := .agg #[.int .i64 x.code, .int .i64 x.frs, .int .i64 x.endL, .int .i64 x.nT, x.txns.v, x.dirty.v, x.img.v]
def StAnalysis.rows (x : StAnalysis) : List Row := (x.txns).rows 4 ++ ((x.dirty).rows 2 ++ ((x.img).rows 1))
def StAnalysis.dat (x : StAnalysis) : Int × Int × Int × Int × List Int × List Int × List Int := (x.code, x.frs, x.endL, x.nT, x.txns.bs, x.dirty.bs, x.img.bs)
def StAnalysis.size (x : StAnalysis) : Int := (x.txns.bs.length : Int) + (x.dirty.bs.length : Int) + (x.img.bs.length : Int)
theorem StAnalysis.size_le (x : StAnalysis) : 0 ≤ x.size := by
 unfold StAnalysis.size
 omega
def StAnalysis.marked (x : StAnalysis) (k : Int) : StAnalysis := ⟨x.code, x.frs, x.endL, x.nT, x.txns.marked (k), x.dirty.marked (k + (x.txns.bs.length : Int)), x.img.marked (k + (x.txns.bs.length : Int) + (x.dirty.bs.length : Int))⟩
theorem StAnalysis.foot_marked (x : StAnalysis) (k : Int) (b : Nat) : FootL (x.marked k).rows b ↔ FootL x.rows b := by
 simp only [StAnalysis.rows, FootL_append]
 exact or_congr (FR.foot_marked 4 _ _ b) (or_congr (FR.foot_marked 2 _ _ b) (FR.foot_marked 1 _ _ b))
def StAnalysis.rd (w : World) (x : StAnalysis) : Prop := RdF 4 w x.txns ∧ RdF 2 w x.dirty ∧ RdF 1 w x.img
theorem StAnalysis.rd.kept {R : Nat → Prop} {w w' : World} {x : StAnalysis} (h : StAnalysis.rd w x) (hk : Kept R w w') (hr : ∀ b, FootL x.rows b → ¬ R b) : StAnalysis.rd w' x :=
 ⟨RdF.kept (h.1) hk (fun b hb => hr b ((FootL_append _ _ _).2 (.inl ((FootL_one _ _).2 hb)))), RdF.kept (h.2.1) hk (fun b hb => hr b ((FootL_append _ _ _).2 (.inr ((FootL_append _ _ _).2 (.inl ((FootL_one _ _).2 hb)))))), RdF.kept (h.2.2) hk (fun b hb => hr b ((FootL_append _ _ _).2 (.inr ((FootL_append _ _ _).2 (.inr (((FootL_one _ _).2 hb)))))))⟩
theorem StAnalysis.rd.same {w w' : World} {x : StAnalysis} (h : StAnalysis.rd w x) (hk : Same w w') : StAnalysis.rd w' x := h.kept hk (fun _ _ => id)
theorem StAnalysis.own_rd {w : World} {x : StAnalysis} (h : OwnL w x.rows) : StAnalysis.rd w x :=
 ⟨(FR.own_rd h.left), (FR.own_rd h.right.left), (FR.own_rd h.right.right)⟩
def StAnalysis.szs (x : StAnalysis) : Int := (x.txns.n : Int) + (x.dirty.n : Int) + (x.img.n : Int)
theorem StAnalysis.szs_le (x : StAnalysis) : 0 ≤ x.szs := by
 unfold StAnalysis.szs
 omega
set_option maxRecDepth 100000 in
set_option maxHeartbeats 4000000 in
theorem eqAnalysis_own (x y : StAnalysis) (w : World) (hn : x.size ≤ 1125899906842624) (hd : x.dat = y.dat) (ha : OwnL w x.rows) (hb : OwnL w y.rows) :
  Calls Tryz.prog 8 #[x.val, y.val] w fun e w' => e = .returned (.bool true) ∧ Same w w' := by
 obtain ⟨gR, jz, gQ, ez, ⟨gu, dM, du, dL, dK⟩, ⟨fI, cZ, cJ, dd, dX⟩, ⟨iH, dU, dF, dV, gT⟩⟩ := x
 obtain ⟨MK, Ui, Nt, jY, ⟨pW, jV, jA, jW, E2⟩, ⟨oe, iX, ip, iU, Di⟩, ⟨rD, jU, jJ, jX, JO⟩⟩ := y
 simp only [StAnalysis.dat, Prod.mk.injEq] at hd
 obtain ⟨rfl, rfl, rfl, rfl, rfl, rfl, rfl⟩ := hd
 simp only [StAnalysis.size] at hn
 have yJ := (show Hid (OwnL w [⟨gu, 4, .slice dM du dL, du, vals .i64 dK⟩]) from ha.left)
 have yR := (show Hid (OwnL w [⟨pW, 4, .slice jV jA jW, jA, vals .i64 dK⟩]) from hb.left)
 have IR := (show Hid (OwnL w [⟨fI, 2, .slice cZ cJ dd, cJ, vals .i64 dX⟩]) from ha.right.left)
 have Jl := (show Hid (OwnL w [⟨oe, 2, .slice iX ip iU, ip, vals .i64 dX⟩]) from hb.right.left)
 have Je := (show Hid (OwnL w [⟨iH, 1, .slice dU dF dV, dF, vals .i64 gT⟩]) from ha.right.right)
 have Jz := (show Hid (OwnL w [⟨rD, 1, .slice jU jJ jX, jJ, vals .i64 gT⟩]) from hb.right.right)
 clear ha hb
 dsimp only [StAnalysis.val, BS.v, FR.v]
 go_enter Tryz.func8, Tryz.ntmps8
 have ep : Same w ((w.alloc (.cells #[.int .i64 gR, .int .i64 jz, .int .i64 gQ, .int .i64 ez, .slice dM du dL, .slice cZ cJ dd, .slice dU dF dV] 30)).alloc (.cells #[.int .i64 gR, .int .i64 jz, .int .i64 gQ, .int .i64 ez, .slice jV jA jW, .slice iX ip iU, .slice jU jJ jX] 30)) := ((Kept.refl _ _).alloc _).alloc _
 have bk := (show Hid (Same w _) from ep)
 have mK := (show Hid (Blk ((w.alloc (.cells #[.int .i64 gR, .int .i64 jz, .int .i64 gQ, .int .i64 ez, .slice dM du dL, .slice cZ cJ dd, .slice dU dF dV] 30)).alloc (.cells #[.int .i64 gR, .int .i64 jz, .int .i64 gQ, .int .i64 ez, .slice jV jA jW, .slice iX ip iU, .slice jU jJ jX] 30)) w.heap.size 30 [.int .i64 gR, .int .i64 jz, .int .i64 gQ, .int .i64 ez, .slice dM du dL, .slice cZ cJ dd, .slice dU dF dV]) from (Blk.new w #[.int .i64 gR, .int .i64 jz, .int .i64 gQ, .int .i64 ez, .slice dM du dL, .slice cZ cJ dd, .slice dU dF dV] 30).alloc _)
 have mR := (show Hid (Blk ((w.alloc (.cells #[.int .i64 gR, .int .i64 jz, .int .i64 gQ, .int .i64 ez, .slice dM du dL, .slice cZ cJ dd, .slice dU dF dV] 30)).alloc (.cells #[.int .i64 gR, .int .i64 jz, .int .i64 gQ, .int .i64 ez, .slice jV jA jW, .slice iX ip iU, .slice jU jJ jX] 30)) (w.heap.size + 1) 30 [.int .i64 gR, .int .i64 jz, .int .i64 gQ, .int .i64 ez, .slice jV jA jW, .slice iX ip iU, .slice jU jJ jX]) from by have h := Blk.new (w.alloc (.cells #[.int .i64 gR, .int .i64 jz, .int .i64 gQ, .int .i64 ez, .slice dM du dL, .slice cZ cJ dd, .slice dU dF dV] 30)) #[.int .i64 gR, .int .i64 jz, .int .i64 gQ, .int .i64 ez, .slice jV jA jW, .slice iX ip iU, .slice jU jJ jX] 30; rwa [World.size_alloc] at h)
 clear ep
 go_wp2_with fail
 refine (eqTxnEntryS_own ⟨gu, dM, du, dL, dK⟩ ⟨pW, jV, jA, jW, dK⟩ _ (by dsimp only; omega) rfl (yJ.out.same bk.out) (yR.out.same bk.out)).mono ?_
 rintro e w1 ⟨rfl, hk⟩
 have bq := hid (bk.out.trans hk)
 have kr := hid (mK.out.same hk)
 have kp := hid (mR.out.same hk)
 clear hk bk mK mR
 have QJ : w1.cell? ⟨w.heap.size, 5, none⟩ = some (.slice cZ cJ dd) := kr.out.cell 5
 have Pw : w1.cell? ⟨w.heap.size, 6, none⟩ = some (.slice dU dF dV) := kr.out.cell 6
 have OU : w1.cell? ⟨w.heap.size + 1, 5, none⟩ = some (.slice iX ip iU) := kp.out.cell 5
 have PH : w1.cell? ⟨w.heap.size + 1, 6, none⟩ = some (.slice jU jJ jX) := kp.out.cell 6
 go_wp2_with fail
 refine (eqDirtyEntryS_own ⟨fI, cZ, cJ, dd, dX⟩ ⟨oe, iX, ip, iU, dX⟩ _ (by dsimp only; omega) rfl (IR.out.same bq.out) (Jl.out.same bq.out)).mono ?_
 rintro e w2 ⟨rfl, hk⟩
 have cw := hid (bq.out.trans hk)
 have mC := hid (kr.out.same hk)
 have mL := hid (kp.out.same hk)
 clear hk bq kr kp
 have Qq : w2.cell? ⟨w.heap.size, 6, none⟩ = some (.slice dU dF dV) := mC.out.cell 6
 have Nw : w2.cell? ⟨w.heap.size + 1, 6, none⟩ = some (.slice jU jJ jX) := mL.out.cell 6
 go_wp2_with fail
 refine (eqInt64SF_own ⟨iH, dU, dF, dV, gT⟩ ⟨rD, jU, jJ, jX, gT⟩ _ (by dsimp only; omega) rfl (Je.out.same cw.out) (Jz.out.same cw.out)).mono ?_
 rintro e w3 ⟨rfl, hk⟩
 have dZ := hid (cw.out.trans hk)
 have sN := hid (mC.out.same hk)
 have rM := hid (mL.out.same hk)
 clear hk cw mC mL
 go_wp2
 go_ret
 exact ⟨rfl, dZ.out⟩
structure AnM (w wr : World) (O : Nat) (fr en : Int) (s : AzS) (ta : Option Addr) (tn tc : Nat) (da : Option Addr) (dn dc : Nat) (ia : Option Addr) (il ic : Nat) : Prop where
 own4 : OwQ 4 57 wr ta tn tc (flat4 s.tx)
 own2 : OwQ 2 60 wr da dn dc (flat2 s.dy)
 own1 : OwQ 1 2 wr ia il ic s.im
 f4 : ∀ b, (Value.slice ta tn tc).ownBlock = some b → O < b
 f2 : ∀ b, (Value.slice da dn dc).ownBlock = some b → O < b
 f1 : ∀ b, (Value.slice ia il ic).ownBlock = some b → O < b
 ap42 : ∀ b, (Value.slice ta tn tc).ownBlock = some b → (Value.slice da dn dc).ownBlock = some b → False
 ap41 : ∀ b, (Value.slice ta tn tc).ownBlock = some b → (Value.slice ia il ic).ownBlock = some b → False
 ap21 : ∀ b, (Value.slice da dn dc).ownBlock = some b → (Value.slice ia il ic).ownBlock = some b → False
 keep : Same w wr
 low : w.heap.size ≤ O
 box : Blk wr O 30 [.int .i64 0, .int .i64 fr, .int .i64 en, .int .i64 s.nx, .slice ta tn tc, .slice da dn dc, .slice ia il ic]
theorem ownBlkA (g n c : Nat) : (Value.slice (some ⟨g, 0, none⟩) n c).ownBlock = some g := rfl
section
variable {w wr wx : World} {O : Nat} {fr en : Int} {s : AzS} {ta : Option Addr} {tn tc : Nat} {da : Option Addr} {dn dc : Nat} {ia : Option Addr} {il ic : Nat}
theorem AnM.same (h : AnM w wr O fr en s ta tn tc da dn dc ia il ic) (hk : Same wr wx) : AnM w wx O fr en s ta tn tc da dn dc ia il ic :=
 ⟨h.own4.same hk, h.own2.same hk, h.own1.same hk, h.f4, h.f2, h.f1, h.ap42, h.ap41, h.ap21, h.keep.trans hk, h.low, h.box.same hk⟩
theorem AnM.len4 (h : AnM w wr O fr en s ta tn tc da dn dc ia il ic) : s.tx.length = tn := by have := h.own4.len; rw [flat4_length] at this; omega
theorem AnM.len2 (h : AnM w wr O fr en s ta tn tc da dn dc ia il ic) : s.dy.length = dn := by have := h.own2.len; rw [flat2_length] at this; omega
theorem AnM.len1 (h : AnM w wr O fr en s ta tn tc da dn dc ia il ic) : s.im.length = il := by have := h.own1.len; omega
theorem AnM.boxed (h : AnM w wr O fr en s ta tn tc da dn dc ia il ic) (j : Nat) (v : Value) : Kept (fun b => b = O) wr (wr.setCell ⟨O, j, none⟩ v) := Kept.setCell (R := fun b => b = O) (Kept.refl _ _) (p := ⟨O, j, none⟩) (.inr rfl) _
theorem AnM.setNx (h : AnM w wr O fr en s ta tn tc da dn dc ia il ic) (x : Int) : AnM w (wr.setCell ⟨O, 3, none⟩ (.int .i64 x)) O fr en { s with nx := x } ta tn tc da dn dc ia il ic := by
 have hk := h.boxed 3 (.int .i64 x)
 have hl := h.low
 exact ⟨h.own4.kept hk (fun b hb e => by have := h.f4 b hb; omega), h.own2.kept hk (fun b hb e => by have := h.f2 b hb; omega), h.own1.kept hk (fun b hb e => by have := h.f1 b hb; omega), h.f4, h.f2, h.f1, h.ap42, h.ap41, h.ap21, h.keep.next hk (fun b hb e => by omega), h.low, h.box.stored 3 _⟩
theorem AnM.setFr (h : AnM w wr O fr en s ta tn tc da dn dc ia il ic) (x : Int) : AnM w (wr.setCell ⟨O, 1, none⟩ (.int .i64 x)) O x en s ta tn tc da dn dc ia il ic := by
 have hk := h.boxed 1 (.int .i64 x)
 have hl := h.low
 exact ⟨h.own4.kept hk (fun b hb e => by have := h.f4 b hb; omega), h.own2.kept hk (fun b hb e => by have := h.f2 b hb; omega), h.own1.kept hk (fun b hb e => by have := h.f1 b hb; omega), h.f4, h.f2, h.f1, h.ap42, h.ap41, h.ap21, h.keep.next hk (fun b hb e => by omega), h.low, h.box.stored 1 _⟩
theorem AnM.setEn (h : AnM w wr O fr en s ta tn tc da dn dc ia il ic) (x : Int) : AnM w (wr.setCell ⟨O, 2, none⟩ (.int .i64 x)) O fr x s ta tn tc da dn dc ia il ic := by
 have hk := h.boxed 2 (.int .i64 x)
 have hl := h.low
 exact ⟨h.own4.kept hk (fun b hb e => by have := h.f4 b hb; omega), h.own2.kept hk (fun b hb e => by have := h.f2 b hb; omega), h.own1.kept hk (fun b hb e => by have := h.f1 b hb; omega), h.f4, h.f2, h.f1, h.ap42, h.ap41, h.ap21, h.keep.next hk (fun b hb e => by omega), h.low, h.box.stored 2 _⟩
theorem AnM.setT (h : AnM w wr O fr en s ta tn tc da dn dc ia il ic) (hs : Same wr wx) {a' : Option Addr} {n' c' : Nat} {tx' : List Q4} (ho : OwQ 4 57 wx a' n' c' (flat4 tx')) (hb : ∀ b, (Value.slice a' n' c').ownBlock = some b → wr.heap.size ≤ b) :
  AnM w (wx.setCell ⟨O, 4, none⟩ (.slice a' n' c')) O fr en { s with tx := tx' } a' n' c' da dn dc ia il ic := by
 have hO := h.box.lt
 have g := h.same hs
 have hk := g.boxed 4 (.slice a' n' c')
 have hl := h.low
 exact ⟨ho.kept hk (fun b h1 e => by have := hb b h1; omega), g.own2.kept hk (fun b hb e => by have := h.f2 b hb; omega), g.own1.kept hk (fun b hb e => by have := h.f1 b hb; omega), fun b h1 => by have := hb b h1; omega, h.f2, h.f1,
  fun b h1 h2 => by have := hb b h1; have := h.own2.lt b h2; omega, fun b h1 h2 => by have := hb b h1; have := h.own1.lt b h2; omega, h.ap21, g.keep.next hk (fun b hb e => by omega), h.low, g.box.stored 4 _⟩
theorem AnM.setD (h : AnM w wr O fr en s ta tn tc da dn dc ia il ic) (hs : Same wr wx) {a' : Option Addr} {n' c' : Nat} {dy' : List (Int × Int)} (ho : OwQ 2 60 wx a' n' c' (flat2 dy')) (hb : ∀ b, (Value.slice a' n' c').ownBlock = some b → (Value.slice da dn dc).ownBlock = some b ∨ wr.heap.size ≤ b) :
  AnM w (wx.setCell ⟨O, 5, none⟩ (.slice a' n' c')) O fr en { s with dy := dy' } ta tn tc a' n' c' ia il ic := by
 have hO := h.box.lt
 have g := h.same hs
 have hk := g.boxed 5 (.slice a' n' c')
 have hl := h.low
 have hf : ∀ b, (Value.slice a' n' c').ownBlock = some b → O < b := fun b h1 => by
  rcases hb b h1 with h2 | h2
  ·exact h.f2 b h2
  ·omega
 exact ⟨g.own4.kept hk (fun b hb e => by have := h.f4 b hb; omega), ho.kept hk (fun b h1 e => by have := hf b h1; omega), g.own1.kept hk (fun b hb e => by have := h.f1 b hb; omega), h.f4, hf, h.f1,
  fun b h1 h2 => by
   rcases hb b h2 with h3 | h3
   ·exact h.ap42 b h1 h3
   ·have := h.own4.lt b h1; omega,
  h.ap41, fun b h1 h2 => by
   rcases hb b h1 with h3 | h3
   ·exact h.ap21 b h3 h2
   ·have := h.own1.lt b h2; omega,
  g.keep.next hk (fun b hb e => by omega), h.low, g.box.stored 5 _⟩
theorem AnM.setI (h : AnM w wr O fr en s ta tn tc da dn dc ia il ic) (hs : Same wr wx) {a' : Option Addr} {n' c' : Nat} {NM : List Int} (ho : OwQ 1 2 wx a' n' c' NM) (hb : ∀ b, (Value.slice a' n' c').ownBlock = some b → (Value.slice ia il ic).ownBlock = some b ∨ wr.heap.size ≤ b) :
  AnM w (wx.setCell ⟨O, 6, none⟩ (.slice a' n' c')) O fr en { s with im := NM } ta tn tc da dn dc a' n' c' := by
 have hO := h.box.lt
 have g := h.same hs
 have hk := g.boxed 6 (.slice a' n' c')
 have hl := h.low
 have hf : ∀ b, (Value.slice a' n' c').ownBlock = some b → O < b := fun b h1 => by
  rcases hb b h1 with h2 | h2
  ·exact h.f1 b h2
  ·omega
 exact ⟨g.own4.kept hk (fun b hb e => by have := h.f4 b hb; omega), g.own2.kept hk (fun b hb e => by have := h.f2 b hb; omega), ho.kept hk (fun b h1 e => by have := hf b h1; omega), h.f4, h.f2, hf,
  h.ap42, fun b h1 h2 => by
   rcases hb b h2 with h3 | h3
   ·exact h.ap41 b h1 h3
   ·have := h.own4.lt b h1; omega,
  fun b h1 h2 => by
   rcases hb b h2 with h3 | h3
   ·exact h.ap21 b h1 h3
   ·have := h.own2.lt b h1; omega,
  g.keep.next hk (fun b hb e => by omega), h.low, g.box.stored 6 _⟩
theorem AnM.setQ {g : Nat} (h : AnM w wr O fr en s (some ⟨g, 0, none⟩) tn tc da dn dc ia il ic) (j : Nat) (x : Int) {tx' : List Q4} (e : (flat4 s.tx).set j x = flat4 tx') : AnM w (wr.setCell ⟨g, j, none⟩ (.int .i64 x)) O fr en { s with tx := tx' } (some ⟨g, 0, none⟩) tn tc da dn dc ia il ic := by
 have hk : Kept (fun b => b = g) wr (wr.setCell ⟨g, j, none⟩ (.int .i64 x)) := Kept.setCell (R := fun b => b = g) (Kept.refl _ _) (p := ⟨g, j, none⟩) (.inr rfl) _
 have hg := h.f4 g (ownBlkA _ _ _)
 have hl := h.low
 have ho : OwnF 4 57 wr g tn tc (flat4 s.tx) := h.own4
 refine ⟨?_, h.own2.kept hk (fun b hb e => by subst e; exact h.ap42 _ (ownBlkA _ _ _) hb), h.own1.kept hk (fun b hb e => by subst e; exact h.ap41 _ (ownBlkA _ _ _) hb), h.f4, h.f2, h.f1, h.ap42, h.ap41, h.ap21, h.keep.next hk (fun b hb e => by omega), h.low, h.box.kept hk (fun e => by omega)⟩
 have := ho.stored j x
 rw [e] at this
 exact this
theorem AnM.answer (h : AnM w wr O fr en s ta tn tc da dn dc ia il ic) : OwnL wr (StAnalysis.rows ⟨0, fr, en, s.nx, ⟨57, ta, tn, tc, flat4 s.tx⟩, ⟨60, da, dn, dc, flat2 s.dy⟩, ⟨2, ia, il, ic, s.im⟩⟩) :=
 h.own4.rows.append (h.own2.rows.append h.own1.rows (fun b h1 h2 => h.ap21 b ((FootL_one _ _).1 h1) ((FootL_one _ _).1 h2))) (fun b h1 h2 => by
  rcases (FootL_append _ _ _).1 h2 with h2 | h2
  ·exact h.ap42 b ((FootL_one _ _).1 h1) ((FootL_one _ _).1 h2)
  ·exact h.ap41 b ((FootL_one _ _).1 h1) ((FootL_one _ _).1 h2))
theorem AnM.foot (h : AnM w wr O fr en s ta tn tc da dn dc ia il ic) (b : Nat) (hb : FootL (StAnalysis.rows ⟨0, fr, en, s.nx, ⟨57, ta, tn, tc, flat4 s.tx⟩, ⟨60, da, dn, dc, flat2 s.dy⟩, ⟨2, ia, il, ic, s.im⟩⟩) b) : O < b := by
 rcases (FootL_append _ _ _).1 hb with hb | hb
 ·exact h.f4 b ((FootL_one _ _).1 hb)
 rcases (FootL_append _ _ _).1 hb with hb | hb
 ·exact h.f2 b ((FootL_one _ _).1 hb)
 ·exact h.f1 b ((FootL_one _ _).1 hb)
theorem AnM.entry (h : AnM w wr O fr en s ta tn tc da dn dc ia il ic) {pre post : List Q4} {a st l u : Int} (e : s.tx = pre ++ (a, st, l, u) :: post) : ∃ g, ta = some ⟨g, 0, none⟩ ∧ tn ≤ tc ∧ pre.length < tn ∧ g < wr.heap.size ∧ O < g ∧ wr.cell? ⟨g, pre.length * 4, none⟩ = some (.int .i64 a) ∧ wr.cell? ⟨g, pre.length * 4 + 1, none⟩ = some (.int .i64 st) ∧ wr.cell? ⟨g, pre.length * 4 + 2, none⟩ = some (.int .i64 l) ∧ wr.cell? ⟨g, pre.length * 4 + 3, none⟩ = some (.int .i64 u) ∧ ∀ j, wr.frozen? ⟨g, j, none⟩ = false := by
 have hl := h.len4
 have hp : pre.length < s.tx.length := by rw [e]; simp
 obtain ⟨g, rfl, hc, hm, ho⟩ := h.own4.form (by omega)
 have h4 := flat4_at s.tx pre.length hp
 have hq : s.tx.getD pre.length q4z = (a, st, l, u) := by rw [e]; simp [List.getD]
 rw [hq] at h4
 refine ⟨g, rfl, hc, by omega, h.own4.lt g (ownBlkA _ _ _), h.f4 g (ownBlkA _ _ _), ?_, ?_, ?_, ?_, fun j => ho.frozen j⟩
 ·rw [ho.cell _ (by omega), h4.1]
 ·rw [ho.cell _ (by omega), h4.2.1]
 ·rw [ho.cell _ (by omega), h4.2.2.1]
 ·rw [ho.cell _ (by omega), h4.2.2.2]
end
theorem flat4_mid (pre post : List Q4) (a st l u x : Int) : (flat4 (pre ++ (a, st, l, u) :: post)).set (pre.length * 4 + 1) x = flat4 (pre ++ (a, x, l, u) :: post) ∧ (flat4 (pre ++ (a, st, l, u) :: post)).set (pre.length * 4 + 2) x = flat4 (pre ++ (a, st, x, u) :: post) ∧ (flat4 (pre ++ (a, st, l, u) :: post)).set (pre.length * 4 + 3) x = flat4 (pre ++ (a, st, l, x) :: post) := by
 have hl := flat4_length pre
 simp only [flat4_append, flat4]
 refine ⟨?_, ?_, ?_⟩
 ·rw [List.set_append_right (h := by omega), show pre.length * 4 + 1 - (flat4 pre).length = 1 from by omega]; rfl
 ·rw [List.set_append_right (h := by omega), show pre.length * 4 + 2 - (flat4 pre).length = 2 from by omega]; rfl
 ·rw [List.set_append_right (h := by omega), show pre.length * 4 + 3 - (flat4 pre).length = 3 from by omega]; rfl
theorem wp_bsA {P : Program} {id : Nat} {o1 o2 : Oper} {Q : Exit → Act → World → Prop} {a : Act} {w : World} (d : Nat) (ty : TypeId) (parts : Array (Nat × Operand)) (x : Operand) (Z : Nat) (cells : Array Value)
  (h1 : o1.op = .build ty parts) (g1 : o1.guard = none) (d1 : o1.dst = some d) (h2 : o2.op = .store ty x (.tmp d)) (g2 : o2.guard = none) (d2 : o2.dst = none)
  (hb : ∀ wx, (execOp a.eval o1).run P wx = .ok (.value (.agg cells)) wx) (hx : (a.put (some d) (.agg cells)).eval x = .pointer (some ⟨Z, 0, none⟩)) (hy : (a.put (some d) (.agg cells)).eval (.tmp d) = .agg cells)
  (ht : w.there Z 0 cells.size) (hi : (P.info? ty).map (·.size) = some cells.size) (hc : cells.all (·.oneCell') = true)
  (h : Q .normal (a.put (some d) (.agg cells)) (w.setCells Z 0 cells.toList)) : (Code.region id #[o1, o2] false).wp P Q a w := by
 refine wp_region_lit (l := [o1, o2]) ?_
 refine wpList_plain g1 (fun K hK => ?_)
 unfold Oper.wp
 rw [hb]
 refine hK _ _ ?_
 rw [d1]
 refine wpList_store_mid g2 ty x (.tmp d) h2 Z 0 cells hx hy ht hi hc ?_
 rw [d2]
 exact h
theorem infoAn : (Tryz.prog.info? 30).map (·.size) = some 7 := by kernel_rfl
theorem endZA {fn : Func} {p : Tmp} {ty : TypeId} {tmps : Array Value} {P : Program} {w : World} {Z : Nat} {cs : List Value} {d : TypeDesc} (h : fn.results = #[.cell p ty]) (hp : tmps.getD p undef = .pointer (some ⟨Z, 0, none⟩)) (hc : w.rangeAt Z 0 cs)
  (hu : P.underlying ty = some d) (hd : d.isRow = true) (hi : (P.info? ty).map (·.size) = some cs.length) : (results fn tmps).run P w = .ok (.agg cs.toArray) w := by
 rw [Array.getD_eq_getD_getElem?] at hp
 simp only [results, h]
 simp [Sem.run_bind, Result.andThen, hp, asAddr, run_loadVar_mid w Z 0 ty cs d hc hu hd hi]
theorem blk_putA {w : World} {Z : Nat} {e : TypeId} {xs : List Value} (h : Blk w Z e xs) (vs : List Value) (hl : vs.length = xs.length) : Blk (w.setCells Z 0 vs) Z e vs := by
 have h1 := h.setCells vs 0 (by omega)
 rwa [lay_all _ _ (by omega)] at h1
def cA (c : Int) : List Value := [.int .i64 c, .int .i64 0, .int .i64 0, .int .i64 0, .slice none 0 0, .slice none 0 0, .slice none 0 0]
def badA (c : Int) : StAnalysis := ⟨c, 0, 0, 0, ⟨57, none, 0, 0, []⟩, ⟨60, none, 0, 0, []⟩, ⟨2, none, 0, 0, []⟩⟩
theorem badA_foot (c : Int) (b : Nat) (h : FootL (badA c).rows b) : False := by
 have fF : ∀ (m : Nat) (e : TypeId) (b : Nat), ¬ FootL (FR.rows m ⟨e, none, 0, 0, []⟩) b := fun m e b h => by have h := (FootL_one _ _).1 h; simp [FR.v, Value.ownBlock] at h
 rcases (FootL_append _ _ _).1 h with h | h
 ·exact fF _ _ _ h
 rcases (FootL_append _ _ _).1 h with h | h
 ·exact fF _ _ _ h
 ·exact fF _ _ _ h
theorem badA_own (c : Int) (w : World) : OwnL w (badA c).rows := by
 have fF : ∀ (m : Nat) (e : TypeId) (b : Nat), ¬ FootL (FR.rows m ⟨e, none, 0, 0, []⟩) b := fun m e b h => by have h := (FootL_one _ _).1 h; simp [FR.v, Value.ownBlock] at h
 exact (OwQ.nil 4 _ w).rows.append ((OwQ.nil 2 _ w).rows.append (OwQ.nil 1 _ w).rows (fun b h => (fF _ _ _ h).elim)) (fun b h => (fF _ _ _ h).elim)
theorem run_app0 {TS TE ty : TypeId} {i : TypeInfo} {z : Value} {m bytes : Nat} (ht : Tryz.prog.underlying TS = some (.slice TE)) (hi : Tryz.prog.info? TE = some i) (j9 : i.zero = some z) (j0 : i.size = m) (l9 : i.bytes = bytes) (Dl : z.cells.size = m) (hm : 0 < m) (uD : bytes ≤ 1024)
  {w : World} {e : TypeId} {a : Option Addr} {n c : Nat} {bs : List Int} (hr : RdF m w ⟨e, a, n, c, bs⟩) (mj : n ≤ 1000000) :
  ∃ a' c' w', (Builtin.append_ #[TS, TS] ty #[.slice none 0 0, .slice a n c]).run Tryz.prog w = .ok (.slice a' n c') w' ∧ OwQ m TE w' a' n c' bs ∧ (∀ b, (Value.slice a' n c').ownBlock = some b → w.heap.size ≤ b) ∧ Same w w' := by
 have hl : bs.length = n * m := hr.2.1
 rcases hr.2.2 with h | ⟨b, off, ha, BP, jq⟩
 ·dsimp only at h
  subst h
  obtain rfl : bs = [] := List.length_eq_zero_iff.1 (by omega)
  refine ⟨none, 0, w, ?_, OwQ.nil _ _ _, fun b h => by simp [Value.ownBlock] at h, Kept.refl _ _⟩
  cases a with
  | none => simp [Builtin.append_, run_underlying ht, sizeOf, typeInfo, hi, Builtin.lenOf, Builtin.firstCells]
  | some a => simp [Builtin.append_, run_underlying ht, sizeOf, typeInfo, hi, Builtin.lenOf, Builtin.firstCells, loadCells, loadCellsFrom, Result.andThen]
 ·dsimp only at ha BP jq
  subst ha
  obtain ⟨a', c', w', h1, h2, h3⟩ := run_appQ (ty := ty) ht hi j9 j0 l9 Dl hm uD (OwQ.nil m TE w) ⟨b, off, none⟩ n c bs hl (fun j u hu => by
   have hj : j < bs.length := by have := (List.getElem?_eq_some_iff.1 hu).1; rwa [vals_length] at this
   rw [addr_add, jq j (by omega), ← hu, vals_at .i64 bs j hj]) (by omega)
  rw [Nat.zero_add] at h1 h2 h3
  rw [List.nil_append] at h2
  refine ⟨a', c', w', h1, h2, fun b hb => ?_, h3.kept.mono (fun b _ e => by simp [Value.ownBlock] at e)⟩
  rcases h3.own b hb with e | e
  ·simp [Value.ownBlock] at e
  ·exact e
theorem bad9 {w wr : World} {Z : Nat} (hZ : Blk wr Z 30 [.int .i64 0, .int .i64 0, .int .i64 0, .int .i64 0, .slice none 0 0, .slice none 0 0, .slice none 0 0]) (hk : Same w wr) (hz : w.heap.size < Z) (c : Int) : Hid (wr.there Z 0 7) ∧ Hid (Blk (wr.setCells Z 0 (cA c)) Z 30 (cA c)) ∧ Hid (Same w (wr.setCells Z 0 (cA c))) :=
 ⟨hZ.there 0 7 (by decide), blk_putA hZ (cA c) rfl, Kept.setCells (.inl (Nat.le_of_lt hz)) _ _ hk⟩
theorem six {W : World} {FB RB : Nat} {t u : TypeId} {fc rc : List Value} {X kd tx pv pg un : Value} (hF : Blk W FB t fc) (hR : Blk W RB u rc) (h : fc[0]? = some X ∧ rc[0]? = some kd ∧ rc[1]? = some tx ∧ rc[2]? = some pv ∧ rc[3]? = some pg ∧ rc[9]? = some un) :
  W.cell? ⟨RB, 0, none⟩ = some kd ∧ W.cell? ⟨RB, 1, none⟩ = some tx ∧ W.cell? ⟨RB, 2, none⟩ = some pv ∧ W.cell? ⟨RB, 3, none⟩ = some pg ∧ W.cell? ⟨RB, 9, none⟩ = some un ∧ W.cell? ⟨FB, 0, none⟩ = some X :=
 ⟨(hR.cell 0).trans h.2.1, (hR.cell 1).trans h.2.2.1, (hR.cell 2).trans h.2.2.2.1, (hR.cell 3).trans h.2.2.2.2.1, (hR.cell 9).trans h.2.2.2.2.2, (hF.cell 0).trans h.1⟩
section
variable {w wr wx : World} {lo : Nat} {la : Option Addr} {ln lc : Nat} {left : List Q4} {sa : Option Addr} {sn sc : Nat} {st : List U3}
theorem ownBlk (g n c : Nat) : (Value.slice (some ⟨g, 0, none⟩) n c).ownBlock = some g := rfl
end
theorem step_append_runQ {P : Program} {fi : Array Oper} {o : Oper} {a : Act} {w : World} {K : Act → World → Prop} {Q : Exit → Act → World → Prop} {E : Prop} (rf : o.guard = none) (s x : Operand) (t tn : TypeId)
  (ho : o.op = .call { callee := .builtin .append, args := #[s, x], argTypes := #[t, tn] }) (vs vx : Value) (hs : a.eval s = vs) (hx : a.eval x = vx)
  (v' : Value) (w' : World) (hr : (Builtin.append_ #[t, tn] o.type #[vs, vx]).run P w = .ok v' w') (h : K (a.put o.dst v') w') : if Region.wanted o (yielded fi a.tmps) = true then Oper.wp P o a w K Q else E := by
 have hw : Region.wanted o (yielded fi a.tmps) = true := by simp [Region.wanted, rf]
 rw [if_pos hw]
 unfold Oper.wp execOp
 simp only [ho, resolve, invoke, builtin, Sem.run_bind, Sem.run_pure, Result.andThen_ok, List.map_toArray, List.map_cons, List.map_nil, hs, hx, hr]
 exact h
theorem madeB (e : TypeId) (w : World) (base : Nat) (hb : base ≤ w.heap.size) : (w.alloc (.cells #[] e)).ownsRow base e 4 (.slice (some ⟨w.heap.size, 0, none⟩) 0 0) 0 (vals .i64 []) :=
 ⟨by simp [vals], .inr ⟨w.heap.size, 0, #[], rfl, hb, Blk.new w #[] e, Nat.le_refl _, Nat.zero_le _, by simp, by simp [vals]⟩⟩
theorem ownB_le {base : Nat} {e : TypeId} {w : World} {a : Option Addr} {n c : Nat} {xs : List Value} (h : w.ownsRow base e 4 (.slice a n c) n xs) : ∀ b, (Value.slice a n c).ownBlock = some b → base ≤ b := fun b hb => by
 rcases h.2 with ⟨h1, _⟩ | ⟨g, cap, cur, h1, h2, _⟩
 ·rw [h1] at hb; simp [Value.ownBlock] at hb
 ·rw [h1, ownBlk] at hb
  rw [← Option.some.inj hb]
  exact h2
theorem ownB_zero {base : Nat} {e : TypeId} {w : World} {a : Option Addr} {n c : Nat} {bs : List Int} (h : w.ownsRow base e 4 (.slice a n c) n (vals .i64 bs)) : OwQ 4 e w a n c bs := by
 refine ⟨h.1, ?_⟩
 rcases h.2 with h1 | ⟨g, cap, cur, h1, h2, h3⟩
 ·exact .inl h1
 ·exact .inr ⟨g, cap, cur, h1, Nat.zero_le _, h3⟩
theorem appB {base : Nat} {e : TypeId} {w : World} {a : Option Addr} {n c : Nat} {bs : List Int} (h : w.ownsRow base e 4 (.slice a n c) n (vals .i64 bs)) (Ba : base ≤ w.heap.size) {t ty : TypeId} (ht : Tryz.prog.underlying t = some (.slice e)) {i : TypeInfo} {z : Value} (hi : Tryz.prog.info? e = some i) (j9 : i.zero = some z) (j0 : i.size = 4) (l9 : i.bytes = 32) (Fo : z.cells.size = 4)
  (ad : Addr) (m c' : Nat) (news : List Int) (hl : news.length = m * 4) (hc : ∀ j, j < m * 4 → w.cell? (ad.add j) = some (.int .i64 (news.getD j 0))) (hm : n + m ≤ 1048576) :
  ∃ a' c2 w', (Builtin.append_ #[t, t] ty #[.slice a n c, .slice (some ad) m c']).run Tryz.prog w = .ok (.slice a' (n + m) c2) w' ∧ w'.ownsRow base e 4 (.slice a' (n + m) c2) (n + m) (vals .i64 (bs ++ news)) ∧ w.grownBy w' (Value.slice a n c).ownBlock := by
 obtain ⟨v', w', hr, ho, hg, _⟩ := run_append_own w base t ty e i z 4 32 ht hi j9 j0 l9 Fo (by omega) (.slice a n c) n (vals .i64 bs) h ad m c' (vals .i64 news) (by rw [vals_length, hl]) (fun j u hu => by
  have hj : j < news.length := by have := (List.getElem?_eq_some_iff.1 hu).1; rwa [vals_length] at this
  rw [hc j (by omega), ← hu, vals_at .i64 news j hj]) (fun u hu => by obtain ⟨x, _, rfl⟩ := List.mem_map.1 hu; rfl) (by unfold maxLen; omega) (by omega) Ba
 have hv : ∃ a' c2, v' = .slice a' (n + m) c2 := by
  rcases ho.2 with ⟨h1, h2⟩ | ⟨g, cap, cur, h1, _⟩
  ·have h3 := ho.1
   rw [h2] at h3
   exact ⟨none, 0, by rw [h1, show n + m = 0 from by simp at h3; omega]⟩
  ·exact ⟨_, _, h1⟩
 obtain ⟨a', c2, rfl⟩ := hv
 refine ⟨a', c2, w', hr, ?_, hg⟩
 have e1 : vals .i64 (bs ++ news) = vals .i64 bs ++ vals .i64 news := by simp [vals]
 rw [e1]
 exact ho
theorem getD_take {l : List Int} {k j : Nat} (h : j < k) : (l.take k).getD j 0 = l.getD j 0 := by simp [List.getD, List.getElem?_take, h]
theorem getD_drop {l : List Int} {k j : Nat} : (l.drop k).getD j 0 = l.getD (k + j) 0 := by simp [List.getD]
end Go.Proofs.YtepdakgfioffgaaGreat
