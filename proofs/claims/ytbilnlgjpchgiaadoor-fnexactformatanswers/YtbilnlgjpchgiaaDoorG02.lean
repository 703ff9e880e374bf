import Derived.Test.YtbilnlgjpchgiaaDoorG01
import Derived.Test.YtbilnlgjpchgiaaDoorG00
import Derived.Deep.DeepCutAuto
import Derived.Laws.AppendOwnNone
import Derived.WalkKit
import Derived.OrdersHeld
import Derived.Deep.RegionHeld3
import Derived.Deep.AppendLies
import Derived.Laws.BytesArg
import Derived.Deep.CutBlock
import Derived.Lib.ItoaNum
import Derived.Lib.Join
namespace Go.Proofs.YtbilnlgjpchgiaaDoor
set_option maxHeartbeats 8000000
set_option maxRecDepth 100000
set_option linter.unusedVariables false
set_option linter.unusedSimpArgs false
open Go.RowKit Go Go.ChangeShapes Go.WideShapes Go.ChangeAt
theorem Tryd.infoI64 : (Tryd.prog.info? 2).map (fun i => (i.zero, i.size, i.bytes)) = some (some (.int .i64 0), 1, 8) := by kernel_rfl
theorem eqInt64S_own {ea eb : TypeId} (base : Nat) (va vb : Value) (bs : List Int) (w : World) (hn : bs.length ≤ 1125899906842624)
  (ha : Own base ea .i64 w va bs) (hb : Own base eb .i64 w vb bs) :
  Calls Tryd.prog 50 #[va, vb] w fun e w' => e = .returned (.bool true) ∧ ∃ n, w' = w.drewN n := by
 by_cases h0 : bs.length = 0
 ·obtain rfl : bs = [] := List.length_eq_zero_iff.1 h0
  obtain ⟨aa, ca, rfl⟩ : ∃ aa ca, va = .slice aa 0 ca := by rcases ha.form with ⟨rfl, _⟩ | ⟨g, cap, rfl, _⟩ <;> exact ⟨_, _, rfl⟩
  obtain ⟨ab, cb, rfl⟩ : ∃ aa ca, vb = .slice aa 0 ca := by rcases hb.form with ⟨rfl, _⟩ | ⟨g, cap, rfl, _⟩ <;> exact ⟨_, _, rfl⟩
  clear ha hb hn h0
  go_enter Tryd.func50, Tryd.ntmps50
  go_wp2
  refine wp_loop_rounds 1 ?_
  rw [rounds_succ]
  go_wp2
  go_ret
  exact ⟨rfl, 0, rfl⟩
 ·obtain ⟨ga, ca, rfl, _, _, _, _⟩ : ∃ g cap, va = .slice (some ⟨g, 0, none⟩) bs.length cap ∧ base ≤ g ∧ g < w.heap.size ∧ bs.length ≤ cap ∧ cap ≤ maxLen := by
   rcases ha.form with ⟨_, rfl⟩ | h
   ·simp at h0
   ·exact h
  obtain ⟨gb, cb, rfl, _, _, _, _⟩ : ∃ g cap, vb = .slice (some ⟨g, 0, none⟩) bs.length cap ∧ base ≤ g ∧ g < w.heap.size ∧ bs.length ≤ cap ∧ cap ≤ maxLen := by
   rcases hb.form with ⟨_, rfl⟩ | h
   ·simp at h0
   ·exact h
  have hca : ∀ j, j < bs.length → w.cell? ⟨ga, j, none⟩ = some (.int .i64 (bs.getD j 0)) := fun j hj => ha.cell rfl j hj
  have hcb : ∀ j, j < bs.length → w.cell? ⟨gb, j, none⟩ = some (.int .i64 (bs.getD j 0)) := fun j hj => hb.cell rfl j hj
  clear ha hb
  generalize hl : bs.length = len at *
  go_enter Tryd.func50, Tryd.ntmps50
  go_wp2
  go_loopw [5] (fun i wr => ∃ k n : Nat, k ≤ len ∧ i = .int .i64 k ∧ wr = w.drewN n) (fun i _ => len - (intOf i).toNat)
  case atStart => exact ⟨0, 0, Nat.zero_le _, rfl, rfl⟩
  case round =>
   obtain ⟨k, n, hk, rfl, rfl⟩ := hrel
   by_cases hlt : k < len
   ·have h1 := hca k hlt
    have h2 := hcb k hlt
    clear hca hcb
    go_wp2
    go_quiet (fail)
    go_wp2
    go_roundw
    case rel => exact ⟨k + 1, _, by omega, by go_num, rfl⟩
    case measure => simp [intOf]; omega
   ·go_wp2
    go_ret
    exact ⟨rfl, _, rfl⟩
theorem toInt64S_any (v : Value) (bs : List Int) (w : World) (hn : bs.length ≤ 1099511627776) (hv : Rd .i64 w v bs) :
  Calls Tryd.prog 41 #[v] w fun e w' => ∃ g, e = .returned (.slice (some ⟨g, 0, none⟩) bs.length bs.length) ∧ w.heap.size ≤ g ∧ Own 0 2 .i64 w' (.slice (some ⟨g, 0, none⟩) bs.length bs.length) bs ∧ Same w w' := by
 obtain ⟨i0, hi, hz0, hz1, hz2⟩ := info_parts Tryd.infoI64
 rcases hv.2 with ⟨rfl, a, c, rfl, _⟩ | ⟨b, off, c, rfl, _, hc⟩
 ·clear hv hn
  go_enter Tryd.func41, Tryd.ntmps41
  go_wp2_with (at_make; refine wpList_make_full _ rfl (.tmp 6) (.tmp 6) 40 rfl 0 2 i0 (.int .i64 0) 1 Tryd.underlying40 hi hz0 hz1 .i64 .i64 _ _ 0 rfl rfl (by simp) (by simp) (by simp) (by simp) (Nat.zero_le _) ?_; intro w1 hown1 hgrow1; have HO : Hid (Own 0 2 .i64 w1 (.slice (some ⟨w.heap.size, 0, none⟩) 0 0) []) := own_made (n := 0) (by simpa using hown1); have HK : Hid (Same w w1) := Kept.of_grown hgrow1 (fun k e => by cases e); clear hown1 hgrow1)
  refine wp_loop_rounds 1 ?_
  rw [rounds_succ]
  go_wp2
  go_ret
  exact ⟨w.heap.size, rfl, Nat.le_refl _, HO.out, HK.out⟩
 ·have HC : Hid (∀ i, i < bs.length → w.cell? ⟨b, off + i, none⟩ = some (.int .i64 (bs.getD i 0))) := hc
  clear hc hv
  generalize hl : bs.length = len at hn ⊢
  have HL : Hid (bs.length = len) := hl
  clear hl
  go_enter Tryd.func41, Tryd.ntmps41
  go_wp2_with (at_make; refine wpList_make_full _ rfl (.tmp 6) (.tmp 6) 40 rfl 0 2 i0 (.int .i64 0) 1 Tryd.underlying40 hi hz0 hz1 .i64 .i64 _ _ len rfl rfl (by simp) (by simp) (by rw [hz2]; omega) (by unfold maxLen; omega) (Nat.zero_le _) ?_; intro w1 hown1 hgrow1; have HO : Hid (Own 0 2 .i64 w1 (.slice (some ⟨w.heap.size, 0, none⟩) len len) (List.replicate len 0)) := own_made (by simpa using hown1); have HK : Hid (Same w w1) := Kept.of_grown hgrow1 (fun k e => by cases e); clear hown1 hgrow1)
  go_loopw [4] (fun i wr => ∃ (k : Nat), k ≤ len ∧ i = .int .i64 k ∧ Hid (Own 0 2 .i64 wr (.slice (some ⟨w.heap.size, 0, none⟩) len len) (fillUp bs k)) ∧ Hid (Same w wr)) (fun i _ => len - (intOf i).toNat)
  case atStart => exact ⟨0, Nat.zero_le _, rfl, by rw [fillUp_zero, HL.out]; exact HO, HK⟩
  case round =>
   obtain ⟨k, hk, rfl, HOr, HKr⟩ := hrel
   by_cases hlt : k < len
   ·have hlp : k < bs.length := by rw [HL.out]; exact hlt
    have q1 := HKr.out.cellOf (HC.out k hlp) id
    have q2 := HOr.out.frozen (by rw [fillUp_length _ _ (by have := HL.out; omega)]; exact HL.out.symm) k
    have q3 := HOr.out.cell (by rw [fillUp_length _ _ (by have := HL.out; omega)]; exact HL.out.symm) k hlt
    go_wp2
    go_roundw
    case rel =>
     have h := HOr.out.stored (by rw [fillUp_length _ _ (by have := HL.out; omega)]; exact HL.out.symm) k (bs.getD k 0)
     rw [fillUp_step _ _ hlp] at h
     refine ⟨k + 1, by omega, by go_num, ?_, ?_⟩
     ·simpa [hlp, List.getD, Hid] using h
     ·exact HKr.out.setCell (.inl (Nat.le_refl _)) _
    case measure => simp [intOf]; omega
   ·go_wp2
    go_ret
    obtain rfl : k = len := by omega
    have h := HOr.out
    have h2 := HL.out
    rw [← h2, fillUp_all, h2] at h
    exact ⟨w.heap.size, rfl, Nat.le_refl _, h, HKr.out⟩
theorem FR.own_ints {w : World} {x : FR} (h : OwnL w (x.rows 1)) : Own 0 x.e .i64 w x.v x.bs := by
 have h1 := FR.own_one h
 have h2 : x.n = x.bs.length := by have := FR.own_len h; omega
 rw [h2] at h1
 exact h1
theorem eqInt64SF_own (x y : FR) (w : World) (hn : (x.bs.length : Int) ≤ 1125899906842624) (hd : x.bs = y.bs) (ha : OwnL w (x.rows 1)) (hb : OwnL w (y.rows 1)) :
  Calls Tryd.prog 50 #[x.v, y.v] w fun e w' => e = .returned (.bool true) ∧ Same w w' := by
 have h1 := FR.own_ints ha
 have h2 := FR.own_ints hb
 rw [← hd] at h2
 refine (eqInt64S_own 0 x.v y.v x.bs w (by omega) h1 h2).mono ?_
 rintro e w' ⟨rfl, n, rfl⟩
 exact ⟨rfl, (Kept.refl _ _).drewN _⟩
theorem szInt64SF_any (a : Option Addr) (n c : Nat) (left : Int) (w : World) (h0 : 0 ≤ left) (h1 : left ≤ 1048576) (hn : n ≤ maxLen) :
  Calls Tryd.prog 35 #[.slice a n c, .int .i64 left] w fun e w' => ∃ r : Int, e = .returned (.int .i64 r) ∧ ((r = -1 ∧ left < n) ∨ (r = left - n ∧ 0 ≤ r)) ∧ w' = w := by
 unfold maxLen at hn
 by_cases h : left < n
 ·go_enter Tryd.func35, Tryd.ntmps35
  go_wp2
  go_ret
  exact ⟨_, rfl, .inl ⟨rfl, h⟩, rfl⟩
 ·go_enter Tryd.func35, Tryd.ntmps35
  go_wp2
  go_ret
  exact ⟨_, rfl, .inr ⟨rfl, by omega⟩, rfl⟩
theorem RdF.ints {w : World} {x : FR} (h : RdF 1 w x) (h0 : x.n ≠ 0) : Rd .i64 w x.v x.bs := by
 obtain ⟨h1, h2, h3⟩ := h
 have hl : x.n = x.bs.length := by omega
 rcases h3 with h3 | ⟨b, off, e, hc, hx⟩
 ·exact absurd h3 h0
 ·refine ⟨by omega, .inr ⟨b, off, x.c, ?_, by omega, fun i hi => hx i (by omega)⟩⟩
  simp only [FR.v, e, hl]
theorem Rd.flat {w : World} {v : Value} {bs : List Int} (h : Rd .i64 w v bs) : ∃ a c, v = .slice a bs.length c ∧ RdF 1 w ⟨0, a, bs.length, c, bs⟩ := by
 rcases h.2 with ⟨rfl, a, c, rfl, _⟩ | ⟨b, off, c, rfl, hc, hx⟩
 ·exact ⟨a, c, rfl, Nat.zero_le _, rfl, .inl rfl⟩
 ·exact ⟨_, c, rfl, h.1, (Nat.mul_one _).symm, .inr ⟨b, off, rfl, hc, fun i hi => hx i (by simpa using hi)⟩⟩
theorem toInt64SF_any (x : FR) (w : World) (hn : (x.n : Int) ≤ 1073741824) (hv : RdF 1 w x) :
  Calls Tryd.prog 41 #[x.v] w fun e w' => ∃ y : FR, e = .returned y.v ∧ y.bs = x.bs ∧ y.n = x.n ∧ (∀ b, FootL (y.rows 1) b → w.heap.size ≤ b) ∧ OwnL w' (y.rows 1) ∧ Same w w' := by
 have hl : x.bs.length = x.n := by have := hv.2.1; omega
 have key : ∀ (e : Ending) (w' : World), (∃ g, e = .returned (.slice (some ⟨g, 0, none⟩) x.bs.length x.bs.length) ∧ w.heap.size ≤ g ∧ Own 0 2 .i64 w' (.slice (some ⟨g, 0, none⟩) x.bs.length x.bs.length) x.bs ∧ Same w w') →
   ∃ y : FR, e = .returned y.v ∧ y.bs = x.bs ∧ y.n = x.n ∧ (∀ b, FootL (y.rows 1) b → w.heap.size ≤ b) ∧ OwnL w' (y.rows 1) ∧ Same w w' := by
  rintro e w' ⟨g, rfl, hg, ho, hk⟩
  refine ⟨⟨2, some ⟨g, 0, none⟩, x.bs.length, x.bs.length, x.bs⟩, rfl, rfl, hl, fun b hb => ?_, OwnL.one ho, hk⟩
  have hb := (FootL_one _ _).1 hb
  simp only [FR.v, Value.ownBlock] at hb
  cases hb
  exact hg
 by_cases h0 : x.n = 0
 ·obtain ⟨xe, xa, xn, xc, bs⟩ := x
  dsimp only [FR.v] at *
  subst h0
  obtain rfl : bs = [] := List.length_eq_zero_iff.1 hl
  refine Calls.mono ?_ key
  obtain ⟨i0, hi, hz0, hz1, hz2⟩ := info_parts Tryd.infoI64
  clear hv hn key hl
  go_enter Tryd.func41, Tryd.ntmps41
  go_wp2_with (at_make; refine wpList_make_full _ rfl (.tmp 6) (.tmp 6) 40 rfl 0 2 i0 (.int .i64 0) 1 Tryd.underlying40 hi hz0 hz1 .i64 .i64 _ _ 0 rfl rfl (by simp) (by simp) (by simp) (by simp) (Nat.zero_le _) ?_; intro w1 hown1 hgrow1; have HO : Hid (Own 0 2 .i64 w1 (.slice (some ⟨w.heap.size, 0, none⟩) 0 0) []) := own_made (n := 0) (by simpa using hown1); have HK : Hid (Same w w1) := Kept.of_grown hgrow1 (fun k e => by cases e); clear hown1 hgrow1)
  refine wp_loop_rounds 1 ?_
  rw [rounds_succ]
  go_wp2
  go_ret
  exact ⟨w.heap.size, rfl, Nat.le_refl _, HO.out, HK.out⟩
 ·exact (toInt64S_any x.v x.bs w (by omega) (hv.ints h0)).mono key
structure StStep where
 kd : Int
 tx : Int
 rid : Int
 cnt : Int
 data : BS
 keep : FR
def StStep.val (x : StStep) : Value := .agg #[.int .i64 x.kd, .int .i64 x.tx, .int .i64 x.rid, .int .i64 x.cnt, x.data.v, x.keep.v]
def StStep.rows (x : StStep) : List Row := x.data.rows ++ ((x.keep).rows 1)
def StStep.dat (x : StStep) : Int × Int × Int × Int × List Int × List Int := (x.kd, x.tx, x.rid, x.cnt, x.data.bs, x.keep.bs)
def StStep.size (x : StStep) : Int := (x.data.bs.length : Int) + (x.keep.bs.length : Int)
def StStep.marked (x : StStep) (k : Int) : StStep := ⟨x.kd, x.tx, x.rid, x.cnt, x.data.marked (k), x.keep.marked (k + (x.data.bs.length : Int))⟩
def StStep.rd (w : World) (x : StStep) : Prop := Rd .u8 w x.data.v x.data.bs ∧ RdF 1 w x.keep
theorem StStep.rd.kept {R : Nat → Prop} {w w' : World} {x : StStep} (h : StStep.rd w x) (hk : Kept R w w') (hr : ∀ b, FootL x.rows b → ¬ R b) : StStep.rd w' x :=
 ⟨Rd.kept (h.1) hk (fun b hb => hr b ((FootL_append _ _ _).2 (.inl ((footL_ints _ _ _ _ _).2 hb)))), RdF.kept (h.2) hk (fun b hb => hr b ((FootL_append _ _ _).2 (.inr (((FootL_one _ _).2 hb)))))⟩
theorem StStep.rd.same {w w' : World} {x : StStep} (h : StStep.rd w x) (hk : Same w w') : StStep.rd w' x := h.kept hk (fun _ _ => id)
theorem StStep.own_rd {w : World} {x : StStep} (h : OwnL w x.rows) : StStep.rd w x :=
 ⟨(OwnL.of_one h.left).rd, (FR.own_rd h.right)⟩
def StStep.szs (x : StStep) : Int := (x.data.bs.length : Int) + (x.keep.n : Int)
theorem StStep.szs_le (x : StStep) : 0 ≤ x.szs := by
 unfold StStep.szs
 omega
def StStep.cells (x : StStep) : List Value := [.int .i64 x.kd, .int .i64 x.tx, .int .i64 x.rid, .int .i64 x.cnt, x.data.v, x.keep.v]
def kSp : RowK StStep := ⟨6, StStep.cells, fun _ => rfl, fun _ => .slice none 0 0, fun _ => []⟩
def spRows (ps : List StStep) : List Row := ps.flatMap StStep.rows
theorem spRows_append (ps qs : List StStep) : spRows (ps ++ qs) = spRows ps ++ spRows qs := by simp [spRows]
theorem spRows_cons (p : StStep) (ps : List StStep) : spRows (p :: ps) = p.rows ++ spRows ps := by simp [spRows]
structure OwnSp (w : World) (v : Value) (ps : List StStep) : Prop where
 own : OwnR kSp 0 61 5 w v ps
 rows : OwnL w (spRows ps)
 out : ∀ b, v.ownBlock = some b → ¬ FootL (spRows ps) b
def footSp (v : Value) (ps : List StStep) (b : Nat) : Prop := v.ownBlock = some b ∨ FootL (spRows ps) b
structure RdSp (w : World) (v : Value) (ps : List StStep) : Prop where
 row : RdR kSp w v ps
 data : ∀ p ∈ ps, StStep.rd w p
theorem footSp_head {v : Value} {ps : List StStep} {b : Nat} (h : footR kSp v ps b) : v.ownBlock = some b := by
 rcases h with h | ⟨p, _, h⟩
 ·exact h
 ·simp [kSp, Value.ownBlock] at h
theorem OwnSp.kept {R : Nat → Prop} {w w' : World} {v : Value} {ps : List StStep} (h : OwnSp w v ps) (hk : Kept R w w') (hr : ∀ b, footSp v ps b → ¬ R b) : OwnSp w' v ps :=
 ⟨h.own.kept hk (fun b hb => hr b (.inl (footSp_head hb))), h.rows.kept hk (fun b hb => hr b (.inr hb)), h.out⟩
theorem OwnSp.same {w w' : World} {v : Value} {ps : List StStep} (h : OwnSp w v ps) (hk : Same w w') : OwnSp w' v ps := h.kept hk (fun _ _ => id)
theorem OwnSp.lt {w : World} {v : Value} {ps : List StStep} (h : OwnSp w v ps) (b : Nat) (hb : footSp v ps b) : b < w.heap.size := by
 rcases hb with hb | hb
 ·exact (h.own.lt b (.inl hb)).2
 ·exact h.rows.lt b hb
theorem OwnL.memSp {w : World} {ps : List StStep} (h : OwnL w (spRows ps)) (p : StStep) (hp : p ∈ ps) : OwnL w p.rows := by
 obtain ⟨a, c, rfl⟩ := List.append_of_mem hp
 rw [spRows_append, spRows_cons] at h
 exact h.right.left
theorem OwnSp.rd {w : World} {v : Value} {ps : List StStep} (h : OwnSp w v ps) : RdSp w v ps := ⟨h.own.rd, fun p hp => StStep.own_rd (h.rows.memSp p hp)⟩
theorem RdSp.same {w w' : World} {v : Value} {ps : List StStep} (h : RdSp w v ps) (hk : Same w w') : RdSp w' v ps := ⟨h.row.same hk, fun p hp => (h.data p hp).same hk⟩
theorem RdSp.form {w : World} {v : Value} {ps : List StStep} (h : RdSp w v ps) : ∃ a c, v = .slice a ps.length c := h.row.form
section
variable {P : Program} {ops : Array Oper} {Q : Exit → Act → World → Prop} {md : Region.Mode} {S : World → Prop} {s : Nat}
def wpAnyV (P : Program) (md : Region.Mode) (ops : Array Oper) (Q : Exit → Act → World → Prop) (S : World → Prop) (s : Nat) : Nat → Array Bool → Act → World → Prop
 | 0, listed, a, w => Region.ready md ops listed = [] ∧ Q .normal a w
 | fuel + 1, listed, a, w =>
  (Region.ready md ops listed = [] → Q .normal a w) ∧
  ∀ i ∈ Region.ready md ops listed, wpOp P ops Q i (fun a' w' => (i ≠ s → S w') ∧ wpAnyV P md ops Q S s fuel (listed.setIfInBounds i true) a' w') a w
theorem wpAny_of_V : ∀ (fuel : Nat) (listed : Array Bool) (a : Act) (w : World), wpAnyV P md ops Q S s fuel listed a w → wpAny P md ops Q fuel listed a w
 | 0, _, _, _, h => h
 | fuel + 1, _, _, _, h => ⟨h.1, fun i hi => wpOp_mono (fun a' w' h' => wpAny_of_V fuel _ a' w' h'.2) (h.2 i hi)⟩
def waits (md : Region.Mode) (ops : Array Oper) (s i : Nat) : Bool :=
 match ops[s]? with
 | some o => o.after.any fun e => Region.binds md e && e.on == i
 | none => true
theorem waits_spec {i : Nat} (h : waits md ops s i = true) {os : Oper} (ho : ops[s]? = some os) (hn : ∀ e ∈ os.after, Region.binds md e = true → e.on ≠ i) : False := by
 unfold waits at h
 rw [ho] at h
 obtain ⟨e, he, hb⟩ := Array.any_eq_true'.1 h
 simp only [Bool.and_eq_true, beq_iff_eq] at hb
 exact hn e he hb.1 hb.2
theorem ready_apart {listed : Array Bool} {i j : Nat} (hi : i ∈ Region.ready md ops listed) (hj : j ∈ Region.ready md ops listed) {oj : Oper} (hoj : ops[j]? = some oj) :
  ∀ e ∈ oj.after, Region.binds md e = true → e.on ≠ i := by
 rintro e he hb rfl
 obtain ⟨_, o, ho, hall⟩ := mem_ready.1 hj
 obtain rfl : o = oj := by rw [hoj] at ho; exact (Option.some.inj ho).symm
 have hyes := hall e he hb
 have hno := (mem_ready.1 hi).1
 by_cases hl : e.on < listed.size <;> simp_all
def Loose (md : Region.Mode) (ops : Array Oper) (i : Nat) (oi : Oper) (listed : Array Bool) : Prop :=
 ∀ j oj, ops[j]? = some oj → j ≠ i → listed.getD j true = false → (∀ e ∈ oj.after, Region.binds md e = true → e.on ≠ i) → oi.apart ops oj = true
theorem Loose.on {i j : Nat} {oi : Oper} {listed : Array Bool} (h : Loose md ops i oi listed) (hj : listed.getD j true = false) : Loose md ops i oi (listed.setIfInBounds j true) := fun k ok hk hki hun hno =>
 h k ok hk hki (if e : j = k then e ▸ hj else (getD_set_ne true e) ▸ hun) hno
theorem wpAnyV_first {i : Nat} {oi : Oper} {v : Value} (hi : ops[i]? = some oi) (hsel : ∀ (j : Nat) (o : Oper) cs b, ops[j]? = some o → o.op ≠ .select cs b) (hs : waits md ops s i = true)
  (hQ : ∀ c a w, Q (.panic c) (a.put oi.dst v) w → Q (.panic c) a w) (fuel : Nat) : ∀ (listed : Array Bool) (a : Act) (w : World), Loose md ops i oi listed → i ∈ Region.ready md ops listed → YieldsIf P ops S oi v a → S w →
   wpAnyV P md ops Q S s fuel (listed.setIfInBounds i true) (a.put oi.dst v) w → wpAnyV P md ops Q S s (fuel + 1) listed a w := by
 induction fuel with
 | zero =>
  intro listed a w _ hr hy hS H
  constructor
  ·intro h0; simp [h0] at hr
  ·intro j hj
   by_cases e : j = i
   ·exact e ▸ hy.wpOp hi hS ⟨fun _ => hS, H⟩
   ·have := ready_mono hj e
    simp [H.1] at this
 | succ fuel ih =>
  intro listed a w hl hr hy hS H
  constructor
  ·intro h0; simp [h0] at hr
  ·intro j hj
   by_cases e : j = i
   ·exact e ▸ hy.wpOp hi hS ⟨fun _ => hS, H⟩
   ·obtain ⟨hun, oj, hoj, _⟩ := mem_ready.1 hj
    have hap := ready_apart hr hj hoj
    have hjs : j ≠ s := fun es => waits_spec hs (es ▸ hoj) hap
    refine wpOp_mono ?_ (wpOp_putIf hoj (hl j oj hoj e hun hap) (fun cs b => hsel i oi cs b hi) (fun cs b => hsel j oj cs b hoj) hQ hy (H.2 j (ready_mono hj e)))
    rintro a' w' ⟨hy', hS', hw'⟩
    exact ⟨hS', ih _ a' w' (hl.on hun) (ready_mono hr (Ne.symm e)) hy' (hS' hjs) (by rw [Array.setIfInBounds_comm _ _ e]; exact hw')⟩
theorem wpAnyV_take {i : Nat} {oi : Oper} {v : Value} {fuel : Nat} {listed : Array Bool} {a : Act} {w : World} (d : Option Tmp) (hi : ops[i]? = some oi) (hd : oi.dst = d)
  (hsl : Region.noSelect ops = true) (hf : Region.free md ops listed i = true) (hr : (Region.ready md ops listed).contains i = true) (hs : waits md ops s i = true)
  (hQ : ∀ c a w, Q (.panic c) (a.put d v) w → Q (.panic c) a w) (hy : YieldsIf P ops S oi v a) (hS : S w)
  (h : wpAnyV P md ops Q S s fuel (listed.setIfInBounds i true) (a.put d v) w) : wpAnyV P md ops Q S s (fuel + 1) listed a w := by
 subst hd
 exact wpAnyV_first hi (Region.noSelect_spec hsl) hs hQ fuel listed a w (Region.free_spec hi hf) (by simpa using hr) hy hS h
theorem sA {α : Type} {l : List α} {i : Nat} {a : α} : l.toArray.setIfInBounds i a = (l.set i a).toArray := List.setIfInBounds_toArray ..
theorem s0 {α : Type} {x : α} {xs : List α} {a : α} : (x :: xs).set 0 a = a :: xs := List.set_cons_zero
theorem sS {α : Type} {x : α} {xs : List α} {i : Nat} {a : α} : (x :: xs).set (i + 1) a = x :: xs.set i a := List.set_cons_succ
theorem tk (i d : Nat) {oi : Oper} {v : Value} {fuel : Nat} {listed : Array Bool} {a a' : Act} {w : World} (hS : S w)
  (h : wpAnyV P md ops Q S s fuel (listed.setIfInBounds i true) a' w) (hi : ops[i]? = some oi := by rfl) (hg : Region.wanted oi (yielded ops a.tmps) = true := by rfl) (hd : oi.dst = some d := by rfl)
  (hy : ∀ w, S w → (execOp a.eval oi).run P w = .ok (.value v) w := by intro w hSw; (try dsimp (config := { zetaDelta := true }) only at hSw); go_simp; (try with_reducible rfl))
  (hsl : Region.noSelect ops = true := by kernel_rfl) (hf : Region.free md ops listed i = true := by kernel_rfl) (hr : (Region.ready md ops listed).contains i = true := by kernel_rfl) (hs : waits md ops s i = true := by kernel_rfl)
  (hQ : ∀ c a w, Q (.panic c) (a.put (some d) v) w → Q (.panic c) a w := by exact fun _ _ _ h => h)
  (ha : a.put (some d) v = a' := by first | (simp only [Act.put, sA, s0, sS]; done) | (simp only [Act.put, sA, s0, sS]; rfl) | rfl) : wpAnyV P md ops Q S s (fuel + 1) listed a w :=
 wpAnyV_take (some d) hi hd hsl hf hr hs hQ (Or.inl ⟨hg, hy⟩) hS (ha ▸ h)
theorem tkV (i d : Nat) (v : Value) {oi : Oper} {fuel : Nat} {listed : Array Bool} {a a' : Act} {w : World} (hS : S w)
  (h : wpAnyV P md ops Q S s fuel (listed.setIfInBounds i true) a' w) (hi : ops[i]? = some oi := by rfl) (hg : Region.wanted oi (yielded ops a.tmps) = true := by rfl) (hd : oi.dst = some d := by rfl)
  (hy : ∀ w, S w → (execOp a.eval oi).run P w = .ok (.value v) w := by intro w hSw; (try dsimp (config := { zetaDelta := true }) only at hSw); go_simp; (try omega))
  (hsl : Region.noSelect ops = true := by kernel_rfl) (hf : Region.free md ops listed i = true := by kernel_rfl) (hr : (Region.ready md ops listed).contains i = true := by kernel_rfl) (hs : waits md ops s i = true := by kernel_rfl)
  (hQ : ∀ c a w, Q (.panic c) (a.put (some d) v) w → Q (.panic c) a w := by exact fun _ _ _ h => h)
  (ha : a.put (some d) v = a' := by first | (simp only [Act.put, sA, s0, sS]; done) | (simp only [Act.put, sA, s0, sS]; rfl) | rfl) : wpAnyV P md ops Q S s (fuel + 1) listed a w :=
 wpAnyV_take (some d) hi hd hsl hf hr hs hQ (Or.inl ⟨hg, hy⟩) hS (ha ▸ h)
theorem wpAnyV_one {i : Nat} {o : Oper} {fuel : Nat} {listed : Array Bool} {a : Act} {w : World} (hr : Region.ready md ops listed = [i]) (ho : ops[i]? = some o)
  (h : ∀ K' : Act → World → Prop, Shut (∀ a w, (i ≠ s → S w) → wpAnyV P md ops Q S s fuel (listed.setIfInBounds i true) a w → K' a w) → if Region.wanted o (yielded ops a.tmps) = true then Oper.wp P o a w K' Q else K' (a.put o.dst undef) w) :
  wpAnyV P md ops Q S s (fuel + 1) listed a w := by
 constructor
 ·intro h0; simp [hr] at h0
 ·intro j hj
  rw [hr] at hj
  obtain rfl : j = i := by simpa using hj
  exact wpOp_step ho (fun K' hK => h K' (fun a w hS hW => hK a w ⟨hS, hW⟩))
theorem wpAnyV_two {i j : Nat} {o o' : Oper} {fuel : Nat} {listed : Array Bool} {a : Act} {w : World} (hr : Region.ready md ops listed = [i, j]) (ho : ops[i]? = some o) (ho' : ops[j]? = some o')
  (h : ∀ K' : Act → World → Prop, Shut (∀ a w, (i ≠ s → S w) → wpAnyV P md ops Q S s fuel (listed.setIfInBounds i true) a w → K' a w) → if Region.wanted o (yielded ops a.tmps) = true then Oper.wp P o a w K' Q else K' (a.put o.dst undef) w)
  (h' : ∀ K' : Act → World → Prop, Shut (∀ a w, (j ≠ s → S w) → wpAnyV P md ops Q S s fuel (listed.setIfInBounds j true) a w → K' a w) → if Region.wanted o' (yielded ops a.tmps) = true then Oper.wp P o' a w K' Q else K' (a.put o'.dst undef) w) :
  wpAnyV P md ops Q S s (fuel + 1) listed a w := by
 constructor
 ·intro h0; simp [hr] at h0
 ·intro k hk
  rw [hr] at hk
  simp only [List.mem_cons, List.not_mem_nil, or_false] at hk
  rcases hk with rfl | rfl
  ·exact wpOp_step ho (fun K' hK => h K' (fun a w hS hW => hK a w ⟨hS, hW⟩))
  ·exact wpOp_step ho' (fun K' hK => h' K' (fun a w hS hW => hK a w ⟨hS, hW⟩))
theorem wpAnyV_done {fuel : Nat} {listed : Array Bool} {a : Act} {w : World} (hr : Region.ready md ops listed = []) (h : Q .normal a w) : wpAnyV P md ops Q S s fuel listed a w := by
 cases fuel with
 | zero => exact ⟨hr, h⟩
 | succ n => exact ⟨fun _ => h, by rw [hr]; simp⟩
theorem wp_region_V {id : Nat} {a : Act} {w : World} (S : World → Prop) (s n : Nat) (hn : ops.size = n) (hm : P.follows .mixedOrders = true) (h : wpAnyV P .any ops Q S s n (Array.replicate n false) a w.drew) : (Code.region id ops true).wp P Q a w := by
 subst hn
 exact wp_region_any hm (wpAny_of_V _ _ _ _ h)
end
structure Grew (w : World) (v : Value) (w' : World) (v' : Value) : Prop where
 kept : Kept (fun b => v.ownBlock = some b) w w'
 own : ∀ b, v'.ownBlock = some b → v.ownBlock = some b ∨ w.heap.size ≤ b
theorem Grew.trans {w w1 w2 : World} {v v1 v2 : Value} (h : Grew w v w1 v1) (k : Grew w1 v1 w2 v2) : Grew w v w2 v2 := by
 refine ⟨h.kept.next k.kept (fun i hi e => (h.own i e).resolve_right (by omega)), fun b hb => ?_⟩
 rcases k.own b hb with h1 | h1
 ·exact h.own b h1
 ·have := h.kept.size
  exact .inr (by omega)
theorem Grew.of_same {w w' : World} {v : Value} (h : Same w w') : Grew w v w' v := ⟨h.mono (fun _ _ e => absurd e id), fun b hb => .inl hb⟩
theorem Grew.refl (w : World) (v : Value) : Grew w v w v := Grew.of_same (Kept.refl _ _)
theorem Grew.size {w w' : World} {v v' : Value} (h : Grew w v w' v') : w.heap.size ≤ w'.heap.size := h.kept.size
theorem Grew.same {w0 w w' : World} {v v' : Value} (h : Grew w v w' v') (h0 : Same w0 w) (hv : ∀ b, v.ownBlock = some b → w0.heap.size ≤ b) : Same w0 w' :=
 h0.next h.kept (fun i hi e => by have := hv i e; omega)
theorem Grew.fresh {w0 w w' : World} {v v' : Value} (h : Grew w v w' v') (h0 : Same w0 w) (hv : ∀ b, v.ownBlock = some b → w0.heap.size ≤ b) : ∀ b, v'.ownBlock = some b → w0.heap.size ≤ b := fun b hb => by
 rcases h.own b hb with h1 | h1
 ·exact hv b h1
 ·have := h0.size
  omega
theorem run_app {ty : TypeId} {w : World} {v x : Value} {bs ys : List Int} (ho : Own 0 5 .u8 w v bs) (hx : Rd .u8 w x ys) (hl : bs.length + ys.length ≤ 1099511627776) :
  ∃ a n c w', (Builtin.append_ #[34, 34] ty #[v, x]).run Tryd.prog w = .ok (.slice a n c) w' ∧ Own 0 5 .u8 w' (.slice a n c) (bs ++ ys) ∧ Grew w v w' (.slice a n c) := by
 obtain ⟨i0, hi, hz0, hz1, hz2⟩ := info_parts Tryd.infoByte'
 have some_case : ∀ (ad : Addr) (c : Nat), (∀ j u, (vals .u8 ys)[j]? = some u → w.cell? (ad.add j) = some u) → ∃ a n c' w', (Builtin.append_ #[34, 34] ty #[v, .slice (some ad) ys.length c]).run Tryd.prog w = .ok (.slice a n c') w' ∧ Own 0 5 .u8 w' (.slice a n c') (bs ++ ys) ∧ Grew w v w' (.slice a n c') := fun ad c hn => by
  obtain ⟨v', w', hr, h2, h3, _, h5⟩ := run_append_own_at (P := Tryd.prog) w 0 34 ty 5 i0 (.int .u8 0) 1 1 Tryd.underlying34 hi hz0 hz1 hz2 rfl (by decide) v bs.length (vals .u8 bs) ho ad ys.length c (vals .u8 ys) (by simp [vals_length]) hn vals_one (by unfold maxLen; omega) (by omega) (Nat.zero_le _)
  have h2' : Own 0 5 .u8 w' v' (bs ++ ys) := by unfold Own; simpa [vals] using h2
  obtain ⟨a, n, c', rfl⟩ := slice_of_own h2'
  refine ⟨a, n, c', w', hr, h2', Kept.of_grown h3 (fun k e => e), fun b hb => ?_⟩
  rcases h5 with h5 | h5
  ·exact .inl (by rw [← h5]; exact hb)
  ·rw [h5] at hb
   exact .inr (by have := Option.some.inj hb; omega)
 rcases hx.2 with ⟨rfl, a, c, rfl, hac⟩ | ⟨b, off, c, rfl, _, hc⟩
 ·cases a with
  | none =>
   obtain rfl : c = 0 := hac rfl
   have hr := run_append_owned_none (P := Tryd.prog) (w := w) 0 34 ty 5 i0 1 Tryd.underlying34 hi v bs.length (vals .u8 bs) ho
   obtain ⟨a, n, c', rfl⟩ := slice_of_own ho
   exact ⟨a, n, c', w, hr, by rw [List.append_nil]; exact ho, Grew.refl _ _⟩
  | some ad => exact some_case ad c (fun j u h => by simp [vals] at h)
 ·exact some_case ⟨b, off, none⟩ c (news_of hc)
theorem wp_app {w : World} {o : Oper} {a : Act} {K : Act → World → Prop} {Q : Exit → Act → World → Prop} (s x : Operand)
  (ho : o.op = .call { callee := .builtin .append, args := #[s, x], argTypes := #[34, 34] })
  (v xv : Value) (bs ys : List Int) (hs : a.eval s = v) (hx : a.eval x = xv) (hown : Own 0 5 .u8 w v bs) (hrd : Rd .u8 w xv ys) (hl : bs.length + ys.length ≤ 1099511627776)
  (h : ∀ a' n' c' w', Own 0 5 .u8 w' (.slice a' n' c') (bs ++ ys) → Grew w v w' (.slice a' n' c') → K (a.put o.dst (.slice a' n' c')) w') : o.wp Tryd.prog a w K Q := by
 obtain ⟨a', n', c', w', hr, h2, h3⟩ := run_app (ty := o.type) hown hrd hl
 unfold Oper.wp execOp
 simp only [ho, resolve, invoke, builtin, Sem.run_bind, Sem.run_pure, Result.andThen_ok, List.map_toArray, List.map_cons, List.map_nil, hs, hx, hr]
 exact h a' n' c' w' h2 h3
theorem step_app {w : World} {ops : Array Oper} {o : Oper} {a : Act} {K : Act → World → Prop} {Q : Exit → Act → World → Prop} {E : Prop} (hgd : o.guard = none) (s x : Operand)
  (ho : o.op = .call { callee := .builtin .append, args := #[s, x], argTypes := #[34, 34] })
  (v xv : Value) (bs ys : List Int) (hs : a.eval s = v) (hx : a.eval x = xv) (hown : Own 0 5 .u8 w v bs) (hrd : Rd .u8 w xv ys) (hl : bs.length + ys.length ≤ 1099511627776)
  (h : ∀ a' n' c' w', Own 0 5 .u8 w' (.slice a' n' c') (bs ++ ys) → Grew w v w' (.slice a' n' c') → K (a.put o.dst (.slice a' n' c')) w') :
  if Region.wanted o (yielded ops a.tmps) = true then Oper.wp Tryd.prog o a w K Q else E := by
 have hw : Region.wanted o (yielded ops a.tmps) = true := by simp [Region.wanted, hgd]
 rw [if_pos hw]
 exact wp_app s x ho v xv bs ys hs hx hown hrd hl h
def hexD (x : Int) : Int := if x < 10 then 48 + x else 87 + x
def hexB : List Int → List Int
 | [] => []
 | b :: r => hexD (b / 16) :: hexD (b % 16) :: hexB r
theorem hexB_app (xs ys : List Int) : hexB (xs ++ ys) = hexB xs ++ hexB ys := by
 induction xs with
 | nil => rfl
 | cons x xs ih => simp [hexB, ih]
theorem hexB_length (xs : List Int) : (hexB xs).length = 2 * xs.length := by
 induction xs with
 | nil => rfl
 | cons x xs ih => simp [hexB, ih]; omega
theorem hexB_take {bs : List Int} {k : Nat} (h : k < bs.length) : hexB (bs.take (k + 1)) = hexB (bs.take k) ++ [hexD (bs[k] / 16), hexD (bs[k] % 16)] := by
 rw [List.take_succ_eq_append_getElem h, hexB_app]
 rfl
def encH (bs : List Int) : List Int := if bs.length = 0 then [45] else hexB bs
theorem rd_two (w : World) (x y : Int) : Rd .u8 (w.alloc (.cells #[.int .u8 x, .int .u8 y] 5)) (.slice (some ⟨w.heap.size, 0, none⟩) 2 2) [x, y] := by
 have h : Blk (w.alloc (.cells #[.int .u8 x, .int .u8 y] 5)) w.heap.size 5 (vals .u8 [x, y]) := Blk.new w #[.int .u8 x, .int .u8 y] 5
 exact (h.own (by unfold maxLen; simp)).rd
theorem own_empty (w : World) (e : TypeId) : Own 0 e .u8 (w.alloc (Obj.cells #[] e)) (.slice (some ⟨w.heap.size, 0, none⟩) 0 0) [] :=
 ⟨by simp [vals], .inr ⟨w.heap.size, 0, #[], rfl, Nat.zero_le _, by unfold World.alloc; exact Array.getElem?_push_size, Nat.le_refl _, Nat.zero_le _, by simp [vals]⟩⟩
theorem conv_own {w : World} {v : Value} {bs : List Int} {a : Option Addr} {n c : Nat} (ho : Own 0 5 .u8 w (.slice a n c) bs) (h0 : 0 < bs.length) : (convert 34 9 (.slice a n c)).run Tryd.prog w = .ok (.string (strOfNums bs)) w := by
 have hr := ho.rd
 rcases hr.2 with ⟨h, _⟩ | ⟨b, off, c', e1, _, hx⟩
 ·rw [h] at h0; simp at h0
 ·injection e1 with e1 e2 e3
  subst e1 e2 e3
  exact run_convert_bytes_arg w 34 5 Tryd.underlying34 Tryd.underlying5 b off _ _ bs rfl hx 9 Tryd.underlying9
theorem idx_hex (q : Int) (h0 : 0 ≤ q) (h1 : q < 16) (a : Act) (x : Operand) (hx : a.eval x = .int .u8 q) (o : Oper) (ho : o.op = .index 9 (.const (.string ⟨#[48, 49, 50, 51, 52, 53, 54, 55, 56, 57, 97, 98, 99, 100, 101, 102]⟩)) x) (w : World) : (execOp a.eval o).run Tryd.prog w = .ok (.value (.int .u8 (hexD q))) w := by
 have h : q = 0 ∨ q = 1 ∨ q = 2 ∨ q = 3 ∨ q = 4 ∨ q = 5 ∨ q = 6 ∨ q = 7 ∨ q = 8 ∨ q = 9 ∨ q = 10 ∨ q = 11 ∨ q = 12 ∨ q = 13 ∨ q = 14 ∨ q = 15 := by omega
 unfold execOp
 rw [ho]
 dsimp only
 rw [hx]
 rcases h with rfl | rfl | rfl | rfl | rfl | rfl | rfl | rfl | rfl | rfl | rfl | rfl | rfl | rfl | rfl | rfl
 all_goals rfl
theorem and15 {x : Int} (h : 0 ≤ x ∧ x ≤ 255) : bits BinOp.and IntKind.u8 x 15 = x % 16 := by
 obtain ⟨n, rfl⟩ : ∃ n : Nat, x = n := ⟨x.toNat, by omega⟩
 have h2 : ∀ n : Fin 256, bits BinOp.and IntKind.u8 ((n.val : Nat) : Int) 15 = ((n.val : Nat) : Int) % 16 := by decide
 exact h2 ⟨n, by omega⟩
theorem specHex_any (v : Value) (bs : List Int) (w : World) (hB : IsB bs) (hn : bs.length ≤ 1048576) (hv : Rd .u8 w v bs) :
  Calls Tryd.prog 36 #[v] w fun e w' => e = .returned (.string (strOfNums (encH bs))) ∧ Same w w' := by
 obtain ⟨av, cv, rfl⟩ := hv.form
 by_cases h0 : bs.length = 0
 ·have h0' : ((bs.length : Int) == 0) = true := by simp [h0]
  go_enter Tryd.func36, Tryd.ntmps36
  go_wp2
  go_ret
  exact ⟨by rw [encH, if_pos h0]; rfl, Kept.refl _ _⟩
 have h0' : ((bs.length : Int) == 0) = false := beq_eq_false_iff_ne.2 (by omega)
 obtain ⟨b, off, rfl, hx⟩ : ∃ b off, av = some ⟨b, off, none⟩ ∧ ∀ i, i < bs.length → w.cell? ⟨b, off + i, none⟩ = some (.int .u8 (bs.getD i 0)) := by
  rcases hv.2 with ⟨h, _⟩ | ⟨b, off, c', e1, _, hx⟩
  ·rw [h] at h0; simp at h0
  ·injection e1 with e1 e2 e3
   exact ⟨b, off, e1, hx⟩
 have HX := hid hx
 have hbl : b < w.heap.size := World.block_lt_of_cell? w _ (hx 0 (by omega))
 clear hx hv
 go_enter Tryd.func36, Tryd.ntmps36
 go_wp2
 go_loopw [3, 4] (fun o i wr => ∃ (k : Nat) (a : Option Addr) (n c : Nat), k ≤ bs.length ∧ o = .slice a n c ∧ i = .int .i64 (k : Int) ∧ Hid (Own 0 5 .u8 wr (.slice a n c) (hexB (bs.take k))) ∧ Hid (∀ b, (Value.slice a n c).ownBlock = some b → w.heap.size ≤ b) ∧ Hid (Same w wr)) (fun _ i _ => bs.length - (intOf i).toNat)
 case atStart => exact ⟨0, _, _, _, Nat.zero_le _, rfl, rfl, own_empty w _, fun b hb => by simp [Value.ownBlock] at hb; omega, (Kept.refl _ _).alloc _⟩
 case round =>
  obtain ⟨k, a, n, c, hk, rfl, rfl, HO, HF, HK⟩ := hrel
  by_cases hlt : k < bs.length
  ·have hki : (k : Int) < (bs.length : Int) := by omega
   obtain ⟨x, hx⟩ : ∃ x, bs[k] = x := ⟨_, rfl⟩
   have hc : w.cell? ⟨b, off + k, none⟩ = some (.int .u8 x) := by rw [HX.out k hlt, List.getD_eq_getElem?_getD, List.getElem?_eq_getElem hlt, hx]; rfl
   have hxb : 0 ≤ x ∧ x ≤ 255 := by rw [← hx]; exact hB _ (List.getElem_mem hlt)
   have HXK := hid hx
   have HC := (show Hid (∀ wx, Same w wx → wx.cell? ⟨b, off + k, none⟩ = some (.int .u8 x)) from fun wx h => h.cellOf hc id)
   clear hc hx
   go_upto_region 7 with fail
   refine wp_region_V (fun wx : World => wx.cell? ⟨b, off + k, none⟩ = some (.int .u8 x)) 99 16 rfl (by kernel_rfl) ?_
   have hS : (fun wx : World => wx.cell? ⟨b, off + k, none⟩ = some (.int .u8 x)) wr.drew := HC.out _ HK.out.drew
   have hq : 0 ≤ x / 16 ∧ x / 16 < 16 := by omega
   have hr : 0 ≤ x % 16 ∧ x % 16 < 16 := by omega
   have t1 : IntKind.u8.wrap (x.tdiv 16) = x / 16 := by rw [Int.tdiv_eq_ediv_of_nonneg hxb.1]; rw [IntKind.wrap_u8]; omega
   have t2 : x.tmod 16 = x % 16 := Int.tmod_eq_emod_of_nonneg hxb.1
   have HO1 := hid (HO.out.same (Kept.refl (fun _ => False) _).drew)
   have HK1 := hid (HK.out.drew)
   generalize wr.drew = u at hS HO1 HK1 ⊢
   refine tk 0 15 hS ?_
   refine tk 1 16 hS ?_
   refine tk 2 17 hS ?_
   refine tk 3 18 hS ?_
   refine tk 4 19 hS ?_
   refine tkV 5 20 (.int .u8 (x / 16)) hS ?_
   refine tkV 6 21 (.int .u8 (hexD (x / 16))) hS ?_ (hy := fun w _ => idx_hex _ hq.1 hq.2 _ _ rfl _ rfl w)
   refine tk 7 22 hS ?_
   refine tk 8 23 hS ?_
   refine tk 9 24 hS ?_
   refine tk 10 25 hS ?_
   refine tkV 11 26 (.int .u8 (x % 16)) hS ?_
   refine tkV 12 27 (.int .u8 (hexD (x % 16))) hS ?_ (hy := fun w _ => idx_hex _ hr.1 hr.2 _ _ rfl _ rfl w)
   refine wpAnyV_one (i := 13) (by kernel_rfl) rfl (fun K hK => ?_)
   go_simp
   have hk2 : Same u (u.alloc (.cells #[.int .u8 (hexD (x / 16)), .int .u8 (hexD (x % 16))] 5)) := (Kept.refl _ _).alloc _
   have HO2 := hid (HO1.out.same hk2)
   have HX2 := hid (rd_two u (hexD (x / 16)) (hexD (x % 16)))
   have HK2 := hid (HK1.out.trans hk2)
   have hS2 := HC.out _ HK2.out
   have ex := HXK.out
   refine hK.out _ _ (fun _ => hS2) ?_
   clear hK K hk2 hS
   generalize u.alloc (.cells #[.int .u8 (hexD (x / 16)), .int .u8 (hexD (x % 16))] 5) = u2 at *
   generalize u.heap.size = U at *
   refine wpAnyV_one (i := 14) (by kernel_rfl) rfl (fun K hK => ?_)
   refine step_app (by rfl) (.tmp 15) (.tmp 28) (by rfl) (.slice a n c) (.slice (some ⟨U, 0, none⟩) 2 2) (hexB (bs.take k)) [hexD (x / 16), hexD (x % 16)] (by rfl) (by rfl) HO2.out HX2.out (by rw [hexB_length, List.length_take]; simp; omega) ?_
   intro a3 n3 c3 w3 hown hgr
   have HO3 := (show Hid (Own 0 5 .u8 w3 (.slice a3 n3 c3) (hexB (bs.take (k + 1)))) from by unfold Hid; rw [hexB_take hlt, ex]; exact hown)
   have HF3 := (show Hid (∀ b, (Value.slice a3 n3 c3).ownBlock = some b → w.heap.size ≤ b) from hgr.fresh HK2.out HF.out)
   have HK3 := hid (hgr.same HK2.out HF.out)
   have hS3 := HC.out _ HK3.out
   clear hown hgr
   refine hK.out _ _ (fun _ => hS3) ?_
   clear hK K hS2
   try simp only [Act.put, sA, s0, sS]
   refine tk 15 3 hS3 ?_
   refine wpAnyV_done (by kernel_rfl) ?_
   go_wp2_with fail
   go_roundw
   case rel => exact ⟨k + 1, a3, n3, c3, by omega, rfl, by go_num, HO3, HF3, HK3⟩
   case measure => simp [intOf]; omega
  ·have hge : ¬ (k : Int) < (bs.length : Int) := by omega
   obtain rfl : k = bs.length := by omega
   have hcv := conv_own (v := .slice a n c) HO.out (by rw [hexB_length, List.length_take]; omega)
   rw [List.take_length] at hcv
   have HE := (show Hid (encH bs = hexB bs) from if_neg h0)
   clear HO HF
   go_wp2
   go_ret
   exact ⟨by rw [HE.out]; rfl, HK.out⟩
theorem implHex_any (v : Value) (bs : List Int) (w : World) (hB : IsB bs) (hn : bs.length ≤ 1048576) (hv : Rd .u8 w v bs) :
  Calls Tryd.prog 76 #[v] w fun e w' => e = .returned (.string (strOfNums (encH bs))) ∧ Same w w' := by
 obtain ⟨av, cv, rfl⟩ := hv.form
 by_cases h0 : bs.length = 0
 ·have h0' : ((bs.length : Int) == 0) = true := by simp [h0]
  go_enter Tryd.func76, Tryd.ntmps76
  go_wp2
  go_ret
  exact ⟨by rw [encH, if_pos h0]; rfl, Kept.refl _ _⟩
 have h0' : ((bs.length : Int) == 0) = false := beq_eq_false_iff_ne.2 (by omega)
 obtain ⟨b, off, rfl, hx⟩ : ∃ b off, av = some ⟨b, off, none⟩ ∧ ∀ i, i < bs.length → w.cell? ⟨b, off + i, none⟩ = some (.int .u8 (bs.getD i 0)) := by
  rcases hv.2 with ⟨h, _⟩ | ⟨b, off, c', e1, _, hx⟩
  ·rw [h] at h0; simp at h0
  ·injection e1 with e1 e2 e3
   exact ⟨b, off, e1, hx⟩
 have HX := hid hx
 have hbl : b < w.heap.size := World.block_lt_of_cell? w _ (hx 0 (by omega))
 clear hx hv
 obtain ⟨i0, hi0, hz0, hz1, hz2⟩ := info_parts Tryd.infoByte'
 have q1 : IntKind.i64.wrap (2 * (bs.length : Int)) = ((2 * bs.length : Nat) : Int) := by rw [IntKind.wrap_i64]; omega
 go_enter Tryd.func76, Tryd.ntmps76
 go_wp2_with (at_make; refine wpList_make_own _ rfl (.const (.int .i64 0)) (.tmp 11) 34 rfl 0 5 i0 (.int .u8 0) 1 Tryd.underlying34 hi0 hz0 hz1 .i64 .i64 _ (2 * bs.length) rfl rfl (by rfl) (by rw [hz2]; omega) (by unfold maxLen; omega) (Nat.zero_le _) ?_; intro w1 hown1 hgrow1; have HO1 := (show Hid (Own 0 5 .u8 w1 (.slice (some ⟨w.heap.size, 0, none⟩) 0 (2 * bs.length)) []) from hown1); have HK1 := (show Hid (Same w w1) from Kept.of_grown hgrow1 (fun k e => by cases e)); clear hown1 hgrow1)
 go_loopw [3, 5, 15] (fun o y i wr => ∃ (k : Nat) (a : Option Addr) (n c : Nat), k ≤ bs.length ∧ o = .slice a n c ∧ i = .int .i64 (k : Int) ∧ Hid (Own 0 5 .u8 wr (.slice a n c) (hexB (bs.take k))) ∧ Hid (∀ b, (Value.slice a n c).ownBlock = some b → w.heap.size ≤ b) ∧ Hid (Same w wr)) (fun _ _ i _ => bs.length - (intOf i).toNat)
 case atStart => exact ⟨0, _, _, _, Nat.zero_le _, rfl, rfl, HO1, fun b hb => by simp [Value.ownBlock] at hb; omega, HK1⟩
 case round =>
  obtain ⟨k, a, n, c, hk, rfl, rfl, HO, HF, HK⟩ := hrel
  by_cases hlt : k < bs.length
  ·have hki : (k : Int) < (bs.length : Int) := by omega
   obtain ⟨x, hx⟩ : ∃ x, bs[k] = x := ⟨_, rfl⟩
   have hc : w.cell? ⟨b, off + k, none⟩ = some (.int .u8 x) := by rw [HX.out k hlt, List.getD_eq_getElem?_getD, List.getElem?_eq_getElem hlt, hx]; rfl
   have hxb : 0 ≤ x ∧ x ≤ 255 := by rw [← hx]; exact hB _ (List.getElem_mem hlt)
   have HXK := hid hx
   have HC := (show Hid (∀ wx, Same w wx → True) from fun _ _ => trivial)
   have c1 : wr.cell? ⟨b, off + k, none⟩ = some (.int .u8 x) := HK.out.cellOf hc id
   clear hc hx
   go_upto_region 7 with fail
   refine wp_region_V (fun wx : World => True) 99 10 rfl (by kernel_rfl) ?_
   have hS : (fun wx : World => True) wr.drew := trivial
   have hq : 0 ≤ x / 16 ∧ x / 16 < 16 := by omega
   have hr : 0 ≤ x % 16 ∧ x % 16 < 16 := by omega
   have HO1 := hid (HO.out.same (Kept.refl (fun _ => False) _).drew)
   have HK1 := hid (HK.out.drew)
   generalize wr.drew = u at hS HO1 HK1 ⊢
   clear c1
   have t3 := and15 hxb
   refine tk 0 19 hS ?_
   refine tk 1 20 hS ?_
   refine tkV 2 21 (.int .u8 (x / 16)) hS ?_
   refine tkV 3 22 (.int .u8 (hexD (x / 16))) hS ?_ (hy := fun w _ => idx_hex _ hq.1 hq.2 _ _ rfl _ rfl w)
   refine tk 4 23 hS ?_
   refine tkV 5 24 (.int .u8 (x % 16)) hS ?_
   refine tkV 6 25 (.int .u8 (hexD (x % 16))) hS ?_ (hy := fun w _ => idx_hex _ hr.1 hr.2 _ _ rfl _ rfl w)
   refine wpAnyV_one (i := 7) (by kernel_rfl) rfl (fun K hK => ?_)
   go_simp
   have hk2 : Same u (u.alloc (.cells #[.int .u8 (hexD (x / 16)), .int .u8 (hexD (x % 16))] 5)) := (Kept.refl _ _).alloc _
   have HO2 := hid (HO1.out.same hk2)
   have HX2 := hid (rd_two u (hexD (x / 16)) (hexD (x % 16)))
   have HK2 := hid (HK1.out.trans hk2)
   have hS2 := HC.out u HK1.out
   have ex := HXK.out
   refine hK.out _ _ (fun _ => hS2) ?_
   clear hK K hk2 hS
   generalize u.alloc (.cells #[.int .u8 (hexD (x / 16)), .int .u8 (hexD (x % 16))] 5) = u2 at *
   generalize u.heap.size = U at *
   refine wpAnyV_one (i := 8) (by kernel_rfl) rfl (fun K hK => ?_)
   refine step_app (by rfl) (.tmp 19) (.tmp 26) (by rfl) (.slice a n c) (.slice (some ⟨U, 0, none⟩) 2 2) (hexB (bs.take k)) [hexD (x / 16), hexD (x % 16)] (by rfl) (by rfl) HO2.out HX2.out (by rw [hexB_length, List.length_take]; simp; omega) ?_
   intro a3 n3 c3 w3 hown hgr
   have HO3 := (show Hid (Own 0 5 .u8 w3 (.slice a3 n3 c3) (hexB (bs.take (k + 1)))) from by unfold Hid; rw [hexB_take hlt, ex]; exact hown)
   have HF3 := (show Hid (∀ b, (Value.slice a3 n3 c3).ownBlock = some b → w.heap.size ≤ b) from hgr.fresh HK2.out HF.out)
   have HK3 := hid (hgr.same HK2.out HF.out)
   have hS3 := HC.out u HK1.out
   clear hown hgr
   refine hK.out _ _ (fun _ => hS3) ?_
   clear hK K hS2
   try simp only [Act.put, sA, s0, sS]
   refine tk 9 3 hS3 ?_
   refine wpAnyV_done (by kernel_rfl) ?_
   go_wp2_with fail
   go_roundw
   case rel => exact ⟨k + 1, a3, n3, c3, by omega, rfl, by go_num, HO3, HF3, HK3⟩
   case measure => simp [intOf]; omega
  ·have hge : ¬ (k : Int) < (bs.length : Int) := by omega
   obtain rfl : k = bs.length := by omega
   have hcv := conv_own (v := .slice a n c) HO.out (by rw [hexB_length, List.length_take]; omega)
   rw [List.take_length] at hcv
   have HE := (show Hid (encH bs = hexB bs) from if_neg h0)
   clear HO HF
   go_wp2
   go_ret
   exact ⟨by rw [HE.out]; rfl, HK.out⟩
abbrev Tx (l : List UInt8) : ByteArray := ⟨l.toArray⟩
theorem tx_app (l m : List UInt8) : Tx l ++ Tx m = Tx (l ++ m) := by
 apply ByteArray.ext
 rw [ByteArray.data_append]
 exact List.append_toArray _ _
theorem tx_size (l : List UInt8) : (Tx l).size = l.length := by simp [Tx, ByteArray.size]
def u8s (xs : List Int) : List UInt8 := xs.map fun n => UInt8.ofNat n.toNat
def hxW (bs : List Int) : List UInt8 := u8s (encH bs)
theorem join2 (a b : List UInt8) : Lib.join [a, b] [32] = a ++ 32 :: b := by simp [Lib.join, List.intercalate]
structure StStep.ok (x : StStep) : Prop where
 data : IsB x.data.bs
 kd : -9223372036854775808 ≤ x.kd ∧ x.kd ≤ 9223372036854775807
 tx : -9223372036854775808 ≤ x.tx ∧ x.tx ≤ 9223372036854775807
 rid : -9223372036854775808 ≤ x.rid ∧ x.rid ≤ 9223372036854775807
 cnt : -9223372036854775808 ≤ x.cnt ∧ x.cnt ≤ 9223372036854775807
theorem StStep.ok_dat {x y : StStep} (h : y.dat = x.dat) (hx : x.ok) : y.ok := by
 simp only [StStep.dat, Prod.mk.injEq] at h
 obtain ⟨h1, h2, h3, h4, h5, h6⟩ := h
 exact ⟨by rw [h5]; exact hx.data, by rw [h1]; exact hx.kd, by rw [h2]; exact hx.tx, by rw [h3]; exact hx.rid, by rw [h4]; exact hx.cnt⟩
theorem list6 {cs : List Value} (h : cs.length = 6) : ∃ c0 c1 c2 c3 c4 c5, cs = [c0, c1, c2, c3, c4, c5] := by
 match cs, h with
 | [c0, c1, c2, c3, c4, c5], _ => exact ⟨c0, c1, c2, c3, c4, c5, rfl⟩
section
variable {H : Type} {enc : TypeId × Value → H} {w : World} {base : Nat} {spare : Nat → Bool} {held : Bool}
end
end Go.Proofs.YtbilnlgjpchgiaaDoor
