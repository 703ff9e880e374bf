import Derived.Test.YtglokpakmlegbaaGreatDoorG04
import Derived.Test.YtglokpakmlegbaaGreatDoorG00
import Derived.Test.YtglokpakmlegbaaGreatDoorG02
import Derived.Test.YtglokpakmlegbaaGreatDoorG07
import Derived.Test.YtglokpakmlegbaaGreatDoorG03
import Derived.Deep.DeepCutAuto
import Derived.Deep.RegionHeld3
import Derived.Laws.BytesArg
import Derived.Laws.StructEq
namespace Go.Proofs.YtglokpakmlegbaaGreatDoor
set_option maxRecDepth 100000
set_option maxHeartbeats 16000000
set_option linter.unusedVariables false
set_option linter.unusedSimpArgs false
open Go.RowKit
structure StLogRecord where
 kind : Int
 txn : Int
 prev : Int
 page : Int
 slot : Int
 before : StPageRecord
 after : StPageRecord
 uN : Int
 nT : Int
 txns : FR
 dirty : FR
 image : BS
def StLogRecord.val (x : StLogRecord) : Value := .agg #[.int .i64 x.kind, .int .i64 x.txn, .int .i64 x.prev, .int .i64 x.page, .int .i64 x.slot, .bool x.before.used, x.before.data.v, .bool x.after.used, x.after.data.v, .int .i64 x.uN, .int .i64 x.nT, x.txns.v, x.dirty.v, x.image.v]
def StLogRecord.rows (x : StLogRecord) : List Row := x.before.rows ++ (x.after.rows ++ ((x.txns).rows 4 ++ ((x.dirty).rows 2 ++ (x.image.rows))))
def StLogRecord.dat (x : StLogRecord) : Int × Int × Int × Int × Int × (Bool × List Int) × (Bool × List Int) × Int × Int × List Int × List Int × List Int := (x.kind, x.txn, x.prev, x.page, x.slot, x.before.dat, x.after.dat, x.uN, x.nT, x.txns.bs, x.dirty.bs, x.image.bs)
def StLogRecord.size (x : StLogRecord) : Int := x.before.size + x.after.size + (x.txns.bs.length : Int) + (x.dirty.bs.length : Int) + (x.image.bs.length : Int)
def StLogRecord.marked (x : StLogRecord) (k : Int) : StLogRecord := ⟨x.kind, x.txn, x.prev, x.page, x.slot, x.before.marked (k), x.after.marked (k + x.before.size), x.uN, x.nT, x.txns.marked (k + x.before.size + x.after.size), x.dirty.marked (k + x.before.size + x.after.size + (x.txns.bs.length : Int)), x.image.marked (k + x.before.size + x.after.size + (x.txns.bs.length : Int) + (x.dirty.bs.length : Int))⟩
def StLogRecord.rd (w : World) (x : StLogRecord) : Prop := StPageRecord.rd w x.before ∧ StPageRecord.rd w x.after ∧ RdF 4 w x.txns ∧ RdF 2 w x.dirty ∧ Rd .u8 w x.image.v x.image.bs
theorem StLogRecord.rd.kept {R : Nat → Prop} {w w' : World} {x : StLogRecord} (h : StLogRecord.rd w x) (hk : Kept R w w') (hr : ∀ b, FootL x.rows b → ¬ R b) : StLogRecord.rd w' x :=
 ⟨StPageRecord.rd.kept (h.1) hk (fun b hb => hr b ((FootL_append _ _ _).2 (.inl hb))), StPageRecord.rd.kept (h.2.1) hk (fun b hb => hr b ((FootL_append _ _ _).2 (.inr ((FootL_append _ _ _).2 (.inl hb))))), RdF.kept (h.2.2.1) hk (fun b hb => hr b ((FootL_append _ _ _).2 (.inr ((FootL_append _ _ _).2 (.inr ((FootL_append _ _ _).2 (.inl ((FootL_one _ _).2 hb)))))))), RdF.kept (h.2.2.2.1) hk (fun b hb => hr b ((FootL_append _ _ _).2 (.inr ((FootL_append _ _ _).2 (.inr ((FootL_append _ _ _).2 (.inr ((FootL_append _ _ _).2 (.inl ((FootL_one _ _).2 hb)))))))))), Rd.kept (h.2.2.2.2) hk (fun b hb => hr b ((FootL_append _ _ _).2 (.inr ((FootL_append _ _ _).2 (.inr ((FootL_append _ _ _).2 (.inr ((FootL_append _ _ _).2 (.inr (((footL_ints _ _ _ _ _).2 hb)))))))))))⟩
theorem StLogRecord.rd.same {w w' : World} {x : StLogRecord} (h : StLogRecord.rd w x) (hk : Same w w') : StLogRecord.rd w' x := h.kept hk (fun _ _ => id)
def StLogRecord.szs (x : StLogRecord) : Int := x.before.szs + x.after.szs + (x.txns.n : Int) + (x.dirty.n : Int) + (x.image.bs.length : Int)
theorem conv_any {w : World} {v : Value} {bs : List Int} (h : Rd .u8 w v bs) : (convert 24 9 v).run Tryz.prog w = .ok (.string (strOfNums bs)) w := by
 rcases h.2 with ⟨rfl, a, c, rfl, _⟩ | ⟨b, off, c, rfl, _, hc⟩
 ·rw [run_convert_bytes_string w 24 9 5 _ 0 c (by kernel_rfl) (by kernel_rfl) (by kernel_rfl)]
  cases a <;> simp [Conv.bytesToString, loadCells]
  all_goals rfl
 ·exact run_convert_bytes_arg w 24 5 (by kernel_rfl) (by kernel_rfl) b off bs.length c bs rfl hc 9 (by kernel_rfl)
theorem strOfNums_inj : ∀ {xs bs : List Int}, IsB xs → IsB bs → strOfNums xs = strOfNums bs → xs = bs := by
 intro xs bs ha hb h
 have h2 : xs.map (fun n => UInt8.ofNat n.toNat) = bs.map (fun n => UInt8.ofNat n.toNat) := by
  have h3 := congrArg (fun s => s.data.toList) h
  simpa [strOfNums] using h3
 have hl : xs.length = bs.length := by have := congrArg List.length h2; simpa using this
 apply List.ext_getElem hl
 intro i h1 h4
 have h5 := congrArg (fun l => l[i]?) h2
 simp [h1, h4] at h5
 have h6 := ha _ (List.getElem_mem h1)
 have h7 := hb _ (List.getElem_mem h4)
 have h8 := congrArg UInt8.toNat h5
 simp at h8
 omega
theorem bytesEq_any (va vb : Value) (xs bs : List Int) (w : World) (ha : IsB xs) (hb : IsB bs) (hra : Rd .u8 w va xs) (hrb : Rd .u8 w vb bs) :
  Calls Tryz.prog 81 #[va, vb] w fun e w' => e = .returned (.bool (decide (xs = bs))) ∧ Same w w' := by
 have h1 := conv_any hra
 have h2 := conv_any hrb
 have HE := (show Hid (((strOfNums xs).toList == (strOfNums bs).toList) = decide (xs = bs)) from by
  by_cases h : xs = bs
  ·subst h
   show _ = _
   simp
  ·rw [decide_eq_false h]
   refine beq_eq_false_iff_ne.2 (fun e => h (strOfNums_inj ha hb ?_))
   rw [ByteArray.toList_eq, ByteArray.toList_eq] at e
   exact ByteArray.ext (Array.ext' e))
 generalize strOfNums xs = s at *
 generalize strOfNums bs = t at *
 clear ha hb hra hrb
 go_enter Tryz.func81, Tryz.ntmps81
 go_wp2
 go_ret
 exact ⟨by rw [← HE.out]; rfl, Kept.refl _ _⟩
theorem sameTxnEntry_nil (a : Option Addr) (n c : Nat) (w : World) (hn : n ≤ maxLen) : Calls Tryz.prog 79 #[.slice none 0 0, .slice a n c] w fun e w' => e = .returned (.bool (decide (n = 0))) ∧ Same w w' := by
 by_cases h : n = 0
 ·subst h
  go_enter Tryz.func79, Tryz.ntmps79
  go_wp2
  refine wp_loop_rounds 1 ?_
  rw [rounds_succ]
  go_wp2
  go_ret
  exact ⟨rfl, Kept.refl _ _⟩
 ·have h2 : ¬ (0 : Int) = (n : Int) := by omega
  go_enter Tryz.func79, Tryz.ntmps79
  go_wp2
  go_ret
  exact ⟨by rw [decide_eq_false h]; rfl, Kept.refl _ _⟩
theorem sameTxnEntry_self (x : FR) (w : World) (hn : x.n ≤ 1125899906842624) (hv : RdF 4 w x) : Calls Tryz.prog 79 #[x.v, x.v] w fun e w' => e = .returned (.bool true) ∧ Same w w' := by
 obtain ⟨hmax, hlen, hform⟩ := hv
 obtain ⟨xe, xa, len, xc, bs⟩ := x
 dsimp only [FR.v] at *
 by_cases h0 : len = 0
 ·subst h0
  go_enter Tryz.func79, Tryz.ntmps79
  go_wp2
  refine wp_loop_rounds 1 ?_
  rw [rounds_succ]
  go_wp2
  go_ret
  exact ⟨rfl, Kept.refl _ _⟩
 ·obtain ⟨b, off, rfl, hle, hc⟩ := hform.resolve_left h0
  have HC := (show Hid (∀ i, i < len * 4 → w.cell? ⟨b, off + i, none⟩ = some (.int .i64 (bs.getD i 0))) from hc)
  clear hc hform hlen hmax
  go_enter Tryz.func79, Tryz.ntmps79
  go_wp2
  go_loopw [5, 13] (fun _ i wr => ∃ (k : Nat), k ≤ len ∧ i = .int .i64 k ∧ Hid (Same w wr)) (fun _ i _ => len - (intOf i).toNat)
  case atStart => exact ⟨0, Nat.zero_le _, rfl, Kept.refl _ _⟩
  case round =>
   obtain ⟨k, hk, rfl, HK⟩ := hrel
   by_cases hlt : k < len
   ·have q0 : wr.cell? ⟨b, off + k * 4, none⟩ = some (.int .i64 (bs.getD (k * 4) 0)) := by have h := HK.out.cellOf (HC.out (k * 4) (by omega)) id; simpa only [Nat.add_assoc] using h
    have q1 : wr.cell? ⟨b, off + k * 4 + 1, none⟩ = some (.int .i64 (bs.getD (k * 4 + 1) 0)) := by have h := HK.out.cellOf (HC.out (k * 4 + 1) (by omega)) id; simpa only [Nat.add_assoc] using h
    have q2 : wr.cell? ⟨b, off + k * 4 + 2, none⟩ = some (.int .i64 (bs.getD (k * 4 + 2) 0)) := by have h := HK.out.cellOf (HC.out (k * 4 + 2) (by omega)) id; simpa only [Nat.add_assoc] using h
    have q3 : wr.cell? ⟨b, off + k * 4 + 3, none⟩ = some (.int .i64 (bs.getD (k * 4 + 3) 0)) := by have h := HK.out.cellOf (HC.out (k * 4 + 3) (by omega)) id; simpa only [Nat.add_assoc] using h
    generalize bs.getD (k * 4) 0 = x0 at *
    generalize bs.getD (k * 4 + 1) 0 = x1 at *
    generalize bs.getD (k * 4 + 2) 0 = x2 at *
    generalize bs.getD (k * 4 + 3) 0 = x3 at *
    go_wp2
    go_quiet (fail)
    go_wp2
    go_roundw
    case rel => exact ⟨k + 1, by omega, by go_num, HK.out.drewN _⟩
    case measure => simp [intOf]; omega
   ·go_wp2
    go_ret
    exact ⟨rfl, HK.out⟩
theorem sameDirtyEntry_nil (a : Option Addr) (n c : Nat) (w : World) (hn : n ≤ maxLen) : Calls Tryz.prog 80 #[.slice none 0 0, .slice a n c] w fun e w' => e = .returned (.bool (decide (n = 0))) ∧ Same w w' := by
 by_cases h : n = 0
 ·subst h
  go_enter Tryz.func80, Tryz.ntmps80
  go_wp2
  refine wp_loop_rounds 1 ?_
  rw [rounds_succ]
  go_wp2
  go_ret
  exact ⟨rfl, Kept.refl _ _⟩
 ·have h2 : ¬ (0 : Int) = (n : Int) := by omega
  go_enter Tryz.func80, Tryz.ntmps80
  go_wp2
  go_ret
  exact ⟨by rw [decide_eq_false h]; rfl, Kept.refl _ _⟩
theorem sameDirtyEntry_self (x : FR) (w : World) (hn : x.n ≤ 1125899906842624) (hv : RdF 2 w x) : Calls Tryz.prog 80 #[x.v, x.v] w fun e w' => e = .returned (.bool true) ∧ Same w w' := by
 obtain ⟨hmax, hlen, hform⟩ := hv
 obtain ⟨xe, xa, len, xc, bs⟩ := x
 dsimp only [FR.v] at *
 by_cases h0 : len = 0
 ·subst h0
  go_enter Tryz.func80, Tryz.ntmps80
  go_wp2
  refine wp_loop_rounds 1 ?_
  rw [rounds_succ]
  go_wp2
  go_ret
  exact ⟨rfl, Kept.refl _ _⟩
 ·obtain ⟨b, off, rfl, hle, hc⟩ := hform.resolve_left h0
  have HC := (show Hid (∀ i, i < len * 2 → w.cell? ⟨b, off + i, none⟩ = some (.int .i64 (bs.getD i 0))) from hc)
  clear hc hform hlen hmax
  go_enter Tryz.func80, Tryz.ntmps80
  go_wp2
  go_loopw [5, 13] (fun _ i wr => ∃ (k : Nat), k ≤ len ∧ i = .int .i64 k ∧ Hid (Same w wr)) (fun _ i _ => len - (intOf i).toNat)
  case atStart => exact ⟨0, Nat.zero_le _, rfl, Kept.refl _ _⟩
  case round =>
   obtain ⟨k, hk, rfl, HK⟩ := hrel
   by_cases hlt : k < len
   ·have q0 : wr.cell? ⟨b, off + k * 2, none⟩ = some (.int .i64 (bs.getD (k * 2) 0)) := by have h := HK.out.cellOf (HC.out (k * 2) (by omega)) id; simpa only [Nat.add_assoc] using h
    have q1 : wr.cell? ⟨b, off + k * 2 + 1, none⟩ = some (.int .i64 (bs.getD (k * 2 + 1) 0)) := by have h := HK.out.cellOf (HC.out (k * 2 + 1) (by omega)) id; simpa only [Nat.add_assoc] using h
    generalize bs.getD (k * 2) 0 = x0 at *
    generalize bs.getD (k * 2 + 1) 0 = x1 at *
    go_wp2
    go_quiet (fail)
    go_wp2
    go_roundw
    case rel => exact ⟨k + 1, by omega, by go_num, HK.out.drewN _⟩
    case measure => simp [intOf]; omega
   ·go_wp2
    go_ret
    exact ⟨rfl, HK.out⟩
def isTxnB (x : Int) : Bool := decide (1 ≤ x) && decide (x ≤ 2147483647)
def isSlotB (x : Int) : Bool := decide (0 ≤ x) && decide (x < 32)
def fitsB (u : Bool) (n : Nat) : Bool := decide (n ≤ 1000) && (u || decide (n = 0))
def headF (txn prev : Int) : Int := if isTxnB txn = false then 3 else if isLSN prev = false then 4 else 0
def placeF (page slot : Int) : Int := if (isPageB page && isSlotB slot) = true then 0 else 5
def orF (a b c : Int) : Int := if a ≠ 0 then a else if b ≠ 0 then b else c
def updF (bu au : Bool) (bn an : Nat) : Int := if (fitsB bu bn && fitsB au an && (bu || au)) = true then 0 else 6
def undF (au : Bool) (an : Nat) (un : Int) : Int := if fitsB au an = false then 6 else if isLSN un = false then 7 else 0
theorem isTxn_any (x : Int) (w : World) : Calls Tryz.prog 143 #[.int .i64 x] w fun e w' => e = .returned (.bool (isTxnB x)) ∧ Same w w' := by
 unfold isTxnB
 by_cases h : 1 ≤ x
 ·by_cases h2 : x ≤ 2147483647
  ·go_enter Tryz.func143, Tryz.ntmps143
   go_wp2
   go_ret
   exact ⟨by simp [h, h2], Kept.refl _ _⟩
  ·go_enter Tryz.func143, Tryz.ntmps143
   go_wp2
   go_ret
   exact ⟨by simp [h]; omega, Kept.refl _ _⟩
 ·go_enter Tryz.func143, Tryz.ntmps143
  go_wp2
  go_ret
  exact ⟨by rw [show decide (1 ≤ x) = false from by simp; omega]; rfl, Kept.refl _ _⟩
end Go.Proofs.YtglokpakmlegbaaGreatDoor
