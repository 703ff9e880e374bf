import Derived.Test.YtcnaabjgjmodeaaG00
import Derived.Test.YtcnaabjgjmodeaaG01
import Derived.Test.YtcnaabjgjmodeaaG09
import Derived.Test.YtcnaabjgjmodeaaSetS
import Derived.Deep.DeepCutAuto
namespace Go.Proofs.Ytcnaabjgjmodeaa
open Go.RowKit
set_option linter.unusedVariables false
set_option linter.unusedSimpArgs false
structure StPageResult where
  code : Int
  page : BS
def StPageResult.val (x : StPageResult) : Value := .agg #[.int .i64 x.code, x.page.v]
def StPageResult.rows (x : StPageResult) : List Row := x.page.rows
def StPageResult.dat (x : StPageResult) : Int × List Int := (x.code, x.page.bs)
def StPageResult.size (x : StPageResult) : Int := (x.page.bs.length : Int)
theorem StPageResult.size_le (x : StPageResult) : 0 ≤ x.size := by
  unfold StPageResult.size
  omega
def StPageResult.marked (x : StPageResult) (k : Int) : StPageResult := ⟨x.code, x.page.marked (k)⟩
theorem StPageResult.foot_marked (x : StPageResult) (k : Int) (b : Nat) : FootL (x.marked k).rows b ↔ FootL x.rows b := by
  exact BS.foot_marked _ _ b
def StPageResult.rd (w : World) (x : StPageResult) : Prop := Rd .u8 w x.page.v x.page.bs
theorem StPageResult.rd.kept {R : Nat → Prop} {w w' : World} {x : StPageResult} (h : StPageResult.rd w x) (hk : Kept R w w') (hr : ∀ b, FootL x.rows b → ¬ R b) : StPageResult.rd w' x :=
  Rd.kept (h) hk (fun b hb => hr b (((footL_ints _ _ _ _ _).2 hb)))
theorem StPageResult.rd.same {w w' : World} {x : StPageResult} (h : StPageResult.rd w x) (hk : Same w w') : StPageResult.rd w' x := h.kept hk (fun _ _ => id)
theorem StPageResult.own_rd {w : World} {x : StPageResult} (h : OwnL w x.rows) : StPageResult.rd w x :=
  (OwnL.of_one h).rd
def StPageResult.szs (x : StPageResult) : Int := (x.page.bs.length : Int)
theorem StPageResult.szs_le (x : StPageResult) : 0 ≤ x.szs := by
  unfold StPageResult.szs
  omega
set_option maxRecDepth 100000 in
set_option maxHeartbeats 4000000 in
theorem eqPageResult_own (x y : StPageResult) (w : World) (hn : x.size ≤ 1125899906842624) (hd : x.dat = y.dat) (ha : OwnL w x.rows) (hb : OwnL w y.rows) :
    Calls Try.prog 23 #[x.val, y.val] w fun e w' => e = .returned (.bool true) ∧ Same w w' := by
  obtain ⟨xcode, ⟨xpage_e, xpage_a, xpage_c, xpage_b⟩⟩ := x
  obtain ⟨ycode, ⟨ypage_e, ypage_a, ypage_c, ypage_b⟩⟩ := y
  simp only [StPageResult.dat, Prod.mk.injEq] at hd
  obtain ⟨rfl, rfl⟩ := hd
  simp only [StPageResult.size] at hn
  have Hx0 := (show Hid (OwnL w [ints xpage_e .u8 (.slice xpage_a xpage_b.length xpage_c) xpage_b]) from ha)
  have Hy0 := (show Hid (OwnL w [ints ypage_e .u8 (.slice ypage_a xpage_b.length ypage_c) xpage_b]) from hb)
  clear ha hb
  dsimp only [StPageResult.val, BS.v]
  go_enter Try.func23, Try.ntmps23
  have hk0 : Same w ((w.alloc (.cells #[.int .i64 xcode, .slice xpage_a xpage_b.length xpage_c] 28)).alloc (.cells #[.int .i64 xcode, .slice ypage_a xpage_b.length ypage_c] 28)) := ((Kept.refl _ _).alloc _).alloc _
  have HK0 := (show Hid (Same w _) from hk0)
  have HBx0 := (show Hid (Blk ((w.alloc (.cells #[.int .i64 xcode, .slice xpage_a xpage_b.length xpage_c] 28)).alloc (.cells #[.int .i64 xcode, .slice ypage_a xpage_b.length ypage_c] 28)) w.heap.size 28 [.int .i64 xcode, .slice xpage_a xpage_b.length xpage_c]) from (Blk.new w #[.int .i64 xcode, .slice xpage_a xpage_b.length xpage_c] 28).alloc _)
  have HBy0 := (show Hid (Blk ((w.alloc (.cells #[.int .i64 xcode, .slice xpage_a xpage_b.length xpage_c] 28)).alloc (.cells #[.int .i64 xcode, .slice ypage_a xpage_b.length ypage_c] 28)) (w.heap.size + 1) 28 [.int .i64 xcode, .slice ypage_a xpage_b.length ypage_c]) from by have h := Blk.new (w.alloc (.cells #[.int .i64 xcode, .slice xpage_a xpage_b.length xpage_c] 28)) #[.int .i64 xcode, .slice ypage_a xpage_b.length ypage_c] 28; rwa [World.size_alloc] at h)
  clear hk0
  go_wp2_with fail
  refine (eqByteS_own 0 _ _ xpage_b _ (by omega) (Hx0.out.of_one.same HK0.out) (Hy0.out.of_one.same HK0.out)).mono ?_
  rintro e w1 ⟨rfl, nn, hww⟩
  have hk : Same ((w.alloc (.cells #[.int .i64 xcode, .slice xpage_a xpage_b.length xpage_c] 28)).alloc (.cells #[.int .i64 xcode, .slice ypage_a xpage_b.length ypage_c] 28)) w1 := by rw [hww]; exact (Kept.refl _ _).drewN _
  clear hww
  have HK1 := (show Hid (Same w w1) from HK0.out.trans hk)
  have HBx1 := (show Hid (Blk w1 w.heap.size 28 [.int .i64 xcode, .slice xpage_a xpage_b.length xpage_c]) from HBx0.out.same hk)
  have HBy1 := (show Hid (Blk w1 (w.heap.size + 1) 28 [.int .i64 xcode, .slice ypage_a xpage_b.length ypage_c]) from HBy0.out.same hk)
  clear hk HK0 HBx0 HBy0
  go_wp2
  go_ret
  exact ⟨rfl, HK1.out⟩
set_option maxRecDepth 100000 in
set_option maxHeartbeats 4000000 in
theorem markPageResult_own (x : StPageResult) (k0 : Int) (w : World) (h0 : 0 ≤ k0) (h1 : k0 + x.size ≤ 1125899906842624) (ha : OwnL w x.rows) :
    Calls Try.prog 28 #[x.val, .int .i64 k0] w fun e w' => e = .returned (.int .i64 (k0 + x.size)) ∧ OwnL w' (x.marked k0).rows ∧ Kept (FootL x.rows) w w' := by
  have hlt := ha.lt
  have HLT := (show Hid (∀ b, FootL x.rows b → b < w.heap.size) from hlt)
  have HA := (show Hid (OwnL w x.rows) from ha)
  clear hlt
  obtain ⟨xcode, ⟨xpage_e, xpage_a, xpage_c, xpage_b⟩⟩ := x
  have HO0_0 := (show Hid (OwnL w [ints xpage_e .u8 (.slice xpage_a xpage_b.length xpage_c) xpage_b]) from ha)
  clear ha
  simp only [StPageResult.size] at h1
  dsimp only [StPageResult.val, BS.v]
  go_enter Try.func28, Try.ntmps28
  have HK_0 := (show Hid (Kept (FootL (StPageResult.rows ⟨xcode, ⟨xpage_e, xpage_a, xpage_c, xpage_b⟩⟩)) w (w.alloc (.cells #[.int .i64 xcode, .slice xpage_a xpage_b.length xpage_c] 28))) from (Kept.refl _ _).alloc _)
  have HB_0 := (show Hid (Blk (w.alloc (.cells #[.int .i64 xcode, .slice xpage_a xpage_b.length xpage_c] 28)) w.heap.size 28 [.int .i64 xcode, .slice xpage_a xpage_b.length xpage_c]) from Blk.new w #[.int .i64 xcode, .slice xpage_a xpage_b.length xpage_c] 28)
  go_wp2_with fail
  refine (markByteS_own 0 _ xpage_b (k0) _ (by omega) (by omega) (by omega) (OwnL.of_one (HO0_0.out.same ((Kept.refl _ _).alloc _)))).mono ?_
  rintro e w1 ⟨rfl, ho, hk⟩
  have ho := (show OwnL w1 (BS.rows (BS.marked ⟨xpage_e, xpage_a, xpage_c, xpage_b⟩ (k0))) from BS.own_marked.2 (OwnL.one ho))
  have hk : Kept (FootL [ints xpage_e .u8 (.slice xpage_a xpage_b.length xpage_c) xpage_b]) _ w1 := hk.mono (fun b _ e => (footL_ints _ _ _ _ _).2 e)
  have HB_1 := (show Hid (Blk w1 w.heap.size 28 [.int .i64 xcode, .slice xpage_a xpage_b.length xpage_c]) from HB_0.out.kept hk (fun e => by have := HLT.out _ (e); omega))
  have HK_1 := (show Hid (Kept (FootL (StPageResult.rows ⟨xcode, ⟨xpage_e, xpage_a, xpage_c, xpage_b⟩⟩)) w w1) from HK_0.out.next hk (fun b _ e => e))
  have HO0_1 := (show Hid (OwnL w1 (BS.rows (BS.marked ⟨xpage_e, xpage_a, xpage_c, xpage_b⟩ (k0)))) from ho)
  clear ho hk HB_0 HK_0 HO0_0
  go_wp2
  go_ret
  refine ⟨rfl, ?_, HK_1.out⟩
  exact HO0_1.out
set_option maxRecDepth 100000 in
set_option maxHeartbeats 4000000 in
theorem heldPageResult_own (x : StPageResult) (k0 : Int) (w : World) (h0 : 0 ≤ k0) (h1 : k0 + x.size ≤ 1125899906842624) (ha : OwnL w (x.marked k0).rows) :
    Calls Try.prog 29 #[x.val, .int .i64 k0] w fun e w' => e = .returned (.int .i64 (k0 + x.size)) ∧ Same w w' := by
  obtain ⟨xcode, ⟨xpage_e, xpage_a, xpage_c, xpage_b⟩⟩ := x
  have HO0 := (show Hid (OwnL w [ints xpage_e .u8 (.slice xpage_a xpage_b.length xpage_c) (marks (k0) xpage_b.length)]) from BS.own_marked.1 (ha))
  clear ha
  simp only [StPageResult.size] at h1
  dsimp only [StPageResult.val, BS.v]
  go_enter Try.func29, Try.ntmps29
  have HK0 := (show Hid (Same w (w.alloc (.cells #[.int .i64 xcode, .slice xpage_a xpage_b.length xpage_c] 28))) from (Kept.refl _ _).alloc _)
  have HB0 := (show Hid (Blk (w.alloc (.cells #[.int .i64 xcode, .slice xpage_a xpage_b.length xpage_c] 28)) w.heap.size 28 [.int .i64 xcode, .slice xpage_a xpage_b.length xpage_c]) from Blk.new w #[.int .i64 xcode, .slice xpage_a xpage_b.length xpage_c] 28)
  have hneg0 : ¬ (k0 + (xpage_b.length : Int)) < 0 := by omega
  go_wp2_with fail
  refine (heldByteS_own 0 _ xpage_b.length (k0) _ (by omega) (by omega) (by omega) (OwnL.of_one (HO0.out.same HK0.out))).mono ?_
  rintro e w1 ⟨rfl, hww⟩
  have hk : Same (w.alloc (.cells #[.int .i64 xcode, .slice xpage_a xpage_b.length xpage_c] 28)) w1 := by rw [hww]; exact Kept.refl _ _
  clear hww
  have HK1 := (show Hid (Same w w1) from HK0.out.trans hk)
  have HB1 := (show Hid (Blk w1 w.heap.size 28 [.int .i64 xcode, .slice xpage_a xpage_b.length xpage_c]) from HB0.out.same hk)
  clear hk
  go_wp2
  go_ret
  exact ⟨rfl, HK1.out⟩
end Go.Proofs.Ytcnaabjgjmodeaa

namespace Go.Proofs.Ytcnaabjgjmodeaa
open Go.RowKit
set_option linter.unusedVariables false
def StPageRecord.isB (x : StPageRecord) : Prop := IsB x.data.bs
theorem StPageRecord.isB_dat {x y : StPageRecord} (h : y.dat = x.dat) (hx : x.isB) : y.isB := by
  have e : y.data.bs = x.data.bs := congrArg Prod.snd h
  unfold StPageRecord.isB at *
  rw [e]; exact hx
theorem StPageRecord.size_rd {w : World} {x : StPageRecord} (h : StPageRecord.rd w x) : x.size ≤ 4 * x.szs := by
  unfold StPageRecord.size StPageRecord.szs
  omega
def SameP (w0 w : World) : Prop := Same w0 w
theorem SameP.same {w0 w w' : World} (h : SameP w0 w) (hk : Same w w') : SameP w0 w' := Kept.trans h hk
def PRes (w0 w' : World) (D : Int × List Int) (v : Value) : Prop :=
  ∃ (y : StPageResult) (B : Nat), v = .pointer (some ⟨B, 0, none⟩) ∧ w0.heap.size ≤ B ∧ B < w'.heap.size ∧ Blk w' B 28 [.int .i64 y.code, .slice y.page.a y.page.bs.length y.page.c] ∧ y.dat = D ∧ (∀ b, FootL y.rows b → w0.heap.size ≤ b ∧ b ≠ B) ∧ OwnL w' y.rows ∧ Same w0 w'
end Go.Proofs.Ytcnaabjgjmodeaa

namespace Go.Proofs.Ytcnaabjgjmodeaa
open Go.RowKit
set_option linter.unusedVariables false
theorem SetAns.st {ty : TypeId} {w w' : World} {e : Ending} {D : Int × List Int} (h : SetAns ty w w' e D.1 D.2) :
    ∃ y : StPageResult, e = .returned y.val ∧ y.dat = D ∧ (∀ b, FootL y.rows b → w.heap.size ≤ b) ∧ OwnL w' y.rows ∧ Same w w' := by
  obtain ⟨a, c, rfl, hf, ho, hk⟩ := h
  exact ⟨⟨D.1, ⟨ty, a, c, D.2⟩⟩, rfl, rfl, fun b hb => hf b ((footL_ints _ _ _ _ _).1 hb), OwnL.one ho, hk⟩
def pageSetD (raw : List Int) (s : Int) (x : Bool × List Int) (lsn : Int) : Int × List Int := pageSet raw s x.1 x.2 lsn
theorem setB_len {raw : List Int} (hB : IsB raw) (s : Int) (u : Bool) (d : List Int) (lsn : Int) (hdB : IsB d) : (pageSet raw s u d lsn).2.length ≤ 4096 := by
  unfold pageSet
  by_cases h1 : setBad raw s u d lsn = true
  · rw [if_pos h1]; simp
  · rw [if_neg h1]
    by_cases h2 : setFull raw s.toNat d
    · rw [if_pos h2]; simp
    · rw [if_neg h2]
      simp [setBad] at h1
      obtain ⟨hok, g1, g2, g3, g4, g5, g6⟩ := h1
      have hk : s.toNat < 32 := by omega
      have hsl := slOK_of hB hok
      have hz := usedN_zero (slotsOf raw) s.toNat 32
      rw [if_pos hk] at hz
      obtain ⟨b, sl, r, e, h3, _⟩ := setB_ok hB hok s.toNat hk u d hdB lsn (by simp [isLSN]; omega) (by omega) (by unfold cBot; unfold setFull at h2; omega)
      show (setB raw s.toNat u d lsn).length ≤ 4096
      rw [e, h3.len]
      exact Nat.le_refl _
theorem pageSetD_small {raw : List Int} (hB : IsB raw) {s : Int} {x : StPageRecord} {lsn : Int} (hx : x.isB) {y : StPageResult} (hd : y.dat = pageSetD raw s x.dat lsn) : y.size ≤ 1099511627776 := by
  have h := setB_len hB s x.used x.data.bs lsn hx
  have e : y.page.bs = (pageSetD raw s x.dat lsn).2 := congrArg Prod.snd hd
  have e2 : (pageSetD raw s x.dat lsn).2 = (pageSet raw s x.used x.data.bs lsn).2 := rfl
  unfold StPageResult.size
  rw [e, e2]
  omega
theorem specSetL_any (v : Value) (raw : List Int) (s : Int) (x : StPageRecord) (lsn : Int) (w : World) (hB : IsB raw) (hn : raw.length ≤ 1099511627776) (hv : Rd .u8 w v raw) (hxB : x.isB) (hxz : x.szs ≤ 1099511627776) (hx : StPageRecord.rd w x) :
    Calls Try.prog 20 #[v, .int .i64 s, x.val, .int .i64 lsn] w fun e w' => ∃ y : StPageResult, e = .returned y.val ∧ y.dat = pageSetD raw s x.dat lsn ∧ (∀ b, FootL y.rows b → w.heap.size ≤ b) ∧ OwnL w' y.rows ∧ Same w w' := by
  obtain ⟨u, ⟨te, ta, tc, d⟩⟩ := x
  exact (specSet_any v raw s u ta tc d lsn w hB hn hv (by unfold StPageRecord.szs at hxz; dsimp only at hxz; omega) hx).mono (fun e w' h => SetAns.st (D := pageSet raw s u d lsn) h)
theorem implSetL_any (v : Value) (raw : List Int) (s : Int) (x : StPageRecord) (lsn : Int) (w : World) (hB : IsB raw) (hn : raw.length ≤ 1099511627776) (hv : Rd .u8 w v raw) (hxB : x.isB) (hxz : x.szs ≤ 1099511627776) (hx : StPageRecord.rd w x) :
    Calls Try.prog 8 #[v, .int .i64 s, x.val, .int .i64 lsn] w fun e w' => ∃ y : StPageResult, e = .returned y.val ∧ y.dat = pageSetD raw s x.dat lsn ∧ (∀ b, FootL y.rows b → w.heap.size ≤ b) ∧ OwnL w' y.rows ∧ Same w w' := by
  obtain ⟨u, ⟨te, ta, tc, d⟩⟩ := x
  exact (implSet_any v raw s u ta tc d lsn w hB hn hv (by unfold StPageRecord.szs at hxz; dsimp only at hxz; omega) hx hxB).mono (fun e w' h => SetAns.st (D := pageSet raw s u d lsn) h)
end Go.Proofs.Ytcnaabjgjmodeaa
