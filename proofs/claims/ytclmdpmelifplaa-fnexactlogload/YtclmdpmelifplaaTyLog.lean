/-
  Log of the laws (by tools/tygen.py).
-/
import Derived.Test.YtclmdpmelifplaaOwnRows
import Derived.Test.YtclmdpmelifplaaBlk
import Derived.Test.YtclmdpmelifplaaBytes
import Derived.Test.YtclmdpmelifplaaCopyB
import Derived.Test.YtclmdpmelifplaaSzB
import Derived.Deep.DeepCutAuto
namespace Go.Proofs.Ytclmdpmelifplaa
open Go.RowKit
set_option linter.unusedVariables false
set_option linter.unusedSimpArgs false

structure StLog where
  sectors : Int
  epoch : Int
  stop : Int
  flushed : Int
  tail : BS
def StLog.val (x : StLog) : Value := .agg #[.int .i64 x.sectors, .int .i64 x.epoch, .int .i64 x.stop, .int .i64 x.flushed, x.tail.v]
def StLog.rows (x : StLog) : List Row := x.tail.rows
def StLog.dat (x : StLog) : Int × Int × Int × Int × List Int := (x.sectors, x.epoch, x.stop, x.flushed, x.tail.bs)
def StLog.size (x : StLog) : Int := (x.tail.bs.length : Int)
theorem StLog.size_le (x : StLog) : 0 ≤ x.size := by
  unfold StLog.size
  omega
def StLog.marked (x : StLog) (k : Int) : StLog := ⟨x.sectors, x.epoch, x.stop, x.flushed, x.tail.marked (k)⟩
theorem StLog.foot_marked (x : StLog) (k : Int) (b : Nat) : FootL (x.marked k).rows b ↔ FootL x.rows b := by
  exact BS.foot_marked _ _ b
def StLog.rd (w : World) (x : StLog) : Prop := Rd .u8 w x.tail.v x.tail.bs
theorem StLog.rd.kept {R : Nat → Prop} {w w' : World} {x : StLog} (h : StLog.rd w x) (hk : Kept R w w') (hr : ∀ b, FootL x.rows b → ¬ R b) : StLog.rd w' x :=
  Rd.kept (h) hk (fun b hb => hr b (((footL_ints _ _ _ _ _).2 hb)))
theorem StLog.rd.same {w w' : World} {x : StLog} (h : StLog.rd w x) (hk : Same w w') : StLog.rd w' x := h.kept hk (fun _ _ => id)
theorem StLog.own_rd {w : World} {x : StLog} (h : OwnL w x.rows) : StLog.rd w x :=
  (OwnL.of_one h).rd
def StLog.szs (x : StLog) : Int := (x.tail.bs.length : Int)
theorem StLog.szs_le (x : StLog) : 0 ≤ x.szs := by
  unfold StLog.szs
  omega

set_option maxRecDepth 100000 in
set_option maxHeartbeats 4000000 in
theorem eqLog_own (x y : StLog) (w : World) (hn : x.size ≤ 1125899906842624) (hd : x.dat = y.dat) (ha : OwnL w x.rows) (hb : OwnL w y.rows) :
    Calls Try.prog 14 #[x.val, y.val] w fun e w' => e = .returned (.bool true) ∧ Same w w' := by
  obtain ⟨xsectors, xepoch, xstop, xflushed, ⟨xtail_e, xtail_a, xtail_c, xtail_b⟩⟩ := x
  obtain ⟨ysectors, yepoch, ystop, yflushed, ⟨ytail_e, ytail_a, ytail_c, ytail_b⟩⟩ := y
  simp only [StLog.dat, Prod.mk.injEq] at hd
  obtain ⟨rfl, rfl, rfl, rfl, rfl⟩ := hd
  simp only [StLog.size] at hn
  have Hx0 := (show Hid (OwnL w [ints xtail_e .u8 (.slice xtail_a xtail_b.length xtail_c) xtail_b]) from ha)
  have Hy0 := (show Hid (OwnL w [ints ytail_e .u8 (.slice ytail_a xtail_b.length ytail_c) xtail_b]) from hb)
  clear ha hb
  dsimp only [StLog.val, BS.v]
  go_enter Try.func14, Try.ntmps14
  have hk0 : Same w ((w.alloc (.cells #[.int .i64 xsectors, .int .i64 xepoch, .int .i64 xstop, .int .i64 xflushed, .slice xtail_a xtail_b.length xtail_c] 29)).alloc (.cells #[.int .i64 xsectors, .int .i64 xepoch, .int .i64 xstop, .int .i64 xflushed, .slice ytail_a xtail_b.length ytail_c] 29)) := ((Kept.refl _ _).alloc _).alloc _
  have HK0 := (show Hid (Same w _) from hk0)
  have HBx0 := (show Hid (Blk ((w.alloc (.cells #[.int .i64 xsectors, .int .i64 xepoch, .int .i64 xstop, .int .i64 xflushed, .slice xtail_a xtail_b.length xtail_c] 29)).alloc (.cells #[.int .i64 xsectors, .int .i64 xepoch, .int .i64 xstop, .int .i64 xflushed, .slice ytail_a xtail_b.length ytail_c] 29)) w.heap.size 29 [.int .i64 xsectors, .int .i64 xepoch, .int .i64 xstop, .int .i64 xflushed, .slice xtail_a xtail_b.length xtail_c]) from (Blk.new w #[.int .i64 xsectors, .int .i64 xepoch, .int .i64 xstop, .int .i64 xflushed, .slice xtail_a xtail_b.length xtail_c] 29).alloc _)
  have HBy0 := (show Hid (Blk ((w.alloc (.cells #[.int .i64 xsectors, .int .i64 xepoch, .int .i64 xstop, .int .i64 xflushed, .slice xtail_a xtail_b.length xtail_c] 29)).alloc (.cells #[.int .i64 xsectors, .int .i64 xepoch, .int .i64 xstop, .int .i64 xflushed, .slice ytail_a xtail_b.length ytail_c] 29)) (w.heap.size + 1) 29 [.int .i64 xsectors, .int .i64 xepoch, .int .i64 xstop, .int .i64 xflushed, .slice ytail_a xtail_b.length ytail_c]) from by have h := Blk.new (w.alloc (.cells #[.int .i64 xsectors, .int .i64 xepoch, .int .i64 xstop, .int .i64 xflushed, .slice xtail_a xtail_b.length xtail_c] 29)) #[.int .i64 xsectors, .int .i64 xepoch, .int .i64 xstop, .int .i64 xflushed, .slice ytail_a xtail_b.length ytail_c] 29; rwa [World.size_alloc] at h)
  clear hk0
  go_wp2_with fail
  refine (eqByteS_own 0 _ _ xtail_b _ (by omega) (Hx0.out.of_one.same HK0.out) (Hy0.out.of_one.same HK0.out)).mono ?_
  rintro e w1 ⟨rfl, nn, hww⟩
  have hk : Same ((w.alloc (.cells #[.int .i64 xsectors, .int .i64 xepoch, .int .i64 xstop, .int .i64 xflushed, .slice xtail_a xtail_b.length xtail_c] 29)).alloc (.cells #[.int .i64 xsectors, .int .i64 xepoch, .int .i64 xstop, .int .i64 xflushed, .slice ytail_a xtail_b.length ytail_c] 29)) w1 := by rw [hww]; exact (Kept.refl _ _).drewN _
  clear hww
  have HK1 := (show Hid (Same w w1) from HK0.out.trans hk)
  have HBx1 := (show Hid (Blk w1 w.heap.size 29 [.int .i64 xsectors, .int .i64 xepoch, .int .i64 xstop, .int .i64 xflushed, .slice xtail_a xtail_b.length xtail_c]) from HBx0.out.same hk)
  have HBy1 := (show Hid (Blk w1 (w.heap.size + 1) 29 [.int .i64 xsectors, .int .i64 xepoch, .int .i64 xstop, .int .i64 xflushed, .slice ytail_a xtail_b.length ytail_c]) from HBy0.out.same hk)
  clear hk HK0 HBx0 HBy0
  go_wp2
  go_ret
  exact ⟨rfl, HK1.out⟩

set_option maxRecDepth 100000 in
set_option maxHeartbeats 4000000 in
theorem markLog_own (x : StLog) (k0 : Int) (w : World) (h0 : 0 ≤ k0) (h1 : k0 + x.size ≤ 1125899906842624) (ha : OwnL w x.rows) :
    Calls Try.prog 17 #[x.val, .int .i64 k0] w fun e w' => e = .returned (.int .i64 (k0 + x.size)) ∧ OwnL w' (x.marked k0).rows ∧ Kept (FootL x.rows) w w' := by
  have hlt := ha.lt
  have HLT := (show Hid (∀ b, FootL x.rows b → b < w.heap.size) from hlt)
  have HA := (show Hid (OwnL w x.rows) from ha)
  clear hlt
  obtain ⟨xsectors, xepoch, xstop, xflushed, ⟨xtail_e, xtail_a, xtail_c, xtail_b⟩⟩ := x
  have HO0_0 := (show Hid (OwnL w [ints xtail_e .u8 (.slice xtail_a xtail_b.length xtail_c) xtail_b]) from ha)
  clear ha
  simp only [StLog.size] at h1
  dsimp only [StLog.val, BS.v]
  go_enter Try.func17, Try.ntmps17
  have HK_0 := (show Hid (Kept (FootL (StLog.rows ⟨xsectors, xepoch, xstop, xflushed, ⟨xtail_e, xtail_a, xtail_c, xtail_b⟩⟩)) w (w.alloc (.cells #[.int .i64 xsectors, .int .i64 xepoch, .int .i64 xstop, .int .i64 xflushed, .slice xtail_a xtail_b.length xtail_c] 29))) from (Kept.refl _ _).alloc _)
  have HB_0 := (show Hid (Blk (w.alloc (.cells #[.int .i64 xsectors, .int .i64 xepoch, .int .i64 xstop, .int .i64 xflushed, .slice xtail_a xtail_b.length xtail_c] 29)) w.heap.size 29 [.int .i64 xsectors, .int .i64 xepoch, .int .i64 xstop, .int .i64 xflushed, .slice xtail_a xtail_b.length xtail_c]) from Blk.new w #[.int .i64 xsectors, .int .i64 xepoch, .int .i64 xstop, .int .i64 xflushed, .slice xtail_a xtail_b.length xtail_c] 29)
  go_wp2_with fail
  refine (markByteS_own 0 _ xtail_b (k0) _ (by omega) (by omega) (by omega) (OwnL.of_one (HO0_0.out.same ((Kept.refl _ _).alloc _)))).mono ?_
  rintro e w1 ⟨rfl, ho, hk⟩
  have ho := (show OwnL w1 (BS.rows (BS.marked ⟨xtail_e, xtail_a, xtail_c, xtail_b⟩ (k0))) from BS.own_marked.2 (OwnL.one ho))
  have hk : Kept (FootL [ints xtail_e .u8 (.slice xtail_a xtail_b.length xtail_c) xtail_b]) _ w1 := hk.mono (fun b _ e => (footL_ints _ _ _ _ _).2 e)
  have HB_1 := (show Hid (Blk w1 w.heap.size 29 [.int .i64 xsectors, .int .i64 xepoch, .int .i64 xstop, .int .i64 xflushed, .slice xtail_a xtail_b.length xtail_c]) from HB_0.out.kept hk (fun e => by have := HLT.out _ (e); omega))
  have HK_1 := (show Hid (Kept (FootL (StLog.rows ⟨xsectors, xepoch, xstop, xflushed, ⟨xtail_e, xtail_a, xtail_c, xtail_b⟩⟩)) w w1) from HK_0.out.next hk (fun b _ e => e))
  have HO0_1 := (show Hid (OwnL w1 (BS.rows (BS.marked ⟨xtail_e, xtail_a, xtail_c, xtail_b⟩ (k0)))) from ho)
  clear ho hk HB_0 HK_0 HO0_0
  go_wp2
  go_ret
  refine ⟨rfl, ?_, HK_1.out⟩
  exact HO0_1.out

set_option maxRecDepth 100000 in
set_option maxHeartbeats 4000000 in
theorem heldLog_own (x : StLog) (k0 : Int) (w : World) (h0 : 0 ≤ k0) (h1 : k0 + x.size ≤ 1125899906842624) (ha : OwnL w (x.marked k0).rows) :
    Calls Try.prog 18 #[x.val, .int .i64 k0] w fun e w' => e = .returned (.int .i64 (k0 + x.size)) ∧ Same w w' := by
  obtain ⟨xsectors, xepoch, xstop, xflushed, ⟨xtail_e, xtail_a, xtail_c, xtail_b⟩⟩ := x
  have HO0 := (show Hid (OwnL w [ints xtail_e .u8 (.slice xtail_a xtail_b.length xtail_c) (marks (k0) xtail_b.length)]) from BS.own_marked.1 (ha))
  clear ha
  simp only [StLog.size] at h1
  dsimp only [StLog.val, BS.v]
  go_enter Try.func18, Try.ntmps18
  have HK0 := (show Hid (Same w (w.alloc (.cells #[.int .i64 xsectors, .int .i64 xepoch, .int .i64 xstop, .int .i64 xflushed, .slice xtail_a xtail_b.length xtail_c] 29))) from (Kept.refl _ _).alloc _)
  have HB0 := (show Hid (Blk (w.alloc (.cells #[.int .i64 xsectors, .int .i64 xepoch, .int .i64 xstop, .int .i64 xflushed, .slice xtail_a xtail_b.length xtail_c] 29)) w.heap.size 29 [.int .i64 xsectors, .int .i64 xepoch, .int .i64 xstop, .int .i64 xflushed, .slice xtail_a xtail_b.length xtail_c]) from Blk.new w #[.int .i64 xsectors, .int .i64 xepoch, .int .i64 xstop, .int .i64 xflushed, .slice xtail_a xtail_b.length xtail_c] 29)
  have hneg0 : ¬ (k0 + (xtail_b.length : Int)) < 0 := by omega
  go_wp2_with fail
  refine (heldByteS_own 0 _ xtail_b.length (k0) _ (by omega) (by omega) (by omega) (OwnL.of_one (HO0.out.same HK0.out))).mono ?_
  rintro e w1 ⟨rfl, hww⟩
  have hk : Same (w.alloc (.cells #[.int .i64 xsectors, .int .i64 xepoch, .int .i64 xstop, .int .i64 xflushed, .slice xtail_a xtail_b.length xtail_c] 29)) w1 := by rw [hww]; exact Kept.refl _ _
  clear hww
  have HK1 := (show Hid (Same w w1) from HK0.out.trans hk)
  have HB1 := (show Hid (Blk w1 w.heap.size 29 [.int .i64 xsectors, .int .i64 xepoch, .int .i64 xstop, .int .i64 xflushed, .slice xtail_a xtail_b.length xtail_c]) from HB0.out.same hk)
  clear hk
  go_wp2
  go_ret
  exact ⟨rfl, HK1.out⟩

set_option maxRecDepth 100000 in
set_option maxHeartbeats 4000000 in
theorem szLog_any (x : StLog) (left : Int) (w : World) (h0 : 0 ≤ left) (h1 : left ≤ 1048576) (ha : StLog.rd w x) :
    Calls Try.prog 10 #[x.val, .int .i64 left] w fun e w' => ∃ r : Int, e = .returned (.int .i64 r) ∧ (r = -1 ∨ (r = left - x.szs ∧ 0 ≤ r)) ∧ Same w w' := by
  obtain ⟨xsectors, xepoch, xstop, xflushed, ⟨xtail_e, xtail_a, xtail_c, xtail_b⟩⟩ := x
  have hm0 : xtail_b.length ≤ maxLen := (ha).1
  clear ha
  dsimp only [StLog.val, BS.v]
  go_enter Try.func10, Try.ntmps10
  have HK0 := (show Hid (Same w (w.alloc (.cells #[.int .i64 xsectors, .int .i64 xepoch, .int .i64 xstop, .int .i64 xflushed, .slice xtail_a xtail_b.length xtail_c] 26))) from (Kept.refl _ _).alloc _)
  have HB0 := (show Hid (Blk (w.alloc (.cells #[.int .i64 xsectors, .int .i64 xepoch, .int .i64 xstop, .int .i64 xflushed, .slice xtail_a xtail_b.length xtail_c] 26)) w.heap.size 26 [.int .i64 xsectors, .int .i64 xepoch, .int .i64 xstop, .int .i64 xflushed, .slice xtail_a xtail_b.length xtail_c]) from Blk.new w #[.int .i64 xsectors, .int .i64 xepoch, .int .i64 xstop, .int .i64 xflushed, .slice xtail_a xtail_b.length xtail_c] 26)
  go_wp2_with fail
  refine (szByteS_any _ _ _ left _ (by omega) (by omega) hm0).mono ?_
  rintro e w1 ⟨r1, rfl, hr, hww⟩
  have hk : Same (w.alloc (.cells #[.int .i64 xsectors, .int .i64 xepoch, .int .i64 xstop, .int .i64 xflushed, .slice xtail_a xtail_b.length xtail_c] 26)) w1 := by rw [hww]; exact Kept.refl _ _
  clear hww
  replace hr : r1 = -1 ∨ (r1 = left - xtail_b.length ∧ 0 ≤ r1) := by omega
  have HK1 := (show Hid (Same w w1) from HK0.out.trans hk)
  have HB1 := (show Hid (Blk w1 w.heap.size 26 [.int .i64 xsectors, .int .i64 xepoch, .int .i64 xstop, .int .i64 xflushed, .slice xtail_a xtail_b.length xtail_c]) from HB0.out.same hk)
  clear hk
  rcases hr with rfl | ⟨hr, hr1⟩
  · go_wp2
    go_ret
    exact ⟨_, rfl, .inl rfl, HK1.out⟩
  have hle1 : r1 ≤ 1048576 := by omega
  have HR1 := (show Hid (_ = _) from hr)
  clear hr
  go_wp2
  go_ret
  exact ⟨_, rfl, .inr ⟨by have e1 := HR1.out; simp only [StLog.szs]; omega, hr1⟩, HK1.out⟩

set_option maxRecDepth 100000 in
set_option maxHeartbeats 16000000 in
theorem toLog_any (x : StLog) (w : World) (hn : x.szs ≤ 1073741824) (ha : StLog.rd w x) :
    Calls Try.prog 12 #[x.val] w fun e w' => ∃ y : StLog, e = .returned y.val ∧ y.dat = x.dat ∧ y.szs = x.szs ∧ (∀ b, FootL y.rows b → w.heap.size ≤ b) ∧ OwnL w' y.rows ∧ Same w w' := by
  obtain ⟨xsectors, xepoch, xstop, xflushed, ⟨xtail_e, xtail_a, xtail_c, xtail_b⟩⟩ := x
  have HV0 := (show Hid (Rd .u8 w (.slice xtail_a xtail_b.length xtail_c) xtail_b) from ha)
  clear ha
  simp only [StLog.szs] at hn
  dsimp only [StLog.val, BS.v]
  go_enter Try.func12, Try.ntmps12
  have hk0 : Same w (((w.alloc (.cells #[.int .i64 xsectors, .int .i64 xepoch, .int .i64 xstop, .int .i64 xflushed, .slice xtail_a xtail_b.length xtail_c] 26)).alloc (.cells #[.int .i64 0, .int .i64 0, .int .i64 0, .int .i64 0, .slice none 0 0] 29)).alloc (.cells #[.int .i64 xsectors, .int .i64 xepoch, .int .i64 xstop, .int .i64 xflushed, .slice none 0 0] 29)) := (((Kept.refl _ _).alloc _).alloc _).alloc _
  have b0 : Blk (((w.alloc (.cells #[.int .i64 xsectors, .int .i64 xepoch, .int .i64 xstop, .int .i64 xflushed, .slice xtail_a xtail_b.length xtail_c] 26)).alloc (.cells #[.int .i64 0, .int .i64 0, .int .i64 0, .int .i64 0, .slice none 0 0] 29)).alloc (.cells #[.int .i64 xsectors, .int .i64 xepoch, .int .i64 xstop, .int .i64 xflushed, .slice none 0 0] 29)) (w.heap.size) 26 [.int .i64 xsectors, .int .i64 xepoch, .int .i64 xstop, .int .i64 xflushed, .slice xtail_a xtail_b.length xtail_c] := ((Blk.new w #[.int .i64 xsectors, .int .i64 xepoch, .int .i64 xstop, .int .i64 xflushed, .slice xtail_a xtail_b.length xtail_c] 26).alloc _).alloc _
  have b1 : Blk (((w.alloc (.cells #[.int .i64 xsectors, .int .i64 xepoch, .int .i64 xstop, .int .i64 xflushed, .slice xtail_a xtail_b.length xtail_c] 26)).alloc (.cells #[.int .i64 0, .int .i64 0, .int .i64 0, .int .i64 0, .slice none 0 0] 29)).alloc (.cells #[.int .i64 xsectors, .int .i64 xepoch, .int .i64 xstop, .int .i64 xflushed, .slice none 0 0] 29)) (w.heap.size + 1) 29 [.int .i64 0, .int .i64 0, .int .i64 0, .int .i64 0, .slice none 0 0] := by have h := (Blk.new (w.alloc (.cells #[.int .i64 xsectors, .int .i64 xepoch, .int .i64 xstop, .int .i64 xflushed, .slice xtail_a xtail_b.length xtail_c] 26)) #[.int .i64 0, .int .i64 0, .int .i64 0, .int .i64 0, .slice none 0 0] 29).alloc (.cells #[.int .i64 xsectors, .int .i64 xepoch, .int .i64 xstop, .int .i64 xflushed, .slice none 0 0] 29); rwa [World.size_alloc] at h
  have b2 : Blk (((w.alloc (.cells #[.int .i64 xsectors, .int .i64 xepoch, .int .i64 xstop, .int .i64 xflushed, .slice xtail_a xtail_b.length xtail_c] 26)).alloc (.cells #[.int .i64 0, .int .i64 0, .int .i64 0, .int .i64 0, .slice none 0 0] 29)).alloc (.cells #[.int .i64 xsectors, .int .i64 xepoch, .int .i64 xstop, .int .i64 xflushed, .slice none 0 0] 29)) (w.heap.size + 1 + 1) 29 [.int .i64 xsectors, .int .i64 xepoch, .int .i64 xstop, .int .i64 xflushed, .slice none 0 0] := by have h := Blk.new ((w.alloc (.cells #[.int .i64 xsectors, .int .i64 xepoch, .int .i64 xstop, .int .i64 xflushed, .slice xtail_a xtail_b.length xtail_c] 26)).alloc (.cells #[.int .i64 0, .int .i64 0, .int .i64 0, .int .i64 0, .slice none 0 0] 29)) #[.int .i64 xsectors, .int .i64 xepoch, .int .i64 xstop, .int .i64 xflushed, .slice none 0 0] 29; rwa [World.size_alloc, World.size_alloc] at h
  have hsz : (((w.alloc (.cells #[.int .i64 xsectors, .int .i64 xepoch, .int .i64 xstop, .int .i64 xflushed, .slice xtail_a xtail_b.length xtail_c] 26)).alloc (.cells #[.int .i64 0, .int .i64 0, .int .i64 0, .int .i64 0, .slice none 0 0] 29)).alloc (.cells #[.int .i64 xsectors, .int .i64 xepoch, .int .i64 xstop, .int .i64 xflushed, .slice none 0 0] 29)).heap.size = w.heap.size + 1 + 1 + 1 := by simp only [World.size_alloc]
  go_wp2_with fail
  refine (toByteS_any _ xtail_b _ (by omega) (HV0.out.same hk0)).mono ?_
  rintro e w1 ⟨g0, rfl, hg, ho, hk⟩
  have O0 : OwnL w1 (BS.rows ⟨5, some ⟨g0, 0, none⟩, xtail_b.length, xtail_b⟩) := OwnL.one ho
  have F0 : ∀ b, FootL (BS.rows ⟨5, some ⟨g0, 0, none⟩, xtail_b.length, xtail_b⟩) b → w.heap.size + 1 + 1 < b := fun b hb => by have h := (footL_ints _ _ _ _ _).1 hb; have h2 : g0 = b := Option.some.inj h; have h3 := hg; omega
  clear ho
  have hk1 : Same w w1 := hk0.trans hk
  replace b0 : Blk w1 (w.heap.size) 26 [.int .i64 xsectors, .int .i64 xepoch, .int .i64 xstop, .int .i64 xflushed, .slice xtail_a xtail_b.length xtail_c] := b0.same hk
  replace b1 : Blk w1 (w.heap.size + 1) 29 [.int .i64 0, .int .i64 0, .int .i64 0, .int .i64 0, .slice none 0 0] := b1.same hk
  replace b2 : Blk w1 (w.heap.size + 1 + 1) 29 [.int .i64 xsectors, .int .i64 xepoch, .int .i64 xstop, .int .i64 xflushed, .slice none 0 0] := b2.same hk
  replace hsz : w.heap.size + 1 + 1 + 1 ≤ w1.heap.size := by have := hk.size; omega
  clear hk hg
  have da1_0 : w1.cell? ⟨w.heap.size, 0, none⟩ = some (.int .i64 xsectors) := b0.cell 0
  have dr1_0 : w1.cell? ⟨w.heap.size + 1, 0, none⟩ = some (.int .i64 0) := b1.cell 0
  have fr1_0 : w1.frozen? ⟨w.heap.size + 1, 0, none⟩ = false := b1.frozen 0
  have do1_0 : w1.cell? ⟨w.heap.size + 1 + 1, 0, none⟩ = some (.int .i64 xsectors) := b2.cell 0
  have fo1_0 : w1.frozen? ⟨w.heap.size + 1 + 1, 0, none⟩ = false := b2.frozen 0
  have da1_1 : w1.cell? ⟨w.heap.size, 1, none⟩ = some (.int .i64 xepoch) := b0.cell 1
  have dr1_1 : w1.cell? ⟨w.heap.size + 1, 1, none⟩ = some (.int .i64 0) := b1.cell 1
  have fr1_1 : w1.frozen? ⟨w.heap.size + 1, 1, none⟩ = false := b1.frozen 1
  have do1_1 : w1.cell? ⟨w.heap.size + 1 + 1, 1, none⟩ = some (.int .i64 xepoch) := b2.cell 1
  have fo1_1 : w1.frozen? ⟨w.heap.size + 1 + 1, 1, none⟩ = false := b2.frozen 1
  have da1_2 : w1.cell? ⟨w.heap.size, 2, none⟩ = some (.int .i64 xstop) := b0.cell 2
  have dr1_2 : w1.cell? ⟨w.heap.size + 1, 2, none⟩ = some (.int .i64 0) := b1.cell 2
  have fr1_2 : w1.frozen? ⟨w.heap.size + 1, 2, none⟩ = false := b1.frozen 2
  have do1_2 : w1.cell? ⟨w.heap.size + 1 + 1, 2, none⟩ = some (.int .i64 xstop) := b2.cell 2
  have fo1_2 : w1.frozen? ⟨w.heap.size + 1 + 1, 2, none⟩ = false := b2.frozen 2
  have da1_3 : w1.cell? ⟨w.heap.size, 3, none⟩ = some (.int .i64 xflushed) := b0.cell 3
  have dr1_3 : w1.cell? ⟨w.heap.size + 1, 3, none⟩ = some (.int .i64 0) := b1.cell 3
  have fr1_3 : w1.frozen? ⟨w.heap.size + 1, 3, none⟩ = false := b1.frozen 3
  have do1_3 : w1.cell? ⟨w.heap.size + 1 + 1, 3, none⟩ = some (.int .i64 xflushed) := b2.cell 3
  have fo1_3 : w1.frozen? ⟨w.heap.size + 1 + 1, 3, none⟩ = false := b2.frozen 3
  have da1_4 : w1.cell? ⟨w.heap.size, 4, none⟩ = some (.slice xtail_a xtail_b.length xtail_c) := b0.cell 4
  have dr1_4 : w1.cell? ⟨w.heap.size + 1, 4, none⟩ = some (.slice none 0 0) := b1.cell 4
  have fr1_4 : w1.frozen? ⟨w.heap.size + 1, 4, none⟩ = false := b1.frozen 4
  have do1_4 : w1.cell? ⟨w.heap.size + 1 + 1, 4, none⟩ = some (.slice none 0 0) := b2.cell 4
  have fo1_4 : w1.frozen? ⟨w.heap.size + 1 + 1, 4, none⟩ = false := b2.frozen 4
  have HKz := (show Hid (Same w w1) from hk1)
  have HB1 := (show Hid (Blk w1 (w.heap.size + 1) 29 [.int .i64 0, .int .i64 0, .int .i64 0, .int .i64 0, .slice none 0 0]) from b1)
  have HO0 := (show Hid (OwnL w1 (BS.rows ⟨5, some ⟨g0, 0, none⟩, xtail_b.length, xtail_b⟩)) from O0)
  have HF0 := (show Hid (∀ b, FootL (BS.rows ⟨5, some ⟨g0, 0, none⟩, xtail_b.length, xtail_b⟩) b → w.heap.size + 1 + 1 < b) from F0)
  clear b0 b1 b2 hk0 hk1 O0 F0 
  go_wp2
  refine bodyPost_ret (v := StLog.val ⟨xsectors, xepoch, xstop, xflushed, ⟨5, some ⟨g0, 0, none⟩, xtail_b.length, xtail_b⟩⟩) (by simp [StLog.val, StLog.val, BS.v, results, Try.results12, go_sem, dr1_0, dr1_1, dr1_2, dr1_3, dr1_4]) rfl ⟨⟨xsectors, xepoch, xstop, xflushed, ⟨5, some ⟨g0, 0, none⟩, xtail_b.length, xtail_b⟩⟩, rfl, ?_, ?_, ?_, ?_, ?_⟩
  · rfl
  · rfl
  · exact fun b hb => by have := HF0.out b (hb); omega
  · refine OwnL.kept (R := fun b => b = w.heap.size + 1 ∨ b = w.heap.size + 1 + 1) (show OwnL _ (StLog.rows ⟨xsectors, xepoch, xstop, xflushed, ⟨5, some ⟨g0, 0, none⟩, xtail_b.length, xtail_b⟩⟩) from HO0.out) ?_ ?_
    · exact (Kept.setCell (Kept.setCell (Kept.setCell (Kept.setCell (Kept.setCell (Kept.setCell (Kept.refl (fun b => b = w.heap.size + 1 ∨ b = w.heap.size + 1 + 1) _) (p := ⟨w.heap.size + 1 + 1, 4, none⟩) (.inr (.inr rfl)) _) (p := ⟨w.heap.size + 1, 0, none⟩) (.inr (.inl rfl)) _) (p := ⟨w.heap.size + 1, 1, none⟩) (.inr (.inl rfl)) _) (p := ⟨w.heap.size + 1, 2, none⟩) (.inr (.inl rfl)) _) (p := ⟨w.heap.size + 1, 3, none⟩) (.inr (.inl rfl)) _) (p := ⟨w.heap.size + 1, 4, none⟩) (.inr (.inl rfl)) _)
    · exact fun b hb e => by have := HF0.out b (hb); omega
  · exact (Kept.setCell (Kept.setCell (Kept.setCell (Kept.setCell (Kept.setCell (Kept.setCell HKz.out (p := ⟨w.heap.size + 1 + 1, 4, none⟩) (.inl (by simp only []; omega)) _) (p := ⟨w.heap.size + 1, 0, none⟩) (.inl (by simp only []; omega)) _) (p := ⟨w.heap.size + 1, 1, none⟩) (.inl (by simp only []; omega)) _) (p := ⟨w.heap.size + 1, 2, none⟩) (.inl (by simp only []; omega)) _) (p := ⟨w.heap.size + 1, 3, none⟩) (.inl (by simp only []; omega)) _) (p := ⟨w.heap.size + 1, 4, none⟩) (.inl (by simp only []; omega)) _)
end Go.Proofs.Ytclmdpmelifplaa
