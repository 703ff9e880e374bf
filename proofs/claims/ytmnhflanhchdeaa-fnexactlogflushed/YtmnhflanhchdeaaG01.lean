import Derived.Test.YtmnhflanhchdeaaG00
import Derived.Deep.DeepCutAuto
namespace Go.Proofs.Ytmnhflanhchdeaa
set_option maxRecDepth 100000
set_option maxHeartbeats 16000000
set_option linter.unusedVariables false
set_option linter.unusedSimpArgs false
open Go.RowKit
structure StLog where
 sectors : Int
 epoch : Int
 stop : Int
 flushed : Int
 tail : BS
def StLog.val (x : StLog) : Value := .agg #[.int .i64 x.sectors, .int .i64 x.epoch, .int .i64 x.stop, .int .i64 x.flushed, x.tail.v]
def StLog.rows (x : StLog) : List Row := x.tail.rows
def StLog.dat (x : StLog) : Int × Int × Int × Int × List Int := (x.sectors, x.epoch, x.stop, x.flushed, x.tail.bs)
def StLog.size (x : StLog) : Int := (x.tail.bs.length : Int)
theorem StLog.size_le (x : StLog) : 0 ≤ x.size := by
 unfold StLog.size
 omega
def StLog.marked (x : StLog) (k : Int) : StLog := ⟨x.sectors, x.epoch, x.stop, x.flushed, x.tail.marked (k)⟩
theorem StLog.foot_marked (x : StLog) (k : Int) (b : Nat) : FootL (x.marked k).rows b ↔ FootL x.rows b := by
 exact BS.foot_marked _ _ b
def StLog.rd (w : World) (x : StLog) : Prop := Rd .u8 w x.tail.v x.tail.bs
theorem StLog.rd.kept {R : Nat → Prop} {w w' : World} {x : StLog} (h : StLog.rd w x) (hk : Kept R w w') (hr : ∀ b, FootL x.rows b → ¬ R b) : StLog.rd w' x :=
 Rd.kept (h) hk (fun b hb => hr b (((footL_ints _ _ _ _ _).2 hb)))
theorem StLog.rd.same {w w' : World} {x : StLog} (h : StLog.rd w x) (hk : Same w w') : StLog.rd w' x := h.kept hk (fun _ _ => id)
theorem StLog.own_rd {w : World} {x : StLog} (h : OwnL w x.rows) : StLog.rd w x :=
 (OwnL.of_one h).rd
def StLog.szs (x : StLog) : Int := (x.tail.bs.length : Int)
theorem eqLog_own (x y : StLog) (w : World) (hn : x.size ≤ 1125899906842624) (hd : x.dat = y.dat) (ha : OwnL w x.rows) (hb : OwnL w y.rows) :
  Calls Try.prog 13 #[x.val, y.val] w fun e w' => e = .returned (.bool true) ∧ Same w w' := by
 obtain ⟨xsectors, xepoch, xstop, xflushed, ⟨xtail_e, xtail_a, xtail_c, xtail_b⟩⟩ := x
 obtain ⟨ysectors, yepoch, ystop, yflushed, ⟨ytail_e, ytail_a, ytail_c, ytail_b⟩⟩ := y
 simp only [StLog.dat, Prod.mk.injEq] at hd
 obtain ⟨rfl, rfl, rfl, rfl, rfl⟩ := hd
 simp only [StLog.size] at hn
 have Hx0 := (show Hid (OwnL w [ints xtail_e .u8 (.slice xtail_a xtail_b.length xtail_c) xtail_b]) from ha)
 have Hy0 := (show Hid (OwnL w [ints ytail_e .u8 (.slice ytail_a xtail_b.length ytail_c) xtail_b]) from hb)
 clear ha hb
 dsimp only [StLog.val, BS.v]
 go_enter Try.func13, Try.ntmps13
 have hk0 : Same w ((w.alloc (.cells #[.int .i64 xsectors, .int .i64 xepoch, .int .i64 xstop, .int .i64 xflushed, .slice xtail_a xtail_b.length xtail_c] 29)).alloc (.cells #[.int .i64 xsectors, .int .i64 xepoch, .int .i64 xstop, .int .i64 xflushed, .slice ytail_a xtail_b.length ytail_c] 29)) := ((Kept.refl _ _).alloc _).alloc _
 have HK0 := (show Hid (Same w _) from hk0)
 obtain ⟨_, HBx0, HBy0⟩ := new2 w [.int .i64 xsectors, .int .i64 xepoch, .int .i64 xstop, .int .i64 xflushed, .slice xtail_a xtail_b.length xtail_c] 29 [.int .i64 xsectors, .int .i64 xepoch, .int .i64 xstop, .int .i64 xflushed, .slice ytail_a xtail_b.length ytail_c] 29
 clear hk0
 go_wp2_with fail
 refine (eqByteS_own 0 _ _ xtail_b _ (by omega) (Hx0.out.of_one.same HK0.out) (Hy0.out.of_one.same HK0.out)).mono ?_
 rintro e w1 ⟨rfl, nn, hww⟩
 have hk : Same ((w.alloc (.cells #[.int .i64 xsectors, .int .i64 xepoch, .int .i64 xstop, .int .i64 xflushed, .slice xtail_a xtail_b.length xtail_c] 29)).alloc (.cells #[.int .i64 xsectors, .int .i64 xepoch, .int .i64 xstop, .int .i64 xflushed, .slice ytail_a xtail_b.length ytail_c] 29)) w1 := by rw [hww]; exact (Kept.refl _ _).drewN _
 clear hww
 have HK1 := hid (HK0.out.trans hk)
 have HBx1 := hid (HBx0.out.same hk)
 have HBy1 := hid (HBy0.out.same hk)
 clear hk HK0 HBx0 HBy0
 go_wp2
 go_ret
 exact ⟨rfl, HK1.out⟩
theorem markLog_own (x : StLog) (k0 : Int) (w : World) (h0 : 0 ≤ k0) (h1 : k0 + x.size ≤ 1125899906842624) (ha : OwnL w x.rows) :
  Calls Try.prog 16 #[x.val, .int .i64 k0] w fun e w' => e = .returned (.int .i64 (k0 + x.size)) ∧ OwnL w' (x.marked k0).rows ∧ Kept (FootL x.rows) w w' := by
 have hlt := ha.lt
 have HLT := (show Hid (∀ b, FootL x.rows b → b < w.heap.size) from hlt)
 have HA := (show Hid (OwnL w x.rows) from ha)
 clear hlt
 obtain ⟨xsectors, xepoch, xstop, xflushed, ⟨xtail_e, xtail_a, xtail_c, xtail_b⟩⟩ := x
 have HO0_0 := (show Hid (OwnL w [ints xtail_e .u8 (.slice xtail_a xtail_b.length xtail_c) xtail_b]) from ha)
 clear ha
 simp only [StLog.size] at h1
 dsimp only [StLog.val, BS.v]
 go_enter Try.func16, Try.ntmps16
 have HK_0 := (show Hid (Kept (FootL (StLog.rows ⟨xsectors, xepoch, xstop, xflushed, ⟨xtail_e, xtail_a, xtail_c, xtail_b⟩⟩)) w (w.alloc (.cells #[.int .i64 xsectors, .int .i64 xepoch, .int .i64 xstop, .int .i64 xflushed, .slice xtail_a xtail_b.length xtail_c] 29))) from (Kept.refl _ _).alloc _)
 have HB_0 := hid (Blk.newL w [.int .i64 xsectors, .int .i64 xepoch, .int .i64 xstop, .int .i64 xflushed, .slice xtail_a xtail_b.length xtail_c] 29)
 go_wp2_with fail
 refine (markByteS_own 0 _ xtail_b (k0) _ (by omega) (by omega) (by omega) (OwnL.of_one (HO0_0.out.same ((Kept.refl _ _).alloc _)))).mono ?_
 rintro e w1 ⟨rfl, ho, hk⟩
 have ho := (show OwnL w1 (BS.rows (BS.marked ⟨xtail_e, xtail_a, xtail_c, xtail_b⟩ (k0))) from BS.own_marked.2 (OwnL.one ho))
 have hk : Kept (FootL [ints xtail_e .u8 (.slice xtail_a xtail_b.length xtail_c) xtail_b]) _ w1 := hk.mono (fun b _ e => (footL_ints _ _ _ _ _).2 e)
 have HB_1 := (show Hid (Blk w1 w.heap.size 29 [.int .i64 xsectors, .int .i64 xepoch, .int .i64 xstop, .int .i64 xflushed, .slice xtail_a xtail_b.length xtail_c]) from HB_0.out.kept hk (fun e => by have := HLT.out _ (e); omega))
 have HK_1 := (show Hid (Kept (FootL (StLog.rows ⟨xsectors, xepoch, xstop, xflushed, ⟨xtail_e, xtail_a, xtail_c, xtail_b⟩⟩)) w w1) from HK_0.out.next hk (fun b _ e => e))
 have HO0_1 := (show Hid (OwnL w1 (BS.rows (BS.marked ⟨xtail_e, xtail_a, xtail_c, xtail_b⟩ (k0)))) from ho)
 clear ho hk HB_0 HK_0 HO0_0
 go_wp2
 go_ret
 refine ⟨rfl, ?_, HK_1.out⟩
 exact HO0_1.out
theorem heldLog_own (x : StLog) (k0 : Int) (w : World) (h0 : 0 ≤ k0) (h1 : k0 + x.size ≤ 1125899906842624) (ha : OwnL w (x.marked k0).rows) :
  Calls Try.prog 17 #[x.val, .int .i64 k0] w fun e w' => e = .returned (.int .i64 (k0 + x.size)) ∧ Same w w' := by
 obtain ⟨xsectors, xepoch, xstop, xflushed, ⟨xtail_e, xtail_a, xtail_c, xtail_b⟩⟩ := x
 have HO0 := (show Hid (OwnL w [ints xtail_e .u8 (.slice xtail_a xtail_b.length xtail_c) (marks (k0) xtail_b.length)]) from BS.own_marked.1 (ha))
 clear ha
 simp only [StLog.size] at h1
 dsimp only [StLog.val, BS.v]
 go_enter Try.func17, Try.ntmps17
 obtain ⟨HK0, HB0⟩ := new1 w [.int .i64 xsectors, .int .i64 xepoch, .int .i64 xstop, .int .i64 xflushed, .slice xtail_a xtail_b.length xtail_c] 29
 have hneg0 : ¬ (k0 + (xtail_b.length : Int)) < 0 := by omega
 go_wp2_with fail
 refine (heldByteS_own 0 _ xtail_b.length (k0) _ (by omega) (by omega) (by omega) (OwnL.of_one (HO0.out.same HK0.out))).mono ?_
 rintro e w1 ⟨rfl, hww⟩
 have hk : Same (w.alloc (.cells #[.int .i64 xsectors, .int .i64 xepoch, .int .i64 xstop, .int .i64 xflushed, .slice xtail_a xtail_b.length xtail_c] 29)) w1 := by rw [hww]; exact Kept.refl _ _
 clear hww
 have HK1 := hid (HK0.out.trans hk)
 have HB1 := hid (HB0.out.same hk)
 clear hk
 go_wp2
 go_ret
 exact ⟨rfl, HK1.out⟩
theorem szLog_any (x : StLog) (left : Int) (w : World) (h0 : 0 ≤ left) (h1 : left ≤ 1048576) (ha : StLog.rd w x) :
  Calls Try.prog 9 #[x.val, .int .i64 left] w fun e w' => ∃ r : Int, e = .returned (.int .i64 r) ∧ (r = -1 ∨ (r = left - x.szs ∧ 0 ≤ r)) ∧ Same w w' := by
 obtain ⟨xsectors, xepoch, xstop, xflushed, ⟨xtail_e, xtail_a, xtail_c, xtail_b⟩⟩ := x
 have hm0 : xtail_b.length ≤ maxLen := (ha).1
 clear ha
 dsimp only [StLog.val, BS.v]
 go_enter Try.func9, Try.ntmps9
 obtain ⟨HK0, HB0⟩ := new1 w [.int .i64 xsectors, .int .i64 xepoch, .int .i64 xstop, .int .i64 xflushed, .slice xtail_a xtail_b.length xtail_c] 26
 go_wp2_with fail
 refine (szByteS_any _ _ _ left _ (by omega) (by omega) hm0).mono ?_
 rintro e w1 ⟨r1, rfl, hr, hww⟩
 have hk : Same (w.alloc (.cells #[.int .i64 xsectors, .int .i64 xepoch, .int .i64 xstop, .int .i64 xflushed, .slice xtail_a xtail_b.length xtail_c] 26)) w1 := by rw [hww]; exact Kept.refl _ _
 clear hww
 replace hr : r1 = -1 ∨ (r1 = left - xtail_b.length ∧ 0 ≤ r1) := by omega
 have HK1 := hid (HK0.out.trans hk)
 have HB1 := hid (HB0.out.same hk)
 clear hk
 rcases hr with rfl | ⟨hr, hr1⟩
 ·go_wp2
  go_ret
  exact ⟨_, rfl, .inl rfl, HK1.out⟩
 have hle1 : r1 ≤ 1048576 := by omega
 have HR1 := (show Hid (_ = _) from hr)
 clear hr
 go_wp2
 go_ret
 exact ⟨_, rfl, .inr ⟨by have e1 := HR1.out; simp only [StLog.szs]; omega, hr1⟩, HK1.out⟩
theorem toLog_any (x : StLog) (w : World) (hn : x.szs ≤ 1073741824) (ha : StLog.rd w x) :
  Calls Try.prog 11 #[x.val] w fun e w' => ∃ y : StLog, e = .returned y.val ∧ y.dat = x.dat ∧ y.szs = x.szs ∧ (∀ b, FootL y.rows b → w.heap.size ≤ b) ∧ OwnL w' y.rows ∧ Same w w' := by
 obtain ⟨xsectors, xepoch, xstop, xflushed, ⟨xtail_e, xtail_a, xtail_c, xtail_b⟩⟩ := x
 have HV0 := (show Hid (Rd .u8 w (.slice xtail_a xtail_b.length xtail_c) xtail_b) from ha)
 clear ha
 simp only [StLog.szs] at hn
 dsimp only [StLog.val, BS.v]
 go_enter Try.func11, Try.ntmps11
 have hk0 : Same w (((w.alloc (.cells #[.int .i64 xsectors, .int .i64 xepoch, .int .i64 xstop, .int .i64 xflushed, .slice xtail_a xtail_b.length xtail_c] 26)).alloc (.cells #[.int .i64 0, .int .i64 0, .int .i64 0, .int .i64 0, .slice none 0 0] 29)).alloc (.cells #[.int .i64 xsectors, .int .i64 xepoch, .int .i64 xstop, .int .i64 xflushed, .slice none 0 0] 29)) := (((Kept.refl _ _).alloc _).alloc _).alloc _
 have b0 : Blk (((w.alloc (.cells #[.int .i64 xsectors, .int .i64 xepoch, .int .i64 xstop, .int .i64 xflushed, .slice xtail_a xtail_b.length xtail_c] 26)).alloc (.cells #[.int .i64 0, .int .i64 0, .int .i64 0, .int .i64 0, .slice none 0 0] 29)).alloc (.cells #[.int .i64 xsectors, .int .i64 xepoch, .int .i64 xstop, .int .i64 xflushed, .slice none 0 0] 29)) (w.heap.size) 26 [.int .i64 xsectors, .int .i64 xepoch, .int .i64 xstop, .int .i64 xflushed, .slice xtail_a xtail_b.length xtail_c] := ((Blk.new w #[.int .i64 xsectors, .int .i64 xepoch, .int .i64 xstop, .int .i64 xflushed, .slice xtail_a xtail_b.length xtail_c] 26).alloc _).alloc _
 have b1 : Blk (((w.alloc (.cells #[.int .i64 xsectors, .int .i64 xepoch, .int .i64 xstop, .int .i64 xflushed, .slice xtail_a xtail_b.length xtail_c] 26)).alloc (.cells #[.int .i64 0, .int .i64 0, .int .i64 0, .int .i64 0, .slice none 0 0] 29)).alloc (.cells #[.int .i64 xsectors, .int .i64 xepoch, .int .i64 xstop, .int .i64 xflushed, .slice none 0 0] 29)) (w.heap.size + 1) 29 [.int .i64 0, .int .i64 0, .int .i64 0, .int .i64 0, .slice none 0 0] := by have h := (Blk.new (w.alloc (.cells #[.int .i64 xsectors, .int .i64 xepoch, .int .i64 xstop, .int .i64 xflushed, .slice xtail_a xtail_b.length xtail_c] 26)) #[.int .i64 0, .int .i64 0, .int .i64 0, .int .i64 0, .slice none 0 0] 29).alloc (.cells #[.int .i64 xsectors, .int .i64 xepoch, .int .i64 xstop, .int .i64 xflushed, .slice none 0 0] 29); rwa [World.size_alloc] at h
 have b2 : Blk (((w.alloc (.cells #[.int .i64 xsectors, .int .i64 xepoch, .int .i64 xstop, .int .i64 xflushed, .slice xtail_a xtail_b.length xtail_c] 26)).alloc (.cells #[.int .i64 0, .int .i64 0, .int .i64 0, .int .i64 0, .slice none 0 0] 29)).alloc (.cells #[.int .i64 xsectors, .int .i64 xepoch, .int .i64 xstop, .int .i64 xflushed, .slice none 0 0] 29)) (w.heap.size + 1 + 1) 29 [.int .i64 xsectors, .int .i64 xepoch, .int .i64 xstop, .int .i64 xflushed, .slice none 0 0] := by have h := Blk.new ((w.alloc (.cells #[.int .i64 xsectors, .int .i64 xepoch, .int .i64 xstop, .int .i64 xflushed, .slice xtail_a xtail_b.length xtail_c] 26)).alloc (.cells #[.int .i64 0, .int .i64 0, .int .i64 0, .int .i64 0, .slice none 0 0] 29)) #[.int .i64 xsectors, .int .i64 xepoch, .int .i64 xstop, .int .i64 xflushed, .slice none 0 0] 29; rwa [World.size_alloc, World.size_alloc] at h
 have hsz : (((w.alloc (.cells #[.int .i64 xsectors, .int .i64 xepoch, .int .i64 xstop, .int .i64 xflushed, .slice xtail_a xtail_b.length xtail_c] 26)).alloc (.cells #[.int .i64 0, .int .i64 0, .int .i64 0, .int .i64 0, .slice none 0 0] 29)).alloc (.cells #[.int .i64 xsectors, .int .i64 xepoch, .int .i64 xstop, .int .i64 xflushed, .slice none 0 0] 29)).heap.size = w.heap.size + 1 + 1 + 1 := by simp only [World.size_alloc]
 go_wp2_with fail
 refine (toByteS_any _ xtail_b _ (by omega) (HV0.out.same hk0)).mono ?_
 rintro e w1 ⟨g0, rfl, hg, ho, hk⟩
 have O0 : OwnL w1 (BS.rows ⟨5, some ⟨g0, 0, none⟩, xtail_b.length, xtail_b⟩) := OwnL.one ho
 have F0 : ∀ b, FootL (BS.rows ⟨5, some ⟨g0, 0, none⟩, xtail_b.length, xtail_b⟩) b → w.heap.size + 1 + 1 < b := fun b hb => by have h := (footL_ints _ _ _ _ _).1 hb; have h2 : g0 = b := Option.some.inj h; have h3 := hg; omega
 clear ho
 have hk1 : Same w w1 := hk0.trans hk
 replace b0 : Blk w1 (w.heap.size) 26 [.int .i64 xsectors, .int .i64 xepoch, .int .i64 xstop, .int .i64 xflushed, .slice xtail_a xtail_b.length xtail_c] := b0.same hk
 replace b1 : Blk w1 (w.heap.size + 1) 29 [.int .i64 0, .int .i64 0, .int .i64 0, .int .i64 0, .slice none 0 0] := b1.same hk
 replace b2 : Blk w1 (w.heap.size + 1 + 1) 29 [.int .i64 xsectors, .int .i64 xepoch, .int .i64 xstop, .int .i64 xflushed, .slice none 0 0] := b2.same hk
 replace hsz : w.heap.size + 1 + 1 + 1 ≤ w1.heap.size := by have := hk.size; omega
 clear hk hg
 have da1_0 := b0.c0
 have dr1_0 := b1.c0
 have fr1_0 : w1.frozen? ⟨w.heap.size + 1, 0, none⟩ = false := b1.frozen 0
 have do1_0 := b2.c0
 have fo1_0 : w1.frozen? ⟨w.heap.size + 1 + 1, 0, none⟩ = false := b2.frozen 0
 have da1_1 := b0.c1
 have dr1_1 := b1.c1
 have fr1_1 : w1.frozen? ⟨w.heap.size + 1, 1, none⟩ = false := b1.frozen 1
 have do1_1 := b2.c1
 have fo1_1 : w1.frozen? ⟨w.heap.size + 1 + 1, 1, none⟩ = false := b2.frozen 1
 have da1_2 := b0.c2
 have dr1_2 := b1.c2
 have fr1_2 : w1.frozen? ⟨w.heap.size + 1, 2, none⟩ = false := b1.frozen 2
 have do1_2 := b2.c2
 have fo1_2 : w1.frozen? ⟨w.heap.size + 1 + 1, 2, none⟩ = false := b2.frozen 2
 have da1_3 := b0.c3
 have dr1_3 := b1.c3
 have fr1_3 : w1.frozen? ⟨w.heap.size + 1, 3, none⟩ = false := b1.frozen 3
 have do1_3 := b2.c3
 have fo1_3 : w1.frozen? ⟨w.heap.size + 1 + 1, 3, none⟩ = false := b2.frozen 3
 have da1_4 := b0.c4
 have dr1_4 := b1.c4
 have fr1_4 : w1.frozen? ⟨w.heap.size + 1, 4, none⟩ = false := b1.frozen 4
 have do1_4 := b2.c4
 have fo1_4 : w1.frozen? ⟨w.heap.size + 1 + 1, 4, none⟩ = false := b2.frozen 4
 have HKz := (show Hid (Same w w1) from hk1)
 have HB1 := (show Hid (Blk w1 (w.heap.size + 1) 29 [.int .i64 0, .int .i64 0, .int .i64 0, .int .i64 0, .slice none 0 0]) from b1)
 have HO0 := (show Hid (OwnL w1 (BS.rows ⟨5, some ⟨g0, 0, none⟩, xtail_b.length, xtail_b⟩)) from O0)
 have HF0 := (show Hid (∀ b, FootL (BS.rows ⟨5, some ⟨g0, 0, none⟩, xtail_b.length, xtail_b⟩) b → w.heap.size + 1 + 1 < b) from F0)
 clear b0 b1 b2 hk0 hk1 O0 F0 
 go_wp2
 refine bodyPost_ret (v := StLog.val ⟨xsectors, xepoch, xstop, xflushed, ⟨5, some ⟨g0, 0, none⟩, xtail_b.length, xtail_b⟩⟩) (by simp [StLog.val, StLog.val, BS.v, results, Try.results11, go_sem, dr1_0, dr1_1, dr1_2, dr1_3, dr1_4]) rfl ⟨⟨xsectors, xepoch, xstop, xflushed, ⟨5, some ⟨g0, 0, none⟩, xtail_b.length, xtail_b⟩⟩, rfl, ?_, ?_, ?_, ?_, ?_⟩
 ·rfl
 ·rfl
 ·exact fun b hb => by have := HF0.out b (hb); omega
 ·refine OwnL.kept (R := fun b => b = w.heap.size + 1 ∨ b = w.heap.size + 1 + 1) (show OwnL _ (StLog.rows ⟨xsectors, xepoch, xstop, xflushed, ⟨5, some ⟨g0, 0, none⟩, xtail_b.length, xtail_b⟩⟩) from HO0.out) ?_ ?_
  ·exact (Kept.setCell (Kept.setCell (Kept.setCell (Kept.setCell (Kept.setCell (Kept.setCell (Kept.refl (fun b => b = w.heap.size + 1 ∨ b = w.heap.size + 1 + 1) _) (p := ⟨w.heap.size + 1 + 1, 4, none⟩) (.inr (.inr rfl)) _) (p := ⟨w.heap.size + 1, 0, none⟩) (.inr (.inl rfl)) _) (p := ⟨w.heap.size + 1, 1, none⟩) (.inr (.inl rfl)) _) (p := ⟨w.heap.size + 1, 2, none⟩) (.inr (.inl rfl)) _) (p := ⟨w.heap.size + 1, 3, none⟩) (.inr (.inl rfl)) _) (p := ⟨w.heap.size + 1, 4, none⟩) (.inr (.inl rfl)) _)
  ·exact fun b hb e => by have := HF0.out b (hb); omega
 ·exact (Kept.setCell (Kept.setCell (Kept.setCell (Kept.setCell (Kept.setCell (Kept.setCell HKz.out (p := ⟨w.heap.size + 1 + 1, 4, none⟩) (.inl (by simp only []; omega)) _) (p := ⟨w.heap.size + 1, 0, none⟩) (.inl (by simp only []; omega)) _) (p := ⟨w.heap.size + 1, 1, none⟩) (.inl (by simp only []; omega)) _) (p := ⟨w.heap.size + 1, 2, none⟩) (.inl (by simp only []; omega)) _) (p := ⟨w.heap.size + 1, 3, none⟩) (.inl (by simp only []; omega)) _) (p := ⟨w.heap.size + 1, 4, none⟩) (.inl (by simp only []; omega)) _)
def logPlace (s l : Int) : Int := if (16 ≤ s ∧ s ≤ 800) ∧ (512 ≤ l ∧ l ≤ 1099511627776) then 2 + (l / 512 - 1) % s else -1
theorem logPlace_no {s l : Int} (h : ¬ ((16 ≤ s ∧ s ≤ 800) ∧ (512 ≤ l ∧ l ≤ 1099511627776))) : logPlace s l = -1 := if_neg h
theorem logPlace_yes {s l : Int} (h : (16 ≤ s ∧ s ≤ 800) ∧ (512 ≤ l ∧ l ≤ 1099511627776)) : logPlace s l = 2 + (l / 512 - 1) % s := if_pos h
theorem inB_true {v a b : Int} (h : a ≤ v ∧ v ≤ b) : inB v a b = true := by simp [inB, h.1, h.2]
theorem inB_false {v a b : Int} (h : ¬ (a ≤ v ∧ v ≤ b)) : inB v a b = false := by simp [inB]; omega
theorem specPlace_any (s l : Int) (w : World) : Calls Try.prog 7 #[.int .i64 s, .int .i64 l] w fun e w' => e = .returned (.int .i64 (logPlace s l)) ∧ Same w w' := by
 have h1 := fun wx => l4In_any s 16 800 wx
 by_cases hs : 16 ≤ s ∧ s ≤ 800
 ·rw [inB_true hs] at h1
  have h2 := fun wx => l4In_any l 512 1099511627776 wx
  by_cases hl : 512 ≤ l ∧ l ≤ 1099511627776
  ·rw [inB_true hl] at h2
   rw [logPlace_yes ⟨hs, hl⟩]
   obtain ⟨hs1, hs2⟩ := hs
   obtain ⟨hl1, hl2⟩ := hl
   have hs0 : ¬ s = 0 := by omega
   have hm1 := Int.emod_nonneg (l / 512 - 1) hs0
   have hm2 := Int.emod_lt_of_pos (l / 512 - 1) (show 0 < s by omega)
   have hq : 0 ≤ l / 512 - 1 := by omega
   go_enter Try.func7, Try.ntmps7
   go_wp2_with (first
    | (go_at_call 23; (with_reducible refine (h1 _).mono ?_); rintro e w1 ⟨rfl, hk1⟩)
    | (go_at_call 23; (with_reducible refine (h2 _).mono ?_); rintro e w2 ⟨rfl, hk2⟩))
   go_ret
   exact ⟨ret_int (by omega), hk1.trans hk2⟩
  ·rw [inB_false hl] at h2
   rw [logPlace_no (fun h => hl h.2)]
   go_enter Try.func7, Try.ntmps7
   go_wp2_with (first
    | (go_at_call 23; (with_reducible refine (h1 _).mono ?_); rintro e w1 ⟨rfl, hk1⟩)
    | (go_at_call 23; (with_reducible refine (h2 _).mono ?_); rintro e w2 ⟨rfl, hk2⟩))
   go_ret
   exact ⟨rfl, hk1.trans hk2⟩
 ·rw [inB_false hs] at h1
  rw [logPlace_no (fun h => hs h.1)]
  go_enter Try.func7, Try.ntmps7
  go_wp2_with (go_at_call 23; (with_reducible refine (h1 _).mono ?_); rintro e w1 ⟨rfl, hk1⟩)
  go_ret
  exact ⟨rfl, hk1⟩
theorem isLogSize_any (s : Int) (w : World) : Calls Try.prog 24 #[.int .i64 s] w fun e w' => e = .returned (.bool (inB s 16 800)) ∧ Same w w' := by
 unfold inB
 by_cases h : 16 ≤ s
 ·go_enter Try.func24, Try.ntmps24
  go_wp2
  go_ret
  exact ⟨by simp [h], Kept.refl _ _⟩
 ·go_enter Try.func24, Try.ntmps24
  go_wp2
  go_ret
  exact ⟨by rw [show decide (16 ≤ s) = false from by simp; omega]; rfl, Kept.refl _ _⟩
theorem implPlace_any (s l : Int) (w : World) : Calls Try.prog 8 #[.int .i64 s, .int .i64 l] w fun e w' => e = .returned (.int .i64 (logPlace s l)) ∧ Same w w' := by
 have h1 := fun wx => isLogSize_any s wx
 by_cases hs : 16 ≤ s ∧ s ≤ 800
 ·rw [inB_true hs] at h1
  by_cases hl : 512 ≤ l ∧ l ≤ 1099511627776
  ·rw [logPlace_yes ⟨hs, hl⟩]
   obtain ⟨hs1, hs2⟩ := hs
   obtain ⟨hl1, hl2⟩ := hl
   have hs0 : ¬ s = 0 := by omega
   have hl3 : ¬ l < 512 := by omega
   have hl4 : ¬ 1099511627776 < l := by omega
   have hm1 := Int.emod_nonneg (l / 512 - 1) hs0
   have hm2 := Int.emod_lt_of_pos (l / 512 - 1) (show 0 < s by omega)
   have hq : 0 ≤ l / 512 - 1 := by omega
   go_enter Try.func8, Try.ntmps8
   go_wp2_with (go_at_call 24; (with_reducible refine (h1 _).mono ?_); rintro e w1 ⟨rfl, hk1⟩)
   go_ret
   exact ⟨ret_int (by omega), hk1⟩
  ·rw [logPlace_no (fun h => hl h.2)]
   by_cases hl1 : l < 512
   ·go_enter Try.func8, Try.ntmps8
    go_wp2_with (go_at_call 24; (with_reducible refine (h1 _).mono ?_); rintro e w1 ⟨rfl, hk1⟩)
    go_ret
    exact ⟨rfl, hk1⟩
   ·have hl2 : 1099511627776 < l := by omega
    go_enter Try.func8, Try.ntmps8
    go_wp2_with (go_at_call 24; (with_reducible refine (h1 _).mono ?_); rintro e w1 ⟨rfl, hk1⟩)
    go_ret
    exact ⟨rfl, hk1⟩
 ·rw [inB_false hs] at h1
  rw [logPlace_no (fun h => hs h.1)]
  go_enter Try.func8, Try.ntmps8
  go_wp2_with (go_at_call 24; (with_reducible refine (h1 _).mono ?_); rintro e w1 ⟨rfl, hk1⟩)
  go_ret
  exact ⟨rfl, hk1⟩
def logFault (s e st fl : Int) (n : Nat) : Int :=
 if ¬ (16 ≤ s ∧ s ≤ 800) then 1 else if ¬ (1 ≤ e ∧ e ≤ 4294967295) then 2 else if fl < 512 ∨ st < fl ∨ 1099511627776 < st then 3 else if (n : Int) ≠ st - fl + fl % 512 then 4 else 0
def logFd (d : Int × Int × Int × Int × List Int) : Int := logFault d.1 d.2.1 d.2.2.1 d.2.2.2.1 d.2.2.2.2.length
theorem logFault_good {s e st fl : Int} {n : Nat} (h : logFault s e st fl n = 0) : (16 ≤ s ∧ s ≤ 800) ∧ (1 ≤ e ∧ e ≤ 4294967295) ∧ 512 ≤ fl ∧ fl ≤ st ∧ st ≤ 1099511627776 ∧ (n : Int) = st - fl + fl % 512 := by
 unfold logFault at h
 split at h
 ·cases h
 ·split at h
  ·cases h
  ·split at h
   ·cases h
   ·split at h
    ·cases h
    ·omega
def StLog.isB (x : StLog) : Prop := IsB x.tail.bs
theorem StLog.isB_dat {x y : StLog} (h : y.dat = x.dat) (hx : x.isB) : y.isB := by
 simp only [StLog.dat, Prod.mk.injEq] at h
 obtain ⟨_, _, _, _, h3⟩ := h
 unfold StLog.isB at *
 rw [h3]
 exact hx
theorem StLog.size_rd {w : World} {x : StLog} (h : StLog.rd w x) : x.size ≤ 4 * x.szs := by
 simp only [StLog.size, StLog.szs]
 omega
theorem sectorStart_any (p : Int) (w : World) (h0 : 0 ≤ p) (h1 : p ≤ 1099511627776) : Calls Try.prog 27 #[.int .i64 p] w fun e w' => e = .returned (.int .i64 (p - p % 512)) ∧ Same w w' := by
 go_enter Try.func27, Try.ntmps27
 go_wp2
 go_ret
 exact ⟨ret_int (by omega), Kept.refl _ _⟩
theorem specLogFault_any (x : StLog) (w : World) (hB : x.isB) (hn : x.szs ≤ 1073741824) (hv : StLog.rd w x) :
  Calls Try.prog 10 #[x.val] w fun e w' => e = .returned (.int .i64 (logFd x.dat)) ∧ Same w w' := by
 obtain ⟨s, ep, st, fl, te, ta, tc, tb⟩ := x
 simp only [StLog.szs] at hn
 clear hB hv
 dsimp only [StLog.val, StLog.dat, logFd, BS.v, logFault]
 have h1 := fun wx => l4In_any s 16 800 wx
 have h2 := fun wx => l4In_any ep 1 4294967295 wx
 have b0 := Blk.new w #[.int .i64 s, .int .i64 ep, .int .i64 st, .int .i64 fl, .slice ta tb.length tc] 29
 by_cases hs : 16 ≤ s ∧ s ≤ 800
 ·rw [inB_true hs] at h1
  rw [if_neg (not_not_intro hs)]
  by_cases he : 1 ≤ ep ∧ ep ≤ 4294967295
  ·rw [inB_true he] at h2
   rw [if_neg (not_not_intro he)]
   clear hs he
   by_cases hp : fl < 512 ∨ st < fl ∨ 1099511627776 < st
   ·rw [if_pos hp]
    by_cases hp1 : fl < 512
    ·clear hp
     go_enter Try.func10, Try.ntmps10
     go_wp2_with (first
      | (go_at_call 23; (with_reducible refine (h1 _).mono ?_); rintro e w1 ⟨rfl, hk1⟩; have b1 := b0.same hk1; have c1 : w1.cell? ⟨w.heap.size, 1, none⟩ = some (.int .i64 ep) := b1.cell 1)
      | (go_at_call 23; (with_reducible refine (h2 _).mono ?_); rintro e w2 ⟨rfl, hk2⟩; have b2 := b1.same hk2; have c2 : w2.cell? ⟨w.heap.size, 2, none⟩ = some (.int .i64 st) := b2.cell 2; have c3 : w2.cell? ⟨w.heap.size, 3, none⟩ = some (.int .i64 fl) := b2.cell 3; have c4 : w2.cell? ⟨w.heap.size, 4, none⟩ = some (.slice ta tb.length tc) := b2.cell 4))
     go_ret
     exact ⟨rfl, (((Kept.refl _ _).alloc _).trans hk1).trans hk2⟩
    ·by_cases hp2 : st < fl
     ·clear hp
      go_enter Try.func10, Try.ntmps10
      go_wp2_with (first
       | (go_at_call 23; (with_reducible refine (h1 _).mono ?_); rintro e w1 ⟨rfl, hk1⟩; have b1 := b0.same hk1; have c1 : w1.cell? ⟨w.heap.size, 1, none⟩ = some (.int .i64 ep) := b1.cell 1)
       | (go_at_call 23; (with_reducible refine (h2 _).mono ?_); rintro e w2 ⟨rfl, hk2⟩; have b2 := b1.same hk2; have c2 : w2.cell? ⟨w.heap.size, 2, none⟩ = some (.int .i64 st) := b2.cell 2; have c3 : w2.cell? ⟨w.heap.size, 3, none⟩ = some (.int .i64 fl) := b2.cell 3; have c4 : w2.cell? ⟨w.heap.size, 4, none⟩ = some (.slice ta tb.length tc) := b2.cell 4))
      go_ret
      exact ⟨rfl, (((Kept.refl _ _).alloc _).trans hk1).trans hk2⟩
     ·have hp3 : 1099511627776 < st := by omega
      clear hp
      go_enter Try.func10, Try.ntmps10
      go_wp2_with (first
       | (go_at_call 23; (with_reducible refine (h1 _).mono ?_); rintro e w1 ⟨rfl, hk1⟩; have b1 := b0.same hk1; have c1 : w1.cell? ⟨w.heap.size, 1, none⟩ = some (.int .i64 ep) := b1.cell 1)
       | (go_at_call 23; (with_reducible refine (h2 _).mono ?_); rintro e w2 ⟨rfl, hk2⟩; have b2 := b1.same hk2; have c2 : w2.cell? ⟨w.heap.size, 2, none⟩ = some (.int .i64 st) := b2.cell 2; have c3 : w2.cell? ⟨w.heap.size, 3, none⟩ = some (.int .i64 fl) := b2.cell 3; have c4 : w2.cell? ⟨w.heap.size, 4, none⟩ = some (.slice ta tb.length tc) := b2.cell 4))
      go_ret
      exact ⟨rfl, (((Kept.refl _ _).alloc _).trans hk1).trans hk2⟩
   ·rw [if_neg hp]
    have hp1 : ¬ fl < 512 := by omega
    have hp2 : ¬ st < fl := by omega
    have hp3 : ¬ 1099511627776 < st := by omega
    clear hp
    by_cases ht : (tb.length : Int) ≠ st - fl + fl % 512
    ·rw [if_pos ht]
     go_enter Try.func10, Try.ntmps10
     go_wp2_with (first
      | (go_at_call 23; (with_reducible refine (h1 _).mono ?_); rintro e w1 ⟨rfl, hk1⟩; have b1 := b0.same hk1; have c1 : w1.cell? ⟨w.heap.size, 1, none⟩ = some (.int .i64 ep) := b1.cell 1)
      | (go_at_call 23; (with_reducible refine (h2 _).mono ?_); rintro e w2 ⟨rfl, hk2⟩; have b2 := b1.same hk2; have c2 : w2.cell? ⟨w.heap.size, 2, none⟩ = some (.int .i64 st) := b2.cell 2; have c3 : w2.cell? ⟨w.heap.size, 3, none⟩ = some (.int .i64 fl) := b2.cell 3; have c4 : w2.cell? ⟨w.heap.size, 4, none⟩ = some (.slice ta tb.length tc) := b2.cell 4))
     go_ret
     exact ⟨rfl, (((Kept.refl _ _).alloc _).trans hk1).trans hk2⟩
    ·rw [if_neg ht]
     have ht' : (tb.length : Int) = st - fl + fl % 512 := by omega
     clear ht
     go_enter Try.func10, Try.ntmps10
     go_wp2_with (first
      | (go_at_call 23; (with_reducible refine (h1 _).mono ?_); rintro e w1 ⟨rfl, hk1⟩; have b1 := b0.same hk1; have c1 : w1.cell? ⟨w.heap.size, 1, none⟩ = some (.int .i64 ep) := b1.cell 1)
      | (go_at_call 23; (with_reducible refine (h2 _).mono ?_); rintro e w2 ⟨rfl, hk2⟩; have b2 := b1.same hk2; have c2 : w2.cell? ⟨w.heap.size, 2, none⟩ = some (.int .i64 st) := b2.cell 2; have c3 : w2.cell? ⟨w.heap.size, 3, none⟩ = some (.int .i64 fl) := b2.cell 3; have c4 : w2.cell? ⟨w.heap.size, 4, none⟩ = some (.slice ta tb.length tc) := b2.cell 4))
     go_ret
     exact ⟨rfl, (((Kept.refl _ _).alloc _).trans hk1).trans hk2⟩
  ·rw [inB_false he] at h2
   rw [if_pos he]
   clear hs he
   go_enter Try.func10, Try.ntmps10
   go_wp2_with (first
    | (go_at_call 23; (with_reducible refine (h1 _).mono ?_); rintro e w1 ⟨rfl, hk1⟩; have b1 := b0.same hk1; have c1 : w1.cell? ⟨w.heap.size, 1, none⟩ = some (.int .i64 ep) := b1.cell 1)
    | (go_at_call 23; (with_reducible refine (h2 _).mono ?_); rintro e w2 ⟨rfl, hk2⟩))
   go_ret
   exact ⟨rfl, (((Kept.refl _ _).alloc _).trans hk1).trans hk2⟩
 ·rw [inB_false hs] at h1
  rw [if_pos hs]
  go_enter Try.func10, Try.ntmps10
  go_wp2_with (go_at_call 23; (with_reducible refine (h1 _).mono ?_); rintro e w1 ⟨rfl, hk1⟩)
  go_ret
  exact ⟨rfl, ((Kept.refl _ _).alloc _).trans hk1⟩
end Go.Proofs.Ytmnhflanhchdeaa
