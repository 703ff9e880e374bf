import Derived.Test.YtlmcaodiiadlkaaG01
import Derived.Test.YtlmcaodiiadlkaaG00
import Derived.Test.YtlmcaodiiadlkaaG16
import Derived.Deep.DeepCutAuto
namespace Go.Proofs.Ytlmcaodiiadlkaa
set_option linter.unusedVariables false
set_option linter.unusedSimpArgs false
set_option maxRecDepth 100000
set_option maxHeartbeats 4000000
open Go.RowKit Go.ChangeShapes Go.WideShapes Go.ChangeAt
structure StStep where
 kd : Int
 tx : Int
 rid : Int
 cnt : Int
 data : BS
 keep : FR
def StStep.val (x : StStep) : Value := .agg #[.int .i64 x.kd, .int .i64 x.tx, .int .i64 x.rid, .int .i64 x.cnt, x.data.v, x.keep.v]
def StStep.rows (x : StStep) : List Row := x.data.rows ++ ((x.keep).rows 1)
def StStep.dat (x : StStep) : Int × Int × Int × Int × List Int × List Int := (x.kd, x.tx, x.rid, x.cnt, x.data.bs, x.keep.bs)
def StStep.size (x : StStep) : Int := (x.data.bs.length : Int) + (x.keep.bs.length : Int)
def StStep.marked (x : StStep) (k : Int) : StStep := ⟨x.kd, x.tx, x.rid, x.cnt, x.data.marked (k), x.keep.marked (k + (x.data.bs.length : Int))⟩
def StStep.rd (w : World) (x : StStep) : Prop := Rd .u8 w x.data.v x.data.bs ∧ RdF 1 w x.keep
theorem StStep.rd.kept {R : Nat → Prop} {w w' : World} {x : StStep} (h : StStep.rd w x) (hk : Kept R w w') (hr : ∀ b, FootL x.rows b → ¬ R b) : StStep.rd w' x :=
 ⟨Rd.kept (h.1) hk (fun b hb => hr b ((FootL_append _ _ _).2 (.inl ((footL_ints _ _ _ _ _).2 hb)))), RdF.kept (h.2) hk (fun b hb => hr b ((FootL_append _ _ _).2 (.inr (((FootL_one _ _).2 hb)))))⟩
theorem StStep.rd.same {w w' : World} {x : StStep} (h : StStep.rd w x) (hk : Same w w') : StStep.rd w' x := h.kept hk (fun _ _ => id)
theorem StStep.own_rd {w : World} {x : StStep} (h : OwnL w x.rows) : StStep.rd w x :=
 ⟨(OwnL.of_one h.left).rd, (FR.own_rd h.right)⟩
def StStep.szs (x : StStep) : Int := (x.data.bs.length : Int) + (x.keep.n : Int)
set_option maxRecDepth 100000 in
set_option maxHeartbeats 4000000 in
theorem eqStep_own (x y : StStep) (w : World) (hn : x.size ≤ 1125899906842624) (hd : x.dat = y.dat) (ha : OwnL w x.rows) (hb : OwnL w y.rows) :
  Calls Try.prog 25 #[x.val, y.val] w fun e w' => e = .returned (.bool true) ∧ Same w w' := by
 obtain ⟨xkd, xtx, xrid, xcnt, ⟨xdata_e, xdata_a, xdata_c, xdata_b⟩, ⟨xkeep_e, xkeep_a, xkeep_n, xkeep_c, xkeep_b⟩⟩ := x
 obtain ⟨ykd, ytx, yrid, ycnt, ⟨ydata_e, ydata_a, ydata_c, ydata_b⟩, ⟨ykeep_e, ykeep_a, ykeep_n, ykeep_c, ykeep_b⟩⟩ := y
 simp only [StStep.dat, Prod.mk.injEq] at hd
 obtain ⟨rfl, rfl, rfl, rfl, rfl, rfl⟩ := hd
 simp only [StStep.size] at hn
 have Hx0 := (show Hid (OwnL w [ints xdata_e .u8 (.slice xdata_a xdata_b.length xdata_c) xdata_b]) from ha.left)
 have Hy0 := (show Hid (OwnL w [ints ydata_e .u8 (.slice ydata_a xdata_b.length ydata_c) xdata_b]) from hb.left)
 have Hx1 := (show Hid (OwnL w [⟨xkeep_e, 1, .slice xkeep_a xkeep_n xkeep_c, xkeep_n, vals .i64 xkeep_b⟩]) from ha.right)
 have Hy1 := (show Hid (OwnL w [⟨ykeep_e, 1, .slice ykeep_a ykeep_n ykeep_c, ykeep_n, vals .i64 xkeep_b⟩]) from hb.right)
 clear ha hb
 dsimp only [StStep.val, BS.v, FR.v]
 go_enter Try.func25, Try.ntmps25
 have hk0 : Same w ((w.alloc (.cells #[.int .i64 xkd, .int .i64 xtx, .int .i64 xrid, .int .i64 xcnt, .slice xdata_a xdata_b.length xdata_c, .slice xkeep_a xkeep_n xkeep_c] 50)).alloc (.cells #[.int .i64 xkd, .int .i64 xtx, .int .i64 xrid, .int .i64 xcnt, .slice ydata_a xdata_b.length ydata_c, .slice ykeep_a ykeep_n ykeep_c] 50)) := ((Kept.refl _ _).alloc _).alloc _
 have HK0 := (show Hid (Same w _) from hk0)
 have HBx0 := (show Hid (Blk ((w.alloc (.cells #[.int .i64 xkd, .int .i64 xtx, .int .i64 xrid, .int .i64 xcnt, .slice xdata_a xdata_b.length xdata_c, .slice xkeep_a xkeep_n xkeep_c] 50)).alloc (.cells #[.int .i64 xkd, .int .i64 xtx, .int .i64 xrid, .int .i64 xcnt, .slice ydata_a xdata_b.length ydata_c, .slice ykeep_a ykeep_n ykeep_c] 50)) w.heap.size 50 [.int .i64 xkd, .int .i64 xtx, .int .i64 xrid, .int .i64 xcnt, .slice xdata_a xdata_b.length xdata_c, .slice xkeep_a xkeep_n xkeep_c]) from (Blk.new w #[.int .i64 xkd, .int .i64 xtx, .int .i64 xrid, .int .i64 xcnt, .slice xdata_a xdata_b.length xdata_c, .slice xkeep_a xkeep_n xkeep_c] 50).alloc _)
 have HBy0 := (show Hid (Blk ((w.alloc (.cells #[.int .i64 xkd, .int .i64 xtx, .int .i64 xrid, .int .i64 xcnt, .slice xdata_a xdata_b.length xdata_c, .slice xkeep_a xkeep_n xkeep_c] 50)).alloc (.cells #[.int .i64 xkd, .int .i64 xtx, .int .i64 xrid, .int .i64 xcnt, .slice ydata_a xdata_b.length ydata_c, .slice ykeep_a ykeep_n ykeep_c] 50)) (w.heap.size + 1) 50 [.int .i64 xkd, .int .i64 xtx, .int .i64 xrid, .int .i64 xcnt, .slice ydata_a xdata_b.length ydata_c, .slice ykeep_a ykeep_n ykeep_c]) from by have h := Blk.new (w.alloc (.cells #[.int .i64 xkd, .int .i64 xtx, .int .i64 xrid, .int .i64 xcnt, .slice xdata_a xdata_b.length xdata_c, .slice xkeep_a xkeep_n xkeep_c] 50)) #[.int .i64 xkd, .int .i64 xtx, .int .i64 xrid, .int .i64 xcnt, .slice ydata_a xdata_b.length ydata_c, .slice ykeep_a ykeep_n ykeep_c] 50; rwa [World.size_alloc] at h)
 clear hk0
 go_wp2_with fail
 refine (eqByteS_own 0 _ _ xdata_b _ (by omega) (Hx0.out.of_one.same HK0.out) (Hy0.out.of_one.same HK0.out)).mono ?_
 rintro e w1 ⟨rfl, nn, hww⟩
 have hk : Same ((w.alloc (.cells #[.int .i64 xkd, .int .i64 xtx, .int .i64 xrid, .int .i64 xcnt, .slice xdata_a xdata_b.length xdata_c, .slice xkeep_a xkeep_n xkeep_c] 50)).alloc (.cells #[.int .i64 xkd, .int .i64 xtx, .int .i64 xrid, .int .i64 xcnt, .slice ydata_a xdata_b.length ydata_c, .slice ykeep_a ykeep_n ykeep_c] 50)) w1 := by rw [hww]; exact (Kept.refl _ _).drewN _
 clear hww
 have HK1 := hid (HK0.out.trans hk)
 have HBx1 := (show Hid (Blk w1 w.heap.size 50 [.int .i64 xkd, .int .i64 xtx, .int .i64 xrid, .int .i64 xcnt, .slice xdata_a xdata_b.length xdata_c, .slice xkeep_a xkeep_n xkeep_c]) from HBx0.out.same hk)
 have HBy1 := (show Hid (Blk w1 (w.heap.size + 1) 50 [.int .i64 xkd, .int .i64 xtx, .int .i64 xrid, .int .i64 xcnt, .slice ydata_a xdata_b.length ydata_c, .slice ykeep_a ykeep_n ykeep_c]) from HBy0.out.same hk)
 clear hk HK0 HBx0 HBy0
 have dx0_5 : w1.cell? ⟨w.heap.size, 5, none⟩ = some (.slice xkeep_a xkeep_n xkeep_c) := HBx1.out.cell 5
 have dy0_5 : w1.cell? ⟨w.heap.size + 1, 5, none⟩ = some (.slice ykeep_a ykeep_n ykeep_c) := HBy1.out.cell 5
 go_wp2_with fail
 refine (eqInt64SF_own ⟨xkeep_e, xkeep_a, xkeep_n, xkeep_c, xkeep_b⟩ ⟨ykeep_e, ykeep_a, ykeep_n, ykeep_c, xkeep_b⟩ _ (by dsimp only; omega) rfl (Hx1.out.same HK1.out) (Hy1.out.same HK1.out)).mono ?_
 rintro e w2 ⟨rfl, hk⟩
 have HK2 := hid (HK1.out.trans hk)
 have HBx2 := (show Hid (Blk w2 w.heap.size 50 [.int .i64 xkd, .int .i64 xtx, .int .i64 xrid, .int .i64 xcnt, .slice xdata_a xdata_b.length xdata_c, .slice xkeep_a xkeep_n xkeep_c]) from HBx1.out.same hk)
 have HBy2 := (show Hid (Blk w2 (w.heap.size + 1) 50 [.int .i64 xkd, .int .i64 xtx, .int .i64 xrid, .int .i64 xcnt, .slice ydata_a xdata_b.length ydata_c, .slice ykeep_a ykeep_n ykeep_c]) from HBy1.out.same hk)
 clear hk HK1 HBx1 HBy1
 go_wp2
 go_ret
 exact ⟨rfl, HK2.out⟩
set_option maxRecDepth 100000 in
set_option maxHeartbeats 4000000 in
theorem szStep_any (x : StStep) (left : Int) (w : World) (h0 : 0 ≤ left) (h1 : left ≤ 1048576) (ha : StStep.rd w x) :
  Calls Try.prog 21 #[x.val, .int .i64 left] w fun e w' => ∃ r : Int, e = .returned (.int .i64 r) ∧ (r = -1 ∨ (r = left - x.szs ∧ 0 ≤ r)) ∧ Same w w' := by
 obtain ⟨xkd, xtx, xrid, xcnt, ⟨xdata_e, xdata_a, xdata_c, xdata_b⟩, ⟨xkeep_e, xkeep_a, xkeep_n, xkeep_c, xkeep_b⟩⟩ := x
 have hm0 : xdata_b.length ≤ maxLen := (ha.1).1
 have hm1 : xkeep_n ≤ maxLen := (ha.2).1
 clear ha
 dsimp only [StStep.val, BS.v, FR.v]
 go_enter Try.func21, Try.ntmps21
 have HK0 := (show Hid (Same w (w.alloc (.cells #[.int .i64 xkd, .int .i64 xtx, .int .i64 xrid, .int .i64 xcnt, .slice xdata_a xdata_b.length xdata_c, .slice xkeep_a xkeep_n xkeep_c] 47))) from (Kept.refl _ _).alloc _)
 have HB0 := (show Hid (Blk (w.alloc (.cells #[.int .i64 xkd, .int .i64 xtx, .int .i64 xrid, .int .i64 xcnt, .slice xdata_a xdata_b.length xdata_c, .slice xkeep_a xkeep_n xkeep_c] 47)) w.heap.size 47 [.int .i64 xkd, .int .i64 xtx, .int .i64 xrid, .int .i64 xcnt, .slice xdata_a xdata_b.length xdata_c, .slice xkeep_a xkeep_n xkeep_c]) from Blk.new w #[.int .i64 xkd, .int .i64 xtx, .int .i64 xrid, .int .i64 xcnt, .slice xdata_a xdata_b.length xdata_c, .slice xkeep_a xkeep_n xkeep_c] 47)
 go_wp2_with fail
 refine (szByteS_any _ _ _ left _ (by omega) (by omega) hm0).mono ?_
 rintro e w1 ⟨r1, rfl, hr, hww⟩
 have hk : Same (w.alloc (.cells #[.int .i64 xkd, .int .i64 xtx, .int .i64 xrid, .int .i64 xcnt, .slice xdata_a xdata_b.length xdata_c, .slice xkeep_a xkeep_n xkeep_c] 47)) w1 := by rw [hww]; exact Kept.refl _ _
 clear hww
 replace hr : r1 = -1 ∨ (r1 = left - xdata_b.length ∧ 0 ≤ r1) := by omega
 have HK1 := hid (HK0.out.trans hk)
 have HB1 := (show Hid (Blk w1 w.heap.size 47 [.int .i64 xkd, .int .i64 xtx, .int .i64 xrid, .int .i64 xcnt, .slice xdata_a xdata_b.length xdata_c, .slice xkeep_a xkeep_n xkeep_c]) from HB0.out.same hk)
 clear hk
 rcases hr with rfl | ⟨hr, hr1⟩
 ·go_wp2
  go_ret
  exact ⟨_, rfl, .inl rfl, HK1.out⟩
 have hle1 : r1 ≤ 1048576 := by omega
 have HR1 := (show Hid (_ = _) from hr)
 clear hr
 have d0_5 : w1.cell? ⟨w.heap.size, 5, none⟩ = some (.slice xkeep_a xkeep_n xkeep_c) := HB1.out.cell 5
 go_wp2_with fail
 refine (szInt64SF_any _ _ _ r1 _ (by omega) (by omega) hm1).mono ?_
 rintro e w2 ⟨r2, rfl, hr, hww⟩
 have hk : Same w1 w2 := by rw [hww]; exact Kept.refl _ _
 clear hww
 replace hr : r2 = -1 ∨ (r2 = r1 - xkeep_n ∧ 0 ≤ r2) := by omega
 have HK2 := hid (HK1.out.trans hk)
 have HB2 := (show Hid (Blk w2 w.heap.size 47 [.int .i64 xkd, .int .i64 xtx, .int .i64 xrid, .int .i64 xcnt, .slice xdata_a xdata_b.length xdata_c, .slice xkeep_a xkeep_n xkeep_c]) from HB1.out.same hk)
 clear hk
 rcases hr with rfl | ⟨hr, hr2⟩
 ·go_wp2
  go_ret
  exact ⟨_, rfl, .inl rfl, HK2.out⟩
 have hle2 : r2 ≤ 1048576 := by omega
 have HR2 := (show Hid (_ = _) from hr)
 clear hr
 go_wp2
 go_ret
 exact ⟨_, rfl, .inr ⟨by have e1 := HR1.out; have e2 := HR2.out; simp only [StStep.szs]; omega, hr2⟩, HK2.out⟩
set_option maxRecDepth 100000 in
set_option maxHeartbeats 16000000 in
theorem toStep_any (x : StStep) (w : World) (hn : x.szs ≤ 1073741824) (ha : StStep.rd w x) :
  Calls Try.prog 23 #[x.val] w fun e w' => ∃ y : StStep, e = .returned y.val ∧ y.dat = x.dat ∧ y.szs = x.szs ∧ (∀ b, FootL y.rows b → w.heap.size ≤ b) ∧ OwnL w' y.rows ∧ Same w w' := by
 obtain ⟨xkd, xtx, xrid, xcnt, ⟨xdata_e, xdata_a, xdata_c, xdata_b⟩, ⟨xkeep_e, xkeep_a, xkeep_n, xkeep_c, xkeep_b⟩⟩ := x
 have HV0 := (show Hid (Rd .u8 w (.slice xdata_a xdata_b.length xdata_c) xdata_b) from ha.1)
 have HV1 := (show Hid (RdF 1 w ⟨xkeep_e, xkeep_a, xkeep_n, xkeep_c, xkeep_b⟩) from ha.2)
 clear ha
 simp only [StStep.szs] at hn
 dsimp only [StStep.val, BS.v, FR.v]
 go_enter Try.func23, Try.ntmps23
 have hk0 : Same w (((w.alloc (.cells #[.int .i64 xkd, .int .i64 xtx, .int .i64 xrid, .int .i64 xcnt, .slice xdata_a xdata_b.length xdata_c, .slice xkeep_a xkeep_n xkeep_c] 47)).alloc (.cells #[.int .i64 0, .int .i64 0, .int .i64 0, .int .i64 0, .slice none 0 0, .slice none 0 0] 50)).alloc (.cells #[.int .i64 xkd, .int .i64 xtx, .int .i64 xrid, .int .i64 xcnt, .slice none 0 0, .slice none 0 0] 50)) := (((Kept.refl _ _).alloc _).alloc _).alloc _
 have b0 : Blk (((w.alloc (.cells #[.int .i64 xkd, .int .i64 xtx, .int .i64 xrid, .int .i64 xcnt, .slice xdata_a xdata_b.length xdata_c, .slice xkeep_a xkeep_n xkeep_c] 47)).alloc (.cells #[.int .i64 0, .int .i64 0, .int .i64 0, .int .i64 0, .slice none 0 0, .slice none 0 0] 50)).alloc (.cells #[.int .i64 xkd, .int .i64 xtx, .int .i64 xrid, .int .i64 xcnt, .slice none 0 0, .slice none 0 0] 50)) (w.heap.size) 47 [.int .i64 xkd, .int .i64 xtx, .int .i64 xrid, .int .i64 xcnt, .slice xdata_a xdata_b.length xdata_c, .slice xkeep_a xkeep_n xkeep_c] := ((Blk.new w #[.int .i64 xkd, .int .i64 xtx, .int .i64 xrid, .int .i64 xcnt, .slice xdata_a xdata_b.length xdata_c, .slice xkeep_a xkeep_n xkeep_c] 47).alloc _).alloc _
 have b1 : Blk (((w.alloc (.cells #[.int .i64 xkd, .int .i64 xtx, .int .i64 xrid, .int .i64 xcnt, .slice xdata_a xdata_b.length xdata_c, .slice xkeep_a xkeep_n xkeep_c] 47)).alloc (.cells #[.int .i64 0, .int .i64 0, .int .i64 0, .int .i64 0, .slice none 0 0, .slice none 0 0] 50)).alloc (.cells #[.int .i64 xkd, .int .i64 xtx, .int .i64 xrid, .int .i64 xcnt, .slice none 0 0, .slice none 0 0] 50)) (w.heap.size + 1) 50 [.int .i64 0, .int .i64 0, .int .i64 0, .int .i64 0, .slice none 0 0, .slice none 0 0] := by have h := (Blk.new (w.alloc (.cells #[.int .i64 xkd, .int .i64 xtx, .int .i64 xrid, .int .i64 xcnt, .slice xdata_a xdata_b.length xdata_c, .slice xkeep_a xkeep_n xkeep_c] 47)) #[.int .i64 0, .int .i64 0, .int .i64 0, .int .i64 0, .slice none 0 0, .slice none 0 0] 50).alloc (.cells #[.int .i64 xkd, .int .i64 xtx, .int .i64 xrid, .int .i64 xcnt, .slice none 0 0, .slice none 0 0] 50); rwa [World.size_alloc] at h
 have b2 : Blk (((w.alloc (.cells #[.int .i64 xkd, .int .i64 xtx, .int .i64 xrid, .int .i64 xcnt, .slice xdata_a xdata_b.length xdata_c, .slice xkeep_a xkeep_n xkeep_c] 47)).alloc (.cells #[.int .i64 0, .int .i64 0, .int .i64 0, .int .i64 0, .slice none 0 0, .slice none 0 0] 50)).alloc (.cells #[.int .i64 xkd, .int .i64 xtx, .int .i64 xrid, .int .i64 xcnt, .slice none 0 0, .slice none 0 0] 50)) (w.heap.size + 1 + 1) 50 [.int .i64 xkd, .int .i64 xtx, .int .i64 xrid, .int .i64 xcnt, .slice none 0 0, .slice none 0 0] := by have h := Blk.new ((w.alloc (.cells #[.int .i64 xkd, .int .i64 xtx, .int .i64 xrid, .int .i64 xcnt, .slice xdata_a xdata_b.length xdata_c, .slice xkeep_a xkeep_n xkeep_c] 47)).alloc (.cells #[.int .i64 0, .int .i64 0, .int .i64 0, .int .i64 0, .slice none 0 0, .slice none 0 0] 50)) #[.int .i64 xkd, .int .i64 xtx, .int .i64 xrid, .int .i64 xcnt, .slice none 0 0, .slice none 0 0] 50; rwa [World.size_alloc, World.size_alloc] at h
 have hsz : (((w.alloc (.cells #[.int .i64 xkd, .int .i64 xtx, .int .i64 xrid, .int .i64 xcnt, .slice xdata_a xdata_b.length xdata_c, .slice xkeep_a xkeep_n xkeep_c] 47)).alloc (.cells #[.int .i64 0, .int .i64 0, .int .i64 0, .int .i64 0, .slice none 0 0, .slice none 0 0] 50)).alloc (.cells #[.int .i64 xkd, .int .i64 xtx, .int .i64 xrid, .int .i64 xcnt, .slice none 0 0, .slice none 0 0] 50)).heap.size = w.heap.size + 1 + 1 + 1 := by simp only [World.size_alloc]
 go_wp2_with fail
 refine (toByteS_any _ xdata_b _ (by omega) (HV0.out.same hk0)).mono ?_
 rintro e w1 ⟨g0, rfl, hg, ho, hk⟩
 have O0 : OwnL w1 (BS.rows ⟨5, some ⟨g0, 0, none⟩, xdata_b.length, xdata_b⟩) := OwnL.one ho
 have F0 : ∀ b, FootL (BS.rows ⟨5, some ⟨g0, 0, none⟩, xdata_b.length, xdata_b⟩) b → w.heap.size + 1 + 1 < b := fun b hb => by have h := (footL_ints _ _ _ _ _).1 hb; have h2 : g0 = b := Option.some.inj h; have h3 := hg; omega
 clear ho
 have hk1 : Same w w1 := hk0.trans hk
 replace b0 : Blk w1 (w.heap.size) 47 [.int .i64 xkd, .int .i64 xtx, .int .i64 xrid, .int .i64 xcnt, .slice xdata_a xdata_b.length xdata_c, .slice xkeep_a xkeep_n xkeep_c] := b0.same hk
 replace b1 : Blk w1 (w.heap.size + 1) 50 [.int .i64 0, .int .i64 0, .int .i64 0, .int .i64 0, .slice none 0 0, .slice none 0 0] := b1.same hk
 replace b2 : Blk w1 (w.heap.size + 1 + 1) 50 [.int .i64 xkd, .int .i64 xtx, .int .i64 xrid, .int .i64 xcnt, .slice none 0 0, .slice none 0 0] := b2.same hk
 replace hsz : w.heap.size + 1 + 1 + 1 ≤ w1.heap.size := by have := hk.size; omega
 clear hk hg
 have da1_0 : w1.cell? ⟨w.heap.size, 0, none⟩ = some (.int .i64 xkd) := b0.cell 0
 have dr1_0 : w1.cell? ⟨w.heap.size + 1, 0, none⟩ = some (.int .i64 0) := b1.cell 0
 have fr1_0 : w1.frozen? ⟨w.heap.size + 1, 0, none⟩ = false := b1.frozen 0
 have do1_0 : w1.cell? ⟨w.heap.size + 1 + 1, 0, none⟩ = some (.int .i64 xkd) := b2.cell 0
 have fo1_0 : w1.frozen? ⟨w.heap.size + 1 + 1, 0, none⟩ = false := b2.frozen 0
 have da1_1 : w1.cell? ⟨w.heap.size, 1, none⟩ = some (.int .i64 xtx) := b0.cell 1
 have dr1_1 : w1.cell? ⟨w.heap.size + 1, 1, none⟩ = some (.int .i64 0) := b1.cell 1
 have fr1_1 : w1.frozen? ⟨w.heap.size + 1, 1, none⟩ = false := b1.frozen 1
 have do1_1 : w1.cell? ⟨w.heap.size + 1 + 1, 1, none⟩ = some (.int .i64 xtx) := b2.cell 1
 have fo1_1 : w1.frozen? ⟨w.heap.size + 1 + 1, 1, none⟩ = false := b2.frozen 1
 have da1_2 : w1.cell? ⟨w.heap.size, 2, none⟩ = some (.int .i64 xrid) := b0.cell 2
 have dr1_2 : w1.cell? ⟨w.heap.size + 1, 2, none⟩ = some (.int .i64 0) := b1.cell 2
 have fr1_2 : w1.frozen? ⟨w.heap.size + 1, 2, none⟩ = false := b1.frozen 2
 have do1_2 : w1.cell? ⟨w.heap.size + 1 + 1, 2, none⟩ = some (.int .i64 xrid) := b2.cell 2
 have fo1_2 : w1.frozen? ⟨w.heap.size + 1 + 1, 2, none⟩ = false := b2.frozen 2
 have da1_3 : w1.cell? ⟨w.heap.size, 3, none⟩ = some (.int .i64 xcnt) := b0.cell 3
 have dr1_3 : w1.cell? ⟨w.heap.size + 1, 3, none⟩ = some (.int .i64 0) := b1.cell 3
 have fr1_3 : w1.frozen? ⟨w.heap.size + 1, 3, none⟩ = false := b1.frozen 3
 have do1_3 : w1.cell? ⟨w.heap.size + 1 + 1, 3, none⟩ = some (.int .i64 xcnt) := b2.cell 3
 have fo1_3 : w1.frozen? ⟨w.heap.size + 1 + 1, 3, none⟩ = false := b2.frozen 3
 have da1_4 : w1.cell? ⟨w.heap.size, 4, none⟩ = some (.slice xdata_a xdata_b.length xdata_c) := b0.cell 4
 have dr1_4 : w1.cell? ⟨w.heap.size + 1, 4, none⟩ = some (.slice none 0 0) := b1.cell 4
 have fr1_4 : w1.frozen? ⟨w.heap.size + 1, 4, none⟩ = false := b1.frozen 4
 have do1_4 : w1.cell? ⟨w.heap.size + 1 + 1, 4, none⟩ = some (.slice none 0 0) := b2.cell 4
 have fo1_4 : w1.frozen? ⟨w.heap.size + 1 + 1, 4, none⟩ = false := b2.frozen 4
 have da1_5 : w1.cell? ⟨w.heap.size, 5, none⟩ = some (.slice xkeep_a xkeep_n xkeep_c) := b0.cell 5
 have dr1_5 : w1.cell? ⟨w.heap.size + 1, 5, none⟩ = some (.slice none 0 0) := b1.cell 5
 have fr1_5 : w1.frozen? ⟨w.heap.size + 1, 5, none⟩ = false := b1.frozen 5
 have do1_5 : w1.cell? ⟨w.heap.size + 1 + 1, 5, none⟩ = some (.slice none 0 0) := b2.cell 5
 have fo1_5 : w1.frozen? ⟨w.heap.size + 1 + 1, 5, none⟩ = false := b2.frozen 5
 have hk2 : Same w (w1.setCell ⟨w.heap.size + 1 + 1, 4, none⟩ (.slice (some ⟨g0, 0, none⟩) xdata_b.length xdata_b.length)) := hk1.setCell (.inl (by simp only []; omega)) _
 replace b0 : Blk (w1.setCell ⟨w.heap.size + 1 + 1, 4, none⟩ (.slice (some ⟨g0, 0, none⟩) xdata_b.length xdata_b.length)) (w.heap.size) 47 [.int .i64 xkd, .int .i64 xtx, .int .i64 xrid, .int .i64 xcnt, .slice xdata_a xdata_b.length xdata_c, .slice xkeep_a xkeep_n xkeep_c] := b0.other (by simp only []; omega) _
 replace b1 : Blk (w1.setCell ⟨w.heap.size + 1 + 1, 4, none⟩ (.slice (some ⟨g0, 0, none⟩) xdata_b.length xdata_b.length)) (w.heap.size + 1) 50 [.int .i64 0, .int .i64 0, .int .i64 0, .int .i64 0, .slice none 0 0, .slice none 0 0] := b1.other (by simp only []; omega) _
 replace b2 : Blk (w1.setCell ⟨w.heap.size + 1 + 1, 4, none⟩ (.slice (some ⟨g0, 0, none⟩) xdata_b.length xdata_b.length)) (w.heap.size + 1 + 1) 50 [.int .i64 xkd, .int .i64 xtx, .int .i64 xrid, .int .i64 xcnt, .slice (some ⟨g0, 0, none⟩) xdata_b.length xdata_b.length, .slice none 0 0] := b2.stored 4 _
 replace O0 : OwnL (w1.setCell ⟨w.heap.size + 1 + 1, 4, none⟩ (.slice (some ⟨g0, 0, none⟩) xdata_b.length xdata_b.length)) (BS.rows ⟨5, some ⟨g0, 0, none⟩, xdata_b.length, xdata_b⟩) := O0.kept (Kept.setCell (Kept.refl (fun b => b = w.heap.size + 1 + 1) _) (.inr rfl) _) (fun b hb e => by have := F0 b hb; omega)
 replace hsz : w.heap.size + 1 + 1 + 1 ≤ (w1.setCell ⟨w.heap.size + 1 + 1, 4, none⟩ (.slice (some ⟨g0, 0, none⟩) xdata_b.length xdata_b.length)).heap.size := by rw [World.size_setCell]; exact hsz
 go_wp2_with fail
 refine (toInt64SF_any ⟨xkeep_e, xkeep_a, xkeep_n, xkeep_c, xkeep_b⟩ _ (by dsimp only; omega) (HV1.out.same hk2)).mono ?_
 rintro e w2 ⟨⟨y1e, y1a, y1n, y1c, y1b⟩, rfl, hd1, hz1, hg, O1, hk⟩
 have HZ1 := (show Hid (y1n = xkeep_n) from hz1)
 clear hz1
 have F1 : ∀ b, FootL (FR.rows 1 ⟨y1e, y1a, y1n, y1c, y1b⟩) b → w.heap.size + 1 + 1 < b := fun b hb => by have h := hg b hb; omega
 dsimp only [FR.v]
 have X0_1 : ∀ b, FootL (BS.rows ⟨5, some ⟨g0, 0, none⟩, xdata_b.length, xdata_b⟩) b → ¬ FootL (FR.rows 1 ⟨y1e, y1a, y1n, y1c, y1b⟩) b := fun b hb e => by have h1 := O0.lt b hb; have h2 := hg b e; omega
 replace O0 : OwnL w2 (BS.rows ⟨5, some ⟨g0, 0, none⟩, xdata_b.length, xdata_b⟩) := O0.same hk
 have hk3 : Same w w2 := hk2.trans hk
 replace b0 : Blk w2 (w.heap.size) 47 [.int .i64 xkd, .int .i64 xtx, .int .i64 xrid, .int .i64 xcnt, .slice xdata_a xdata_b.length xdata_c, .slice xkeep_a xkeep_n xkeep_c] := b0.same hk
 replace b1 : Blk w2 (w.heap.size + 1) 50 [.int .i64 0, .int .i64 0, .int .i64 0, .int .i64 0, .slice none 0 0, .slice none 0 0] := b1.same hk
 replace b2 : Blk w2 (w.heap.size + 1 + 1) 50 [.int .i64 xkd, .int .i64 xtx, .int .i64 xrid, .int .i64 xcnt, .slice (some ⟨g0, 0, none⟩) xdata_b.length xdata_b.length, .slice none 0 0] := b2.same hk
 replace hsz : w.heap.size + 1 + 1 + 1 ≤ w2.heap.size := by have := hk.size; omega
 clear hk hg
 have da2_0 : w2.cell? ⟨w.heap.size, 0, none⟩ = some (.int .i64 xkd) := b0.cell 0
 have dr2_0 : w2.cell? ⟨w.heap.size + 1, 0, none⟩ = some (.int .i64 0) := b1.cell 0
 have fr2_0 : w2.frozen? ⟨w.heap.size + 1, 0, none⟩ = false := b1.frozen 0
 have do2_0 : w2.cell? ⟨w.heap.size + 1 + 1, 0, none⟩ = some (.int .i64 xkd) := b2.cell 0
 have fo2_0 : w2.frozen? ⟨w.heap.size + 1 + 1, 0, none⟩ = false := b2.frozen 0
 have da2_1 : w2.cell? ⟨w.heap.size, 1, none⟩ = some (.int .i64 xtx) := b0.cell 1
 have dr2_1 : w2.cell? ⟨w.heap.size + 1, 1, none⟩ = some (.int .i64 0) := b1.cell 1
 have fr2_1 : w2.frozen? ⟨w.heap.size + 1, 1, none⟩ = false := b1.frozen 1
 have do2_1 : w2.cell? ⟨w.heap.size + 1 + 1, 1, none⟩ = some (.int .i64 xtx) := b2.cell 1
 have fo2_1 : w2.frozen? ⟨w.heap.size + 1 + 1, 1, none⟩ = false := b2.frozen 1
 have da2_2 : w2.cell? ⟨w.heap.size, 2, none⟩ = some (.int .i64 xrid) := b0.cell 2
 have dr2_2 : w2.cell? ⟨w.heap.size + 1, 2, none⟩ = some (.int .i64 0) := b1.cell 2
 have fr2_2 : w2.frozen? ⟨w.heap.size + 1, 2, none⟩ = false := b1.frozen 2
 have do2_2 : w2.cell? ⟨w.heap.size + 1 + 1, 2, none⟩ = some (.int .i64 xrid) := b2.cell 2
 have fo2_2 : w2.frozen? ⟨w.heap.size + 1 + 1, 2, none⟩ = false := b2.frozen 2
 have da2_3 : w2.cell? ⟨w.heap.size, 3, none⟩ = some (.int .i64 xcnt) := b0.cell 3
 have dr2_3 : w2.cell? ⟨w.heap.size + 1, 3, none⟩ = some (.int .i64 0) := b1.cell 3
 have fr2_3 : w2.frozen? ⟨w.heap.size + 1, 3, none⟩ = false := b1.frozen 3
 have do2_3 : w2.cell? ⟨w.heap.size + 1 + 1, 3, none⟩ = some (.int .i64 xcnt) := b2.cell 3
 have fo2_3 : w2.frozen? ⟨w.heap.size + 1 + 1, 3, none⟩ = false := b2.frozen 3
 have da2_4 : w2.cell? ⟨w.heap.size, 4, none⟩ = some (.slice xdata_a xdata_b.length xdata_c) := b0.cell 4
 have dr2_4 : w2.cell? ⟨w.heap.size + 1, 4, none⟩ = some (.slice none 0 0) := b1.cell 4
 have fr2_4 : w2.frozen? ⟨w.heap.size + 1, 4, none⟩ = false := b1.frozen 4
 have do2_4 : w2.cell? ⟨w.heap.size + 1 + 1, 4, none⟩ = some (.slice (some ⟨g0, 0, none⟩) xdata_b.length xdata_b.length) := b2.cell 4
 have fo2_4 : w2.frozen? ⟨w.heap.size + 1 + 1, 4, none⟩ = false := b2.frozen 4
 have da2_5 : w2.cell? ⟨w.heap.size, 5, none⟩ = some (.slice xkeep_a xkeep_n xkeep_c) := b0.cell 5
 have dr2_5 : w2.cell? ⟨w.heap.size + 1, 5, none⟩ = some (.slice none 0 0) := b1.cell 5
 have fr2_5 : w2.frozen? ⟨w.heap.size + 1, 5, none⟩ = false := b1.frozen 5
 have do2_5 : w2.cell? ⟨w.heap.size + 1 + 1, 5, none⟩ = some (.slice none 0 0) := b2.cell 5
 have fo2_5 : w2.frozen? ⟨w.heap.size + 1 + 1, 5, none⟩ = false := b2.frozen 5
 have HKz := (show Hid (Same w w2) from hk3)
 have HB1 := (show Hid (Blk w2 (w.heap.size + 1) 50 [.int .i64 0, .int .i64 0, .int .i64 0, .int .i64 0, .slice none 0 0, .slice none 0 0]) from b1)
 have HO0 := (show Hid (OwnL w2 (BS.rows ⟨5, some ⟨g0, 0, none⟩, xdata_b.length, xdata_b⟩)) from O0)
 have HF0 := (show Hid (∀ b, FootL (BS.rows ⟨5, some ⟨g0, 0, none⟩, xdata_b.length, xdata_b⟩) b → w.heap.size + 1 + 1 < b) from F0)
 have HO1 := (show Hid (OwnL w2 (FR.rows 1 ⟨y1e, y1a, y1n, y1c, y1b⟩)) from O1)
 have HF1 := (show Hid (∀ b, FootL (FR.rows 1 ⟨y1e, y1a, y1n, y1c, y1b⟩) b → w.heap.size + 1 + 1 < b) from F1)
 have HX0_1 := (show Hid (∀ b, FootL (BS.rows ⟨5, some ⟨g0, 0, none⟩, xdata_b.length, xdata_b⟩) b → ¬ FootL (FR.rows 1 ⟨y1e, y1a, y1n, y1c, y1b⟩) b) from X0_1)
 clear b0 b1 b2 hk0 hk1 hk2 hk3 O0 O1 F0 F1 X0_1
 go_wp2
 refine bodyPost_ret (v := StStep.val ⟨xkd, xtx, xrid, xcnt, ⟨5, some ⟨g0, 0, none⟩, xdata_b.length, xdata_b⟩, ⟨y1e, y1a, y1n, y1c, y1b⟩⟩) (by simp [StStep.val, StStep.val, BS.v, FR.v, results, Try.results23, go_sem, dr2_0, dr2_1, dr2_2, dr2_3, dr2_4, dr2_5]) rfl ⟨⟨xkd, xtx, xrid, xcnt, ⟨5, some ⟨g0, 0, none⟩, xdata_b.length, xdata_b⟩, ⟨y1e, y1a, y1n, y1c, y1b⟩⟩, rfl, ?_, ?_, ?_, ?_, ?_⟩
 ·simp only [StStep.dat]; exact Prod.ext_iff.2 (by simp [hd1])
 ·have z1 := HZ1.out; simp only [StStep.szs]; omega
 ·exact fun b hb => ((FootL_append _ _ _).1 hb).elim (fun e0 => by have := HF0.out b (e0); omega) (fun e0 => by have := HF1.out b (e0); omega)
 ·refine OwnL.kept (R := fun b => b = w.heap.size + 1 ∨ b = w.heap.size + 1 + 1) (show OwnL _ (StStep.rows ⟨xkd, xtx, xrid, xcnt, ⟨5, some ⟨g0, 0, none⟩, xdata_b.length, xdata_b⟩, ⟨y1e, y1a, y1n, y1c, y1b⟩⟩) from (HO0.out).append (HO1.out) (fun b hb e => HX0_1.out b hb e)) ?_ ?_
  ·exact (Kept.setCell (Kept.setCell (Kept.setCell (Kept.setCell (Kept.setCell (Kept.setCell (Kept.setCell (Kept.refl (fun b => b = w.heap.size + 1 ∨ b = w.heap.size + 1 + 1) _) (p := ⟨w.heap.size + 1 + 1, 5, none⟩) (.inr (.inr rfl)) _) (p := ⟨w.heap.size + 1, 0, none⟩) (.inr (.inl rfl)) _) (p := ⟨w.heap.size + 1, 1, none⟩) (.inr (.inl rfl)) _) (p := ⟨w.heap.size + 1, 2, none⟩) (.inr (.inl rfl)) _) (p := ⟨w.heap.size + 1, 3, none⟩) (.inr (.inl rfl)) _) (p := ⟨w.heap.size + 1, 4, none⟩) (.inr (.inl rfl)) _) (p := ⟨w.heap.size + 1, 5, none⟩) (.inr (.inl rfl)) _)
  ·exact fun b hb e => ((FootL_append _ _ _).1 hb).elim (fun e0 => by have := HF0.out b (e0); omega) (fun e0 => by have := HF1.out b (e0); omega)
 ·exact (Kept.setCell (Kept.setCell (Kept.setCell (Kept.setCell (Kept.setCell (Kept.setCell (Kept.setCell HKz.out (p := ⟨w.heap.size + 1 + 1, 5, none⟩) (.inl (by simp only []; omega)) _) (p := ⟨w.heap.size + 1, 0, none⟩) (.inl (by simp only []; omega)) _) (p := ⟨w.heap.size + 1, 1, none⟩) (.inl (by simp only []; omega)) _) (p := ⟨w.heap.size + 1, 2, none⟩) (.inl (by simp only []; omega)) _) (p := ⟨w.heap.size + 1, 3, none⟩) (.inl (by simp only []; omega)) _) (p := ⟨w.heap.size + 1, 4, none⟩) (.inl (by simp only []; omega)) _) (p := ⟨w.heap.size + 1, 5, none⟩) (.inl (by simp only []; omega)) _)
theorem ownFields_bad (k t i c : Int) (da : Option Addr) (nd dc : Nat) (ka : Option Addr) (nk kc : Nat) (w : World) (hb : k < 1 ∨ 11 < k) : Calls Try.prog 46 #[.agg #[.int .i64 k, .int .i64 t, .int .i64 i, .int .i64 c, .slice da nd dc, .slice ka nk kc]] w fun e w' => e = .returned (.tuple #[.agg #[.int .i64 0, .int .i64 0, .int .i64 0, .int .i64 0, .slice none 0 0, .slice none 0 0], .bool false]) ∧ Same w w' := by
 have n1 : ¬ k = 1 := by omega
 have n2 : ¬ k = 2 := by omega
 have n3 : ¬ k = 3 := by omega
 have n4 : ¬ k = 4 := by omega
 have n5 : ¬ k = 5 := by omega
 have n6 : ¬ k = 6 := by omega
 have n7 : ¬ k = 7 := by omega
 have n8 : ¬ k = 8 := by omega
 have n9 : ¬ k = 9 := by omega
 have n10 : ¬ k = 10 := by omega
 have n11 : ¬ k = 11 := by omega
 clear hb
 go_enter Try.func46, Try.ntmps46
 go_wp2
 (try simp only [Exit.inBlock, Exit.then])
 refine bodyPost_ret (v := .tuple #[.agg #[.int .i64 0, .int .i64 0, .int .i64 0, .int .i64 0, .slice none 0 0, .slice none 0 0], .bool false]) ?_ rfl ⟨rfl, (((Kept.refl _ _).alloc _).alloc _).alloc _⟩
 rw [results_cell_tmp rfl]
 go_simp
theorem sameFields_any (k1 t1 i1 c1 : Int) (ea : Option Addr) (n1 ec : Nat) (fa : Option Addr) (m1 fc : Nat) (k t i c : Int) (da : Option Addr) (nd dc : Nat) (ka : Option Addr) (nk kc : Nat) (w : World) : Calls Try.prog 47 #[.agg #[.int .i64 k1, .int .i64 t1, .int .i64 i1, .int .i64 c1, .slice ea n1 ec, .slice fa m1 fc], .agg #[.int .i64 k, .int .i64 t, .int .i64 i, .int .i64 c, .slice da nd dc, .slice ka nk kc]] w fun e w' => e = .returned (.bool (decide (t1 = t ∧ i1 = i ∧ c1 = c ∧ n1 = nd ∧ m1 = nk))) ∧ Same w w' := by
 by_cases h0 : t1 = t
 case neg =>
  rw [decide_eq_false (fun h => h0 (by simp only [h]))]
  go_enter Try.func47, Try.ntmps47
  go_wp2
  go_ret
  exact ⟨rfl, ((Kept.refl _ _).alloc _).alloc _⟩
 subst h0
 by_cases h1 : i1 = i
 case neg =>
  rw [decide_eq_false (fun h => h1 (by simp only [h]))]
  go_enter Try.func47, Try.ntmps47
  go_wp2
  go_ret
  exact ⟨rfl, ((Kept.refl _ _).alloc _).alloc _⟩
 subst h1
 by_cases h2 : c1 = c
 case neg =>
  rw [decide_eq_false (fun h => h2 (by simp only [h]))]
  go_enter Try.func47, Try.ntmps47
  go_wp2
  go_ret
  exact ⟨rfl, ((Kept.refl _ _).alloc _).alloc _⟩
 subst h2
 by_cases h3 : n1 = nd
 case neg =>
  have h3' : ((n1 : Int) == (nd : Int)) = false := by simp; omega
  rw [decide_eq_false (fun h => h3 (by simp only [h]))]
  go_enter Try.func47, Try.ntmps47
  go_wp2
  go_ret
  exact ⟨rfl, ((Kept.refl _ _).alloc _).alloc _⟩
 subst h3
 by_cases h4 : m1 = nk
 case neg =>
  have h4' : ((m1 : Int) == (nk : Int)) = false := by simp; omega
  rw [decide_eq_false (fun h => h4 (by simp only [h]))]
  go_enter Try.func47, Try.ntmps47
  go_wp2
  go_ret
  exact ⟨rfl, ((Kept.refl _ _).alloc _).alloc _⟩
 subst h4
 rw [decide_eq_true (by simp)]
 go_enter Try.func47, Try.ntmps47
 go_wp2
 go_ret
 exact ⟨rfl, ((Kept.refl _ _).alloc _).alloc _⟩
theorem implStep_of (t1 i1 c1 : Int) (ea : Option Addr) (n1 ec : Nat) (fa : Option Addr) (m1 fc : Nat) (k t i c : Int) (da : Option Addr) (nd dc : Nat) (ka : Option Addr) (nk kc : Nat) (w : World) (hm : nk ≤ maxLen)
  (hown : ∀ wx, Calls Try.prog 46 #[.agg #[.int .i64 k, .int .i64 t, .int .i64 i, .int .i64 c, .slice da nd dc, .slice ka nk kc]] wx fun e w' => e = .returned (.tuple #[.agg #[.int .i64 k, .int .i64 t1, .int .i64 i1, .int .i64 c1, .slice ea n1 ec, .slice fa m1 fc], .bool true]) ∧ Same wx w') :
  Calls Try.prog 24 #[.agg #[.int .i64 k, .int .i64 t, .int .i64 i, .int .i64 c, .slice da nd dc, .slice ka nk kc]] w fun e w' => e = .returned (.int .i64 (if ¬ (t1 = t ∧ i1 = i ∧ c1 = c ∧ n1 = nd ∧ m1 = nk) then 2 else if c < -1 ∨ 1000000 < c then 3 else if 8192 < nk then 4 else 0)) ∧ Same w w' := by
 unfold maxLen at hm
 have HK0 := hid (sameA w [.int .i64 k, .int .i64 t, .int .i64 i, .int .i64 c, .slice da nd dc, .slice ka nk kc] 50)
 have b0 := hid (Blk.newL w [.int .i64 k, .int .i64 t, .int .i64 i, .int .i64 c, .slice da nd dc, .slice ka nk kc] 50)
 obtain ⟨q, hq⟩ : ∃ q, decide (t1 = t ∧ i1 = i ∧ c1 = c ∧ n1 = nd ∧ m1 = nk) = q := ⟨_, rfl⟩
 have k2 := fun wx => sameFields_any k t1 i1 c1 ea n1 ec fa m1 fc k t i c da nd dc ka nk kc wx
 rw [hq] at k2
 cases q with
 | false =>
  rw [if_pos (of_decide_eq_false hq)]
  clear hq
  go_enter Try.func24, Try.ntmps24
  go_wp2_with fail
  refine (hown _).mono ?_
  rintro e w1 ⟨rfl, hk1⟩
  have HK1 := hid (HK0.out.trans hk1)
  have b1 := hid (b0.out.same hk1)
  have c0_ := b1.out.cell 0
  have c1_ := b1.out.cell 1
  have c2_ := b1.out.cell 2
  have c3_ := b1.out.cell 3
  have c4_ := b1.out.cell 4
  have c5_ := b1.out.cell 5
  have l1 := b1.out.lt
  clear hk1
  go_wp2_with fail
  have HK2 := hid (HK1.out.alloc (.cells #[.int .i64 k, .int .i64 t1, .int .i64 i1, .int .i64 c1, .slice ea n1 ec, .slice fa m1 fc] 50))
  have b2 := hid (b1.out.alloc (.cells #[.int .i64 k, .int .i64 t1, .int .i64 i1, .int .i64 c1, .slice ea n1 ec, .slice fa m1 fc] 50))
  refine (k2 _).mono ?_
  rintro e w3 ⟨rfl, hk3⟩
  have HK3 := hid (HK2.out.trans hk3)
  have b3 := hid (b2.out.same hk3)
  have d0_ := b3.out.cell 0
  have d1_ := b3.out.cell 1
  have d2_ := b3.out.cell 2
  have d3_ := b3.out.cell 3
  have d4_ := b3.out.cell 4
  have d5_ := b3.out.cell 5
  clear hk3
  go_wp2
  go_ret
  exact ⟨rfl, HK3.out⟩
 | true =>
  rw [if_neg (fun h => h (of_decide_eq_true hq))]
  clear hq
  by_cases h1 : c < -1
  ·rw [if_pos (.inl h1)]
   go_enter Try.func24, Try.ntmps24
   go_wp2_with fail
   refine (hown _).mono ?_
   rintro e w1 ⟨rfl, hk1⟩
   have HK1 := hid (HK0.out.trans hk1)
   have b1 := hid (b0.out.same hk1)
   have c0_ := b1.out.cell 0
   have c1_ := b1.out.cell 1
   have c2_ := b1.out.cell 2
   have c3_ := b1.out.cell 3
   have c4_ := b1.out.cell 4
   have c5_ := b1.out.cell 5
   have l1 := b1.out.lt
   clear hk1
   go_wp2_with fail
   have HK2 := hid (HK1.out.alloc (.cells #[.int .i64 k, .int .i64 t1, .int .i64 i1, .int .i64 c1, .slice ea n1 ec, .slice fa m1 fc] 50))
   have b2 := hid (b1.out.alloc (.cells #[.int .i64 k, .int .i64 t1, .int .i64 i1, .int .i64 c1, .slice ea n1 ec, .slice fa m1 fc] 50))
   refine (k2 _).mono ?_
   rintro e w3 ⟨rfl, hk3⟩
   have HK3 := hid (HK2.out.trans hk3)
   have b3 := hid (b2.out.same hk3)
   have d0_ := b3.out.cell 0
   have d1_ := b3.out.cell 1
   have d2_ := b3.out.cell 2
   have d3_ := b3.out.cell 3
   have d4_ := b3.out.cell 4
   have d5_ := b3.out.cell 5
   clear hk3
   go_wp2
   go_ret
   exact ⟨rfl, HK3.out⟩
  by_cases h2 : 1000000 < c
  ·rw [if_pos (.inr h2)]
   go_enter Try.func24, Try.ntmps24
   go_wp2_with fail
   refine (hown _).mono ?_
   rintro e w1 ⟨rfl, hk1⟩
   have HK1 := hid (HK0.out.trans hk1)
   have b1 := hid (b0.out.same hk1)
   have c0_ := b1.out.cell 0
   have c1_ := b1.out.cell 1
   have c2_ := b1.out.cell 2
   have c3_ := b1.out.cell 3
   have c4_ := b1.out.cell 4
   have c5_ := b1.out.cell 5
   have l1 := b1.out.lt
   clear hk1
   go_wp2_with fail
   have HK2 := hid (HK1.out.alloc (.cells #[.int .i64 k, .int .i64 t1, .int .i64 i1, .int .i64 c1, .slice ea n1 ec, .slice fa m1 fc] 50))
   have b2 := hid (b1.out.alloc (.cells #[.int .i64 k, .int .i64 t1, .int .i64 i1, .int .i64 c1, .slice ea n1 ec, .slice fa m1 fc] 50))
   refine (k2 _).mono ?_
   rintro e w3 ⟨rfl, hk3⟩
   have HK3 := hid (HK2.out.trans hk3)
   have b3 := hid (b2.out.same hk3)
   have d0_ := b3.out.cell 0
   have d1_ := b3.out.cell 1
   have d2_ := b3.out.cell 2
   have d3_ := b3.out.cell 3
   have d4_ := b3.out.cell 4
   have d5_ := b3.out.cell 5
   clear hk3
   go_wp2
   go_ret
   exact ⟨rfl, HK3.out⟩
  rw [if_neg (by omega)]
  by_cases h3 : 8192 < nk
  ·rw [if_pos h3]
   have h3' : (8192 : Int) < nk := by omega
   go_enter Try.func24, Try.ntmps24
   go_wp2_with fail
   refine (hown _).mono ?_
   rintro e w1 ⟨rfl, hk1⟩
   have HK1 := hid (HK0.out.trans hk1)
   have b1 := hid (b0.out.same hk1)
   have c0_ := b1.out.cell 0
   have c1_ := b1.out.cell 1
   have c2_ := b1.out.cell 2
   have c3_ := b1.out.cell 3
   have c4_ := b1.out.cell 4
   have c5_ := b1.out.cell 5
   have l1 := b1.out.lt
   clear hk1
   go_wp2_with fail
   have HK2 := hid (HK1.out.alloc (.cells #[.int .i64 k, .int .i64 t1, .int .i64 i1, .int .i64 c1, .slice ea n1 ec, .slice fa m1 fc] 50))
   have b2 := hid (b1.out.alloc (.cells #[.int .i64 k, .int .i64 t1, .int .i64 i1, .int .i64 c1, .slice ea n1 ec, .slice fa m1 fc] 50))
   refine (k2 _).mono ?_
   rintro e w3 ⟨rfl, hk3⟩
   have HK3 := hid (HK2.out.trans hk3)
   have b3 := hid (b2.out.same hk3)
   have d0_ := b3.out.cell 0
   have d1_ := b3.out.cell 1
   have d2_ := b3.out.cell 2
   have d3_ := b3.out.cell 3
   have d4_ := b3.out.cell 4
   have d5_ := b3.out.cell 5
   clear hk3
   go_wp2
   go_ret
   exact ⟨rfl, HK3.out⟩
  rw [if_neg h3]
  have h3' : ¬ (8192 : Int) < nk := by omega
  go_enter Try.func24, Try.ntmps24
  go_wp2_with fail
  refine (hown _).mono ?_
  rintro e w1 ⟨rfl, hk1⟩
  have HK1 := hid (HK0.out.trans hk1)
  have b1 := hid (b0.out.same hk1)
  have c0_ := b1.out.cell 0
  have c1_ := b1.out.cell 1
  have c2_ := b1.out.cell 2
  have c3_ := b1.out.cell 3
  have c4_ := b1.out.cell 4
  have c5_ := b1.out.cell 5
  have l1 := b1.out.lt
  clear hk1
  go_wp2_with fail
  have HK2 := hid (HK1.out.alloc (.cells #[.int .i64 k, .int .i64 t1, .int .i64 i1, .int .i64 c1, .slice ea n1 ec, .slice fa m1 fc] 50))
  have b2 := hid (b1.out.alloc (.cells #[.int .i64 k, .int .i64 t1, .int .i64 i1, .int .i64 c1, .slice ea n1 ec, .slice fa m1 fc] 50))
  refine (k2 _).mono ?_
  rintro e w3 ⟨rfl, hk3⟩
  have HK3 := hid (HK2.out.trans hk3)
  have b3 := hid (b2.out.same hk3)
  have d0_ := b3.out.cell 0
  have d1_ := b3.out.cell 1
  have d2_ := b3.out.cell 2
  have d3_ := b3.out.cell 3
  have d4_ := b3.out.cell 4
  have d5_ := b3.out.cell 5
  clear hk3
  go_wp2
  go_ret
  exact ⟨rfl, HK3.out⟩
theorem implStep_any (k t i c : Int) (da : Option Addr) (nd dc : Nat) (ka : Option Addr) (nk kc : Nat) (w : World) (hm : nk ≤ maxLen) : Calls Try.prog 24 #[.agg #[.int .i64 k, .int .i64 t, .int .i64 i, .int .i64 c, .slice da nd dc, .slice ka nk kc]] w fun e w' => e = .returned (.int .i64 (stepF k t i c nd nk)) ∧ Same w w' := by
 by_cases hb : k < 1 ∨ 11 < k
 ·rw [show stepF k t i c nd nk = 1 from by unfold stepF; rw [if_pos hb]]
  have HK0 := hid (sameA w [.int .i64 k, .int .i64 t, .int .i64 i, .int .i64 c, .slice da nd dc, .slice ka nk kc] 50)
  have b0 := hid (Blk.newL w [.int .i64 k, .int .i64 t, .int .i64 i, .int .i64 c, .slice da nd dc, .slice ka nk kc] 50)
  have hown := fun wx => ownFields_bad k t i c da nd dc ka nk kc wx hb
  go_enter Try.func24, Try.ntmps24
  go_wp2_with fail
  refine (hown _).mono ?_
  rintro e w1 ⟨rfl, hk1⟩
  have HK1 := hid (HK0.out.trans hk1)
  clear hk1
  go_wp2
  go_ret
  exact ⟨rfl, HK1.out.alloc _⟩
 ·have fin : ∀ (t1 i1 c1 : Int) (n1 m1 : Nat), ((t1 = t ∧ i1 = i ∧ c1 = c ∧ n1 = nd ∧ m1 = nk) ↔ stepOK k t i c nd nk) → (if ¬ (t1 = t ∧ i1 = i ∧ c1 = c ∧ n1 = nd ∧ m1 = nk) then 2 else if c < -1 ∨ 1000000 < c then 3 else if 8192 < nk then 4 else 0) = stepF k t i c nd nk := fun t1 i1 c1 n1 m1 h => by
   unfold stepF
   rw [if_neg hb]
   simp only [h]
  obtain rfl | rfl | rfl | rfl | rfl | rfl | rfl | rfl | rfl | rfl | rfl : k = 1 ∨ k = 2 ∨ k = 3 ∨ k = 4 ∨ k = 5 ∨ k = 6 ∨ k = 7 ∨ k = 8 ∨ k = 9 ∨ k = 10 ∨ k = 11 := by omega
  ·have h := implStep_of 0 0 0 none 0 0 none 0 0 1 t i c da nd dc ka nk kc w hm (fun wx => ownFields_1 t i c da nd dc ka nk kc wx)
   rw [fin 0 0 0 0 0 (by unfold stepOK; omega)] at h
   exact h
  ·have h := implStep_of t 0 0 da nd dc none 0 0 2 t i c da nd dc ka nk kc w hm (fun wx => ownFields_2 t i c da nd dc ka nk kc wx)
   rw [fin t 0 0 nd 0 (by unfold stepOK; omega)] at h
   exact h
  ·have h := implStep_of t i 0 da nd dc none 0 0 3 t i c da nd dc ka nk kc w hm (fun wx => ownFields_3 t i c da nd dc ka nk kc wx)
   rw [fin t i 0 nd 0 (by unfold stepOK; omega)] at h
   exact h
  ·have h := implStep_of t i 0 none 0 0 none 0 0 4 t i c da nd dc ka nk kc w hm (fun wx => ownFields_4 t i c da nd dc ka nk kc wx)
   rw [fin t i 0 0 0 (by unfold stepOK; omega)] at h
   exact h
  ·have h := implStep_of t i 0 none 0 0 none 0 0 5 t i c da nd dc ka nk kc w hm (fun wx => ownFields_5 t i c da nd dc ka nk kc wx)
   rw [fin t i 0 0 0 (by unfold stepOK; omega)] at h
   exact h
  ·have h := implStep_of t 0 0 none 0 0 none 0 0 6 t i c da nd dc ka nk kc w hm (fun wx => ownFields_6 t i c da nd dc ka nk kc wx)
   rw [fin t 0 0 0 0 (by unfold stepOK; omega)] at h
   exact h
  ·have h := implStep_of t 0 0 none 0 0 none 0 0 7 t i c da nd dc ka nk kc w hm (fun wx => ownFields_7 t i c da nd dc ka nk kc wx)
   rw [fin t 0 0 0 0 (by unfold stepOK; omega)] at h
   exact h
  ·have h := implStep_of 0 0 0 none 0 0 none 0 0 8 t i c da nd dc ka nk kc w hm (fun wx => ownFields_8 t i c da nd dc ka nk kc wx)
   rw [fin 0 0 0 0 0 (by unfold stepOK; omega)] at h
   exact h
  ·have h := implStep_of 0 0 0 none 0 0 none 0 0 9 t i c da nd dc ka nk kc w hm (fun wx => ownFields_9 t i c da nd dc ka nk kc wx)
   rw [fin 0 0 0 0 0 (by unfold stepOK; omega)] at h
   exact h
  ·have h := implStep_of 0 0 0 none 0 0 ka nk kc 10 t i c da nd dc ka nk kc w hm (fun wx => ownFields_10 t i c da nd dc ka nk kc wx)
   rw [fin 0 0 0 0 nk (by unfold stepOK; omega)] at h
   exact h
  ·have h := implStep_of 0 0 c none 0 0 none 0 0 11 t i c da nd dc ka nk kc w hm (fun wx => ownFields_11 t i c da nd dc ka nk kc wx)
   rw [fin 0 0 c 0 0 (by unfold stepOK; omega)] at h
   exact h
def StStep.isB (x : StStep) : Prop := True
theorem StStep.isB_dat {x y : StStep} (h : y.dat = x.dat) (hx : x.isB) : y.isB := hx
theorem StStep.size_rd {w : World} {x : StStep} (h : StStep.rd w x) : x.size ≤ 4 * x.szs := by
 have h1 := h.2.2.1
 simp only [StStep.size, StStep.szs]
 omega
def stepFd (d : Int × Int × Int × Int × List Int × List Int) : Int := stepF d.1 d.2.1 d.2.2.1 d.2.2.2.1 d.2.2.2.2.1.length d.2.2.2.2.2.length
theorem specStepD_any (x : StStep) (w : World) (hB : x.isB) (hn : x.szs ≤ 1073741824) (hv : StStep.rd w x) :
  Calls Try.prog 22 #[x.val] w fun e w' => e = .returned (.int .i64 (stepFd x.dat)) ∧ Same w w' := by
 have h1 := hv.1.1
 have h2 := hv.2.1
 have h3 : x.keep.bs.length = x.keep.n := by have := hv.2.2.1; omega
 simp only [stepFd, StStep.dat, h3]
 exact specStep_any x.kd x.tx x.rid x.cnt x.data.a x.data.bs.length x.data.c x.keep.a x.keep.n x.keep.c w h1 h2
theorem implStepD_any (x : StStep) (w : World) (hB : x.isB) (hn : x.szs ≤ 1073741824) (hv : StStep.rd w x) :
  Calls Try.prog 24 #[x.val] w fun e w' => e = .returned (.int .i64 (stepFd x.dat)) ∧ Same w w' := by
 have h1 := hv.1.1
 have h2 := hv.2.1
 have h3 : x.keep.bs.length = x.keep.n := by have := hv.2.2.1; omega
 simp only [stepFd, StStep.dat, h3]
 exact implStep_any x.kd x.tx x.rid x.cnt x.data.a x.data.bs.length x.data.c x.keep.a x.keep.n x.keep.c w h2
theorem array_step {cs : Array Value} (h : cs.size = 6) : ∃ c0 c1 c2 c3 c4 c5, cs = #[c0, c1, c2, c3, c4, c5] := by
 obtain ⟨l⟩ := cs
 match l, h with
 | [c0, c1, c2, c3, c4, c5], _ => exact ⟨c0, c1, c2, c3, c4, c5, rfl⟩
section
variable {H : Type} {enc : TypeId × Value → H} {w : World} {base : Nat} {spare : Nat → Bool} {held : Bool}
set_option maxRecDepth 100000 in
set_option maxHeartbeats 2000000 in
theorem open_step {r : Reach} {b0 : Nat} {v : Value} {d : DataW H} {p : List MemPlace} (hv : Value.okWide Try.prog w r b0 47 v) (h : DataW.Trod enc Try.prog w base spare held 47 v d p) :
  ∃ x : StStep, v = x.val ∧ StStep.rd w x ∧ x.isB := by
 obtain ⟨cs, rfl, hsz⟩ := okWide_struct Try.underlying47 hv
 obtain ⟨c0, c1, c2, c3, c4, c5, rfl⟩ := array_step (hsz.trans (by kernel_rfl))
 obtain ⟨fuel, hf⟩ := h
 obtain ⟨xs, n, _, _, _, hxl, hg⟩ := DataW.trod_struct Try.underlying47 hf
 have g0 : ∃ x, DataW.trod enc Try.prog w base spare held n 2 [c0] = some x := ⟨xs[0]'(by rw [hxl]; decide), by have h := hg 0 _ rfl; rw [List.getElem?_eq_getElem (by rw [hxl]; decide)] at h; exact h⟩
 obtain ⟨x0, g0⟩ := g0
 obtain ⟨z0, e0, _, _⟩ := DataW.trod_int Try.underlying2 g0
 simp at e0
 subst e0
 have g1 : ∃ x, DataW.trod enc Try.prog w base spare held n 2 [c1] = some x := ⟨xs[1]'(by rw [hxl]; decide), by have h := hg 1 _ rfl; rw [List.getElem?_eq_getElem (by rw [hxl]; decide)] at h; exact h⟩
 obtain ⟨x1, g1⟩ := g1
 obtain ⟨z1, e1, _, _⟩ := DataW.trod_int Try.underlying2 g1
 simp at e1
 subst e1
 have g2 : ∃ x, DataW.trod enc Try.prog w base spare held n 2 [c2] = some x := ⟨xs[2]'(by rw [hxl]; decide), by have h := hg 2 _ rfl; rw [List.getElem?_eq_getElem (by rw [hxl]; decide)] at h; exact h⟩
 obtain ⟨x2, g2⟩ := g2
 obtain ⟨z2, e2, _, _⟩ := DataW.trod_int Try.underlying2 g2
 simp at e2
 subst e2
 have g3 : ∃ x, DataW.trod enc Try.prog w base spare held n 2 [c3] = some x := ⟨xs[3]'(by rw [hxl]; decide), by have h := hg 3 _ rfl; rw [List.getElem?_eq_getElem (by rw [hxl]; decide)] at h; exact h⟩
 obtain ⟨x3, g3⟩ := g3
 obtain ⟨z3, e3, _, _⟩ := DataW.trod_int Try.underlying2 g3
 simp at e3
 subst e3
 have g4 : ∃ x, DataW.trod enc Try.prog w base spare held n 22 [c4] = some x := ⟨xs[4]'(by rw [hxl]; decide), by have h := hg 4 _ rfl; rw [List.getElem?_eq_getElem (by rw [hxl]; decide)] at h; exact h⟩
 obtain ⟨x4, g4⟩ := g4
 obtain ⟨b4, r4, B4⟩ := read_intsB Try.underlying22 Try.underlying5 (by kernel_rfl) g4
 obtain ⟨a4, k4, rfl⟩ := r4.form
 have g5 : ∃ x, DataW.trod enc Try.prog w base spare held n 41 [c5] = some x := ⟨xs[5]'(by rw [hxl]; decide), by have h := hg 5 _ rfl; rw [List.getElem?_eq_getElem (by rw [hxl]; decide)] at h; exact h⟩
 obtain ⟨x5, g5⟩ := g5
 obtain ⟨b5, r5, B5⟩ := read_intsB Try.underlying41 Try.underlying2 (by kernel_rfl) g5
 obtain ⟨a5, k5, rfl, f5⟩ := r5.flat
 exact ⟨⟨z0, z1, z2, z3, ⟨0, a4, k4, b4⟩, ⟨0, a5, b5.length, k5, b5⟩⟩, rfl, ⟨r4, f5⟩, trivial⟩
end
end Go.Proofs.Ytlmcaodiiadlkaa
