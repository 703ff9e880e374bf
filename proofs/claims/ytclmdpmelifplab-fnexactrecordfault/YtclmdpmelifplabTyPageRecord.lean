/-
  PageRecord of the laws (by tools/tygen.py).
-/
import Derived.Test.YtclmdpmelifplabOwnRows
import Derived.Test.YtclmdpmelifplabBlk
import Derived.Test.YtclmdpmelifplabBytes
import Derived.Test.YtclmdpmelifplabCopyB
import Derived.Test.YtclmdpmelifplabSzB
import Derived.Deep.DeepCutAuto
namespace Go.Proofs.Ytclmdpmelifplab
open Go.RowKit
set_option linter.unusedVariables false
set_option linter.unusedSimpArgs false

structure StPageRecord where
  used : Bool
  data : BS
def StPageRecord.val (x : StPageRecord) : Value := .agg #[.bool x.used, x.data.v]
def StPageRecord.rows (x : StPageRecord) : List Row := x.data.rows
def StPageRecord.dat (x : StPageRecord) : Bool × List Int := (x.used, x.data.bs)
def StPageRecord.size (x : StPageRecord) : Int := (x.data.bs.length : Int)
theorem StPageRecord.size_le (x : StPageRecord) : 0 ≤ x.size := by
  unfold StPageRecord.size
  omega
def StPageRecord.marked (x : StPageRecord) (k : Int) : StPageRecord := ⟨x.used, x.data.marked (k)⟩
theorem StPageRecord.foot_marked (x : StPageRecord) (k : Int) (b : Nat) : FootL (x.marked k).rows b ↔ FootL x.rows b := by
  exact BS.foot_marked _ _ b
def StPageRecord.rd (w : World) (x : StPageRecord) : Prop := Rd .u8 w x.data.v x.data.bs
theorem StPageRecord.rd.kept {R : Nat → Prop} {w w' : World} {x : StPageRecord} (h : StPageRecord.rd w x) (hk : Kept R w w') (hr : ∀ b, FootL x.rows b → ¬ R b) : StPageRecord.rd w' x :=
  Rd.kept (h) hk (fun b hb => hr b (((footL_ints _ _ _ _ _).2 hb)))
theorem StPageRecord.rd.same {w w' : World} {x : StPageRecord} (h : StPageRecord.rd w x) (hk : Same w w') : StPageRecord.rd w' x := h.kept hk (fun _ _ => id)
theorem StPageRecord.own_rd {w : World} {x : StPageRecord} (h : OwnL w x.rows) : StPageRecord.rd w x :=
  (OwnL.of_one h).rd
def StPageRecord.szs (x : StPageRecord) : Int := (x.data.bs.length : Int)
theorem StPageRecord.szs_le (x : StPageRecord) : 0 ≤ x.szs := by
  unfold StPageRecord.szs
  omega

set_option maxRecDepth 100000 in
set_option maxHeartbeats 4000000 in
theorem eqPageRecord_own (x y : StPageRecord) (w : World) (hn : x.size ≤ 1125899906842624) (hd : x.dat = y.dat) (ha : OwnL w x.rows) (hb : OwnL w y.rows) :
    Calls Try.prog 28 #[x.val, y.val] w fun e w' => e = .returned (.bool true) ∧ Same w w' := by
  obtain ⟨xused, ⟨xdata_e, xdata_a, xdata_c, xdata_b⟩⟩ := x
  obtain ⟨yused, ⟨ydata_e, ydata_a, ydata_c, ydata_b⟩⟩ := y
  simp only [StPageRecord.dat, Prod.mk.injEq] at hd
  obtain ⟨rfl, rfl⟩ := hd
  simp only [StPageRecord.size] at hn
  have Hx0 := (show Hid (OwnL w [ints xdata_e .u8 (.slice xdata_a xdata_b.length xdata_c) xdata_b]) from ha)
  have Hy0 := (show Hid (OwnL w [ints ydata_e .u8 (.slice ydata_a xdata_b.length ydata_c) xdata_b]) from hb)
  clear ha hb
  dsimp only [StPageRecord.val, BS.v]
  go_enter Try.func28, Try.ntmps28
  have hk0 : Same w ((w.alloc (.cells #[.bool xused, .slice xdata_a xdata_b.length xdata_c] 31)).alloc (.cells #[.bool xused, .slice ydata_a xdata_b.length ydata_c] 31)) := ((Kept.refl _ _).alloc _).alloc _
  have HK0 := (show Hid (Same w _) from hk0)
  have HBx0 := (show Hid (Blk ((w.alloc (.cells #[.bool xused, .slice xdata_a xdata_b.length xdata_c] 31)).alloc (.cells #[.bool xused, .slice ydata_a xdata_b.length ydata_c] 31)) w.heap.size 31 [.bool xused, .slice xdata_a xdata_b.length xdata_c]) from (Blk.new w #[.bool xused, .slice xdata_a xdata_b.length xdata_c] 31).alloc _)
  have HBy0 := (show Hid (Blk ((w.alloc (.cells #[.bool xused, .slice xdata_a xdata_b.length xdata_c] 31)).alloc (.cells #[.bool xused, .slice ydata_a xdata_b.length ydata_c] 31)) (w.heap.size + 1) 31 [.bool xused, .slice ydata_a xdata_b.length ydata_c]) from by have h := Blk.new (w.alloc (.cells #[.bool xused, .slice xdata_a xdata_b.length xdata_c] 31)) #[.bool xused, .slice ydata_a xdata_b.length ydata_c] 31; rwa [World.size_alloc] at h)
  clear hk0
  go_wp2_with fail
  refine (eqByteS_own 0 _ _ xdata_b _ (by omega) (Hx0.out.of_one.same HK0.out) (Hy0.out.of_one.same HK0.out)).mono ?_
  rintro e w1 ⟨rfl, nn, hww⟩
  have hk : Same ((w.alloc (.cells #[.bool xused, .slice xdata_a xdata_b.length xdata_c] 31)).alloc (.cells #[.bool xused, .slice ydata_a xdata_b.length ydata_c] 31)) w1 := by rw [hww]; exact (Kept.refl _ _).drewN _
  clear hww
  have HK1 := (show Hid (Same w w1) from HK0.out.trans hk)
  have HBx1 := (show Hid (Blk w1 w.heap.size 31 [.bool xused, .slice xdata_a xdata_b.length xdata_c]) from HBx0.out.same hk)
  have HBy1 := (show Hid (Blk w1 (w.heap.size + 1) 31 [.bool xused, .slice ydata_a xdata_b.length ydata_c]) from HBy0.out.same hk)
  clear hk HK0 HBx0 HBy0
  go_wp2
  go_ret
  exact ⟨rfl, HK1.out⟩

set_option maxRecDepth 100000 in
set_option maxHeartbeats 4000000 in
theorem szPageRecord_any (x : StPageRecord) (left : Int) (w : World) (h0 : 0 ≤ left) (h1 : left ≤ 1048576) (ha : StPageRecord.rd w x) :
    Calls Try.prog 18 #[x.val, .int .i64 left] w fun e w' => ∃ r : Int, e = .returned (.int .i64 r) ∧ (r = -1 ∨ (r = left - x.szs ∧ 0 ≤ r)) ∧ Same w w' := by
  obtain ⟨xused, ⟨xdata_e, xdata_a, xdata_c, xdata_b⟩⟩ := x
  have hm0 : xdata_b.length ≤ maxLen := (ha).1
  clear ha
  dsimp only [StPageRecord.val, BS.v]
  go_enter Try.func18, Try.ntmps18
  have HK0 := (show Hid (Same w (w.alloc (.cells #[.bool xused, .slice xdata_a xdata_b.length xdata_c] 24))) from (Kept.refl _ _).alloc _)
  have HB0 := (show Hid (Blk (w.alloc (.cells #[.bool xused, .slice xdata_a xdata_b.length xdata_c] 24)) w.heap.size 24 [.bool xused, .slice xdata_a xdata_b.length xdata_c]) from Blk.new w #[.bool xused, .slice xdata_a xdata_b.length xdata_c] 24)
  go_wp2_with fail
  refine (szByteS_any _ _ _ left _ (by omega) (by omega) hm0).mono ?_
  rintro e w1 ⟨r1, rfl, hr, hww⟩
  have hk : Same (w.alloc (.cells #[.bool xused, .slice xdata_a xdata_b.length xdata_c] 24)) w1 := by rw [hww]; exact Kept.refl _ _
  clear hww
  replace hr : r1 = -1 ∨ (r1 = left - xdata_b.length ∧ 0 ≤ r1) := by omega
  have HK1 := (show Hid (Same w w1) from HK0.out.trans hk)
  have HB1 := (show Hid (Blk w1 w.heap.size 24 [.bool xused, .slice xdata_a xdata_b.length xdata_c]) from HB0.out.same hk)
  clear hk
  rcases hr with rfl | ⟨hr, hr1⟩
  · go_wp2
    go_ret
    exact ⟨_, rfl, .inl rfl, HK1.out⟩
  have hle1 : r1 ≤ 1048576 := by omega
  have HR1 := (show Hid (_ = _) from hr)
  clear hr
  go_wp2
  go_ret
  exact ⟨_, rfl, .inr ⟨by have e1 := HR1.out; simp only [StPageRecord.szs]; omega, hr1⟩, HK1.out⟩

set_option maxRecDepth 100000 in
set_option maxHeartbeats 16000000 in
theorem toPageRecord_any (x : StPageRecord) (w : World) (hn : x.szs ≤ 1073741824) (ha : StPageRecord.rd w x) :
    Calls Try.prog 23 #[x.val] w fun e w' => ∃ y : StPageRecord, e = .returned y.val ∧ y.dat = x.dat ∧ y.szs = x.szs ∧ (∀ b, FootL y.rows b → w.heap.size ≤ b) ∧ OwnL w' y.rows ∧ Same w w' := by
  obtain ⟨xused, ⟨xdata_e, xdata_a, xdata_c, xdata_b⟩⟩ := x
  have HV0 := (show Hid (Rd .u8 w (.slice xdata_a xdata_b.length xdata_c) xdata_b) from ha)
  clear ha
  simp only [StPageRecord.szs] at hn
  dsimp only [StPageRecord.val, BS.v]
  go_enter Try.func23, Try.ntmps23
  have hk0 : Same w (((w.alloc (.cells #[.bool xused, .slice xdata_a xdata_b.length xdata_c] 24)).alloc (.cells #[.bool false, .slice none 0 0] 31)).alloc (.cells #[.bool xused, .slice none 0 0] 31)) := (((Kept.refl _ _).alloc _).alloc _).alloc _
  have b0 : Blk (((w.alloc (.cells #[.bool xused, .slice xdata_a xdata_b.length xdata_c] 24)).alloc (.cells #[.bool false, .slice none 0 0] 31)).alloc (.cells #[.bool xused, .slice none 0 0] 31)) (w.heap.size) 24 [.bool xused, .slice xdata_a xdata_b.length xdata_c] := ((Blk.new w #[.bool xused, .slice xdata_a xdata_b.length xdata_c] 24).alloc _).alloc _
  have b1 : Blk (((w.alloc (.cells #[.bool xused, .slice xdata_a xdata_b.length xdata_c] 24)).alloc (.cells #[.bool false, .slice none 0 0] 31)).alloc (.cells #[.bool xused, .slice none 0 0] 31)) (w.heap.size + 1) 31 [.bool false, .slice none 0 0] := by have h := (Blk.new (w.alloc (.cells #[.bool xused, .slice xdata_a xdata_b.length xdata_c] 24)) #[.bool false, .slice none 0 0] 31).alloc (.cells #[.bool xused, .slice none 0 0] 31); rwa [World.size_alloc] at h
  have b2 : Blk (((w.alloc (.cells #[.bool xused, .slice xdata_a xdata_b.length xdata_c] 24)).alloc (.cells #[.bool false, .slice none 0 0] 31)).alloc (.cells #[.bool xused, .slice none 0 0] 31)) (w.heap.size + 1 + 1) 31 [.bool xused, .slice none 0 0] := by have h := Blk.new ((w.alloc (.cells #[.bool xused, .slice xdata_a xdata_b.length xdata_c] 24)).alloc (.cells #[.bool false, .slice none 0 0] 31)) #[.bool xused, .slice none 0 0] 31; rwa [World.size_alloc, World.size_alloc] at h
  have hsz : (((w.alloc (.cells #[.bool xused, .slice xdata_a xdata_b.length xdata_c] 24)).alloc (.cells #[.bool false, .slice none 0 0] 31)).alloc (.cells #[.bool xused, .slice none 0 0] 31)).heap.size = w.heap.size + 1 + 1 + 1 := by simp only [World.size_alloc]
  go_wp2_with fail
  refine (toByteS_any _ xdata_b _ (by omega) (HV0.out.same hk0)).mono ?_
  rintro e w1 ⟨g0, rfl, hg, ho, hk⟩
  have O0 : OwnL w1 (BS.rows ⟨5, some ⟨g0, 0, none⟩, xdata_b.length, xdata_b⟩) := OwnL.one ho
  have F0 : ∀ b, FootL (BS.rows ⟨5, some ⟨g0, 0, none⟩, xdata_b.length, xdata_b⟩) b → w.heap.size + 1 + 1 < b := fun b hb => by have h := (footL_ints _ _ _ _ _).1 hb; have h2 : g0 = b := Option.some.inj h; have h3 := hg; omega
  clear ho
  have hk1 : Same w w1 := hk0.trans hk
  replace b0 : Blk w1 (w.heap.size) 24 [.bool xused, .slice xdata_a xdata_b.length xdata_c] := b0.same hk
  replace b1 : Blk w1 (w.heap.size + 1) 31 [.bool false, .slice none 0 0] := b1.same hk
  replace b2 : Blk w1 (w.heap.size + 1 + 1) 31 [.bool xused, .slice none 0 0] := b2.same hk
  replace hsz : w.heap.size + 1 + 1 + 1 ≤ w1.heap.size := by have := hk.size; omega
  clear hk hg
  have da1_0 : w1.cell? ⟨w.heap.size, 0, none⟩ = some (.bool xused) := b0.cell 0
  have dr1_0 : w1.cell? ⟨w.heap.size + 1, 0, none⟩ = some (.bool false) := b1.cell 0
  have fr1_0 : w1.frozen? ⟨w.heap.size + 1, 0, none⟩ = false := b1.frozen 0
  have do1_0 : w1.cell? ⟨w.heap.size + 1 + 1, 0, none⟩ = some (.bool xused) := b2.cell 0
  have fo1_0 : w1.frozen? ⟨w.heap.size + 1 + 1, 0, none⟩ = false := b2.frozen 0
  have da1_1 : w1.cell? ⟨w.heap.size, 1, none⟩ = some (.slice xdata_a xdata_b.length xdata_c) := b0.cell 1
  have dr1_1 : w1.cell? ⟨w.heap.size + 1, 1, none⟩ = some (.slice none 0 0) := b1.cell 1
  have fr1_1 : w1.frozen? ⟨w.heap.size + 1, 1, none⟩ = false := b1.frozen 1
  have do1_1 : w1.cell? ⟨w.heap.size + 1 + 1, 1, none⟩ = some (.slice none 0 0) := b2.cell 1
  have fo1_1 : w1.frozen? ⟨w.heap.size + 1 + 1, 1, none⟩ = false := b2.frozen 1
  have HKz := (show Hid (Same w w1) from hk1)
  have HB1 := (show Hid (Blk w1 (w.heap.size + 1) 31 [.bool false, .slice none 0 0]) from b1)
  have HO0 := (show Hid (OwnL w1 (BS.rows ⟨5, some ⟨g0, 0, none⟩, xdata_b.length, xdata_b⟩)) from O0)
  have HF0 := (show Hid (∀ b, FootL (BS.rows ⟨5, some ⟨g0, 0, none⟩, xdata_b.length, xdata_b⟩) b → w.heap.size + 1 + 1 < b) from F0)
  clear b0 b1 b2 hk0 hk1 O0 F0 
  go_wp2
  refine bodyPost_ret (v := StPageRecord.val ⟨xused, ⟨5, some ⟨g0, 0, none⟩, xdata_b.length, xdata_b⟩⟩) (by simp [StPageRecord.val, StPageRecord.val, BS.v, results, Try.results23, go_sem, dr1_0, dr1_1]) rfl ⟨⟨xused, ⟨5, some ⟨g0, 0, none⟩, xdata_b.length, xdata_b⟩⟩, rfl, ?_, ?_, ?_, ?_, ?_⟩
  · rfl
  · rfl
  · exact fun b hb => by have := HF0.out b (hb); omega
  · refine OwnL.kept (R := fun b => b = w.heap.size + 1 ∨ b = w.heap.size + 1 + 1) (show OwnL _ (StPageRecord.rows ⟨xused, ⟨5, some ⟨g0, 0, none⟩, xdata_b.length, xdata_b⟩⟩) from HO0.out) ?_ ?_
    · exact (Kept.setCell (Kept.setCell (Kept.setCell (Kept.refl (fun b => b = w.heap.size + 1 ∨ b = w.heap.size + 1 + 1) _) (p := ⟨w.heap.size + 1 + 1, 1, none⟩) (.inr (.inr rfl)) _) (p := ⟨w.heap.size + 1, 0, none⟩) (.inr (.inl rfl)) _) (p := ⟨w.heap.size + 1, 1, none⟩) (.inr (.inl rfl)) _)
    · exact fun b hb e => by have := HF0.out b (hb); omega
  · exact (Kept.setCell (Kept.setCell (Kept.setCell HKz.out (p := ⟨w.heap.size + 1 + 1, 1, none⟩) (.inl (by simp only []; omega)) _) (p := ⟨w.heap.size + 1, 0, none⟩) (.inl (by simp only []; omega)) _) (p := ⟨w.heap.size + 1, 1, none⟩) (.inl (by simp only []; omega)) _)
end Go.Proofs.Ytclmdpmelifplab
