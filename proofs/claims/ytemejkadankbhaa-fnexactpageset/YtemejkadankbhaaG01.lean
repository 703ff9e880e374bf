import Derived.Test.YtemejkadankbhaaG00
import Derived.Deep.DeepCutAuto
import Derived.WalkKit
import Derived.OrdersHeld
import Derived.Deep.RegionHeld3
import Derived.Laws.BitsLemmas
import Derived.Laws.Bits64
namespace Go.Proofs.Ytemejkadankbhaa
set_option maxRecDepth 100000
set_option maxHeartbeats 16000000
open Go.RowKit
set_option linter.unusedVariables false
set_option linter.unusedSimpArgs false
structure StPageRecord where
  used : Bool
  data : BS
def StPageRecord.val (x : StPageRecord) : Value := .agg #[.bool x.used, x.data.v]
def StPageRecord.rows (x : StPageRecord) : List Row := x.data.rows
def StPageRecord.dat (x : StPageRecord) : Bool × List Int := (x.used, x.data.bs)
def StPageRecord.size (x : StPageRecord) : Int := (x.data.bs.length : Int)
theorem StPageRecord.size_le (x : StPageRecord) : 0 ≤ x.size := by
  unfold StPageRecord.size
  omega
def StPageRecord.marked (x : StPageRecord) (k : Int) : StPageRecord := ⟨x.used, x.data.marked (k)⟩
theorem StPageRecord.foot_marked (x : StPageRecord) (k : Int) (b : Nat) : FootL (x.marked k).rows b ↔ FootL x.rows b := by
  exact BS.foot_marked _ _ b
def StPageRecord.rd (w : World) (x : StPageRecord) : Prop := Rd .u8 w x.data.v x.data.bs
theorem StPageRecord.rd.kept {R : Nat → Prop} {w w' : World} {x : StPageRecord} (h : StPageRecord.rd w x) (hk : Kept R w w') (hr : ∀ b, FootL x.rows b → ¬ R b) : StPageRecord.rd w' x :=
  Rd.kept (h) hk (fun b hb => hr b (((footL_ints _ _ _ _ _).2 hb)))
theorem StPageRecord.rd.same {w w' : World} {x : StPageRecord} (h : StPageRecord.rd w x) (hk : Same w w') : StPageRecord.rd w' x := h.kept hk (fun _ _ => id)
theorem StPageRecord.own_rd {w : World} {x : StPageRecord} (h : OwnL w x.rows) : StPageRecord.rd w x :=
  (OwnL.of_one h).rd
def StPageRecord.szs (x : StPageRecord) : Int := (x.data.bs.length : Int)
theorem eqPageRecord_own (x y : StPageRecord) (w : World) (hn : x.size ≤ 1125899906842624) (hd : x.dat = y.dat) (ha : OwnL w x.rows) (hb : OwnL w y.rows) :
    Calls Try.prog 17 #[x.val, y.val] w fun e w' => e = .returned (.bool true) ∧ Same w w' := by
  obtain ⟨xused, ⟨xdata_e, xdata_a, xdata_c, xdata_b⟩⟩ := x
  obtain ⟨yused, ⟨ydata_e, ydata_a, ydata_c, ydata_b⟩⟩ := y
  simp only [StPageRecord.dat, Prod.mk.injEq] at hd
  obtain ⟨rfl, rfl⟩ := hd
  simp only [StPageRecord.size] at hn
  have Hx0 := (show Hid (OwnL w [ints xdata_e .u8 (.slice xdata_a xdata_b.length xdata_c) xdata_b]) from ha)
  have Hy0 := (show Hid (OwnL w [ints ydata_e .u8 (.slice ydata_a xdata_b.length ydata_c) xdata_b]) from hb)
  clear ha hb
  dsimp only [StPageRecord.val, BS.v]
  go_enter Try.func17, Try.ntmps17
  have hk0 : Same w ((w.alloc (.cells #[.bool xused, .slice xdata_a xdata_b.length xdata_c] 33)).alloc (.cells #[.bool xused, .slice ydata_a xdata_b.length ydata_c] 33)) := ((Kept.refl _ _).alloc _).alloc _
  have HK0 := (show Hid (Same w _) from hk0)
  obtain ⟨_, HBx0, HBy0⟩ := new2 w [.bool xused, .slice xdata_a xdata_b.length xdata_c] 33 [.bool xused, .slice ydata_a xdata_b.length ydata_c] 33
  clear hk0
  go_wp2_with fail
  refine (eqByteS_own 0 _ _ xdata_b _ (by omega) (Hx0.out.of_one.same HK0.out) (Hy0.out.of_one.same HK0.out)).mono ?_
  rintro e w1 ⟨rfl, nn, hww⟩
  have hk : Same ((w.alloc (.cells #[.bool xused, .slice xdata_a xdata_b.length xdata_c] 33)).alloc (.cells #[.bool xused, .slice ydata_a xdata_b.length ydata_c] 33)) w1 := by rw [hww]; exact (Kept.refl _ _).drewN _
  clear hww
  have HK1 := (show Hid (Same w w1) from HK0.out.trans hk)
  have HBx1 := hid (HBx0.out.same hk)
  have HBy1 := hid (HBy0.out.same hk)
  clear hk HK0 HBx0 HBy0
  go_wp2
  go_ret
  exact ⟨rfl, HK1.out⟩
theorem markPageRecord_own (x : StPageRecord) (k0 : Int) (w : World) (h0 : 0 ≤ k0) (h1 : k0 + x.size ≤ 1125899906842624) (ha : OwnL w x.rows) :
    Calls Try.prog 18 #[x.val, .int .i64 k0] w fun e w' => e = .returned (.int .i64 (k0 + x.size)) ∧ OwnL w' (x.marked k0).rows ∧ Kept (FootL x.rows) w w' := by
  have hlt := ha.lt
  have HLT := (show Hid (∀ b, FootL x.rows b → b < w.heap.size) from hlt)
  have HA := (show Hid (OwnL w x.rows) from ha)
  clear hlt
  obtain ⟨xused, ⟨xdata_e, xdata_a, xdata_c, xdata_b⟩⟩ := x
  have HO0_0 := (show Hid (OwnL w [ints xdata_e .u8 (.slice xdata_a xdata_b.length xdata_c) xdata_b]) from ha)
  clear ha
  simp only [StPageRecord.size] at h1
  dsimp only [StPageRecord.val, BS.v]
  go_enter Try.func18, Try.ntmps18
  have HK_0 := (show Hid (Kept (FootL (StPageRecord.rows ⟨xused, ⟨xdata_e, xdata_a, xdata_c, xdata_b⟩⟩)) w (w.alloc (.cells #[.bool xused, .slice xdata_a xdata_b.length xdata_c] 33))) from (Kept.refl _ _).alloc _)
  have HB_0 := hid (Blk.newL w [.bool xused, .slice xdata_a xdata_b.length xdata_c] 33)
  go_wp2_with fail
  refine (markByteS_own 0 _ xdata_b (k0) _ (by omega) (by omega) (by omega) (OwnL.of_one (HO0_0.out.same ((Kept.refl _ _).alloc _)))).mono ?_
  rintro e w1 ⟨rfl, ho, hk⟩
  have ho := (show OwnL w1 (BS.rows (BS.marked ⟨xdata_e, xdata_a, xdata_c, xdata_b⟩ (k0))) from BS.own_marked.2 (OwnL.one ho))
  have hk : Kept (FootL [ints xdata_e .u8 (.slice xdata_a xdata_b.length xdata_c) xdata_b]) _ w1 := hk.mono (fun b _ e => (footL_ints _ _ _ _ _).2 e)
  have HB_1 := (show Hid (Blk w1 w.heap.size 33 [.bool xused, .slice xdata_a xdata_b.length xdata_c]) from HB_0.out.kept hk (fun e => by have := HLT.out _ (e); omega))
  have HK_1 := (show Hid (Kept (FootL (StPageRecord.rows ⟨xused, ⟨xdata_e, xdata_a, xdata_c, xdata_b⟩⟩)) w w1) from HK_0.out.next hk (fun b _ e => e))
  have HO0_1 := (show Hid (OwnL w1 (BS.rows (BS.marked ⟨xdata_e, xdata_a, xdata_c, xdata_b⟩ (k0)))) from ho)
  clear ho hk HB_0 HK_0 HO0_0
  go_wp2
  go_ret
  refine ⟨rfl, ?_, HK_1.out⟩
  exact HO0_1.out
theorem szPageRecord_any (x : StPageRecord) (left : Int) (w : World) (h0 : 0 ≤ left) (h1 : left ≤ 1048576) (ha : StPageRecord.rd w x) :
    Calls Try.prog 12 #[x.val, .int .i64 left] w fun e w' => ∃ r : Int, e = .returned (.int .i64 r) ∧ (r = -1 ∨ (r = left - x.szs ∧ 0 ≤ r)) ∧ Same w w' := by
  obtain ⟨xused, ⟨xdata_e, xdata_a, xdata_c, xdata_b⟩⟩ := x
  have hm0 : xdata_b.length ≤ maxLen := (ha).1
  clear ha
  dsimp only [StPageRecord.val, BS.v]
  go_enter Try.func12, Try.ntmps12
  obtain ⟨HK0, HB0⟩ := new1 w [.bool xused, .slice xdata_a xdata_b.length xdata_c] 28
  go_wp2_with fail
  refine (szByteS_any _ _ _ left _ (by omega) (by omega) hm0).mono ?_
  rintro e w1 ⟨r1, rfl, hr, hww⟩
  have hk : Same (w.alloc (.cells #[.bool xused, .slice xdata_a xdata_b.length xdata_c] 28)) w1 := by rw [hww]; exact Kept.refl _ _
  clear hww
  replace hr : r1 = -1 ∨ (r1 = left - xdata_b.length ∧ 0 ≤ r1) := by omega
  have HK1 := (show Hid (Same w w1) from HK0.out.trans hk)
  have HB1 := hid (HB0.out.same hk)
  clear hk
  rcases hr with rfl | ⟨hr, hr1⟩
  · go_wp2
    go_ret
    exact ⟨_, rfl, .inl rfl, HK1.out⟩
  have hle1 : r1 ≤ 1048576 := by omega
  have HR1 := (show Hid (_ = _) from hr)
  clear hr
  go_wp2
  go_ret
  exact ⟨_, rfl, .inr ⟨by have e1 := HR1.out; simp only [StPageRecord.szs]; omega, hr1⟩, HK1.out⟩
theorem toPageRecord_any (x : StPageRecord) (w : World) (hn : x.szs ≤ 1073741824) (ha : StPageRecord.rd w x) :
    Calls Try.prog 14 #[x.val] w fun e w' => ∃ y : StPageRecord, e = .returned y.val ∧ y.dat = x.dat ∧ y.szs = x.szs ∧ (∀ b, FootL y.rows b → w.heap.size ≤ b) ∧ OwnL w' y.rows ∧ Same w w' := by
  obtain ⟨xused, ⟨xdata_e, xdata_a, xdata_c, xdata_b⟩⟩ := x
  have HV0 := (show Hid (Rd .u8 w (.slice xdata_a xdata_b.length xdata_c) xdata_b) from ha)
  clear ha
  simp only [StPageRecord.szs] at hn
  dsimp only [StPageRecord.val, BS.v]
  go_enter Try.func14, Try.ntmps14
  have hk0 : Same w (((w.alloc (.cells #[.bool xused, .slice xdata_a xdata_b.length xdata_c] 28)).alloc (.cells #[.bool false, .slice none 0 0] 33)).alloc (.cells #[.bool xused, .slice none 0 0] 33)) := (((Kept.refl _ _).alloc _).alloc _).alloc _
  have b0 : Blk (((w.alloc (.cells #[.bool xused, .slice xdata_a xdata_b.length xdata_c] 28)).alloc (.cells #[.bool false, .slice none 0 0] 33)).alloc (.cells #[.bool xused, .slice none 0 0] 33)) (w.heap.size) 28 [.bool xused, .slice xdata_a xdata_b.length xdata_c] := ((Blk.new w #[.bool xused, .slice xdata_a xdata_b.length xdata_c] 28).alloc _).alloc _
  have b1 : Blk (((w.alloc (.cells #[.bool xused, .slice xdata_a xdata_b.length xdata_c] 28)).alloc (.cells #[.bool false, .slice none 0 0] 33)).alloc (.cells #[.bool xused, .slice none 0 0] 33)) (w.heap.size + 1) 33 [.bool false, .slice none 0 0] := by have h := (Blk.new (w.alloc (.cells #[.bool xused, .slice xdata_a xdata_b.length xdata_c] 28)) #[.bool false, .slice none 0 0] 33).alloc (.cells #[.bool xused, .slice none 0 0] 33); rwa [World.size_alloc] at h
  have b2 : Blk (((w.alloc (.cells #[.bool xused, .slice xdata_a xdata_b.length xdata_c] 28)).alloc (.cells #[.bool false, .slice none 0 0] 33)).alloc (.cells #[.bool xused, .slice none 0 0] 33)) (w.heap.size + 1 + 1) 33 [.bool xused, .slice none 0 0] := by have h := Blk.new ((w.alloc (.cells #[.bool xused, .slice xdata_a xdata_b.length xdata_c] 28)).alloc (.cells #[.bool false, .slice none 0 0] 33)) #[.bool xused, .slice none 0 0] 33; rwa [World.size_alloc, World.size_alloc] at h
  have hsz : (((w.alloc (.cells #[.bool xused, .slice xdata_a xdata_b.length xdata_c] 28)).alloc (.cells #[.bool false, .slice none 0 0] 33)).alloc (.cells #[.bool xused, .slice none 0 0] 33)).heap.size = w.heap.size + 1 + 1 + 1 := by simp only [World.size_alloc]
  go_wp2_with fail
  refine (toByteS_any _ xdata_b _ (by omega) (HV0.out.same hk0)).mono ?_
  rintro e w1 ⟨g0, rfl, hg, ho, hk⟩
  have O0 : OwnL w1 (BS.rows ⟨5, some ⟨g0, 0, none⟩, xdata_b.length, xdata_b⟩) := OwnL.one ho
  have F0 : ∀ b, FootL (BS.rows ⟨5, some ⟨g0, 0, none⟩, xdata_b.length, xdata_b⟩) b → w.heap.size + 1 + 1 < b := fun b hb => by have h := (footL_ints _ _ _ _ _).1 hb; have h2 : g0 = b := Option.some.inj h; have h3 := hg; omega
  clear ho
  have hk1 : Same w w1 := hk0.trans hk
  replace b0 : Blk w1 (w.heap.size) 28 [.bool xused, .slice xdata_a xdata_b.length xdata_c] := b0.same hk
  replace b1 : Blk w1 (w.heap.size + 1) 33 [.bool false, .slice none 0 0] := b1.same hk
  replace b2 : Blk w1 (w.heap.size + 1 + 1) 33 [.bool xused, .slice none 0 0] := b2.same hk
  replace hsz : w.heap.size + 1 + 1 + 1 ≤ w1.heap.size := by have := hk.size; omega
  clear hk hg
  have da1_0 := b0.c0
  have dr1_0 := b1.c0
  have fr1_0 : w1.frozen? ⟨w.heap.size + 1, 0, none⟩ = false := b1.frozen 0
  have do1_0 := b2.c0
  have fo1_0 : w1.frozen? ⟨w.heap.size + 1 + 1, 0, none⟩ = false := b2.frozen 0
  have da1_1 := b0.c1
  have dr1_1 := b1.c1
  have fr1_1 : w1.frozen? ⟨w.heap.size + 1, 1, none⟩ = false := b1.frozen 1
  have do1_1 := b2.c1
  have fo1_1 : w1.frozen? ⟨w.heap.size + 1 + 1, 1, none⟩ = false := b2.frozen 1
  have HKz := (show Hid (Same w w1) from hk1)
  have HB1 := (show Hid (Blk w1 (w.heap.size + 1) 33 [.bool false, .slice none 0 0]) from b1)
  have HO0 := (show Hid (OwnL w1 (BS.rows ⟨5, some ⟨g0, 0, none⟩, xdata_b.length, xdata_b⟩)) from O0)
  have HF0 := (show Hid (∀ b, FootL (BS.rows ⟨5, some ⟨g0, 0, none⟩, xdata_b.length, xdata_b⟩) b → w.heap.size + 1 + 1 < b) from F0)
  clear b0 b1 b2 hk0 hk1 O0 F0 
  go_wp2
  refine bodyPost_ret (v := StPageRecord.val ⟨xused, ⟨5, some ⟨g0, 0, none⟩, xdata_b.length, xdata_b⟩⟩) (by simp [StPageRecord.val, StPageRecord.val, BS.v, results, Try.results14, go_sem, dr1_0, dr1_1]) rfl ⟨⟨xused, ⟨5, some ⟨g0, 0, none⟩, xdata_b.length, xdata_b⟩⟩, rfl, ?_, ?_, ?_, ?_, ?_⟩
  · rfl
  · rfl
  · exact fun b hb => by have := HF0.out b (hb); omega
  · refine OwnL.kept (R := fun b => b = w.heap.size + 1 ∨ b = w.heap.size + 1 + 1) (show OwnL _ (StPageRecord.rows ⟨xused, ⟨5, some ⟨g0, 0, none⟩, xdata_b.length, xdata_b⟩⟩) from HO0.out) ?_ ?_
    · exact (Kept.setCell (Kept.setCell (Kept.setCell (Kept.refl (fun b => b = w.heap.size + 1 ∨ b = w.heap.size + 1 + 1) _) (p := ⟨w.heap.size + 1 + 1, 1, none⟩) (.inr (.inr rfl)) _) (p := ⟨w.heap.size + 1, 0, none⟩) (.inr (.inl rfl)) _) (p := ⟨w.heap.size + 1, 1, none⟩) (.inr (.inl rfl)) _)
    · exact fun b hb e => by have := HF0.out b (hb); omega
  · exact (Kept.setCell (Kept.setCell (Kept.setCell HKz.out (p := ⟨w.heap.size + 1 + 1, 1, none⟩) (.inl (by simp only []; omega)) _) (p := ⟨w.heap.size + 1, 0, none⟩) (.inl (by simp only []; omega)) _) (p := ⟨w.heap.size + 1, 1, none⟩) (.inl (by simp only []; omega)) _)
end Go.Proofs.Ytemejkadankbhaa

namespace Go.Proofs.Ytemejkadankbhaa
open Go.RowKit
set_option linter.unusedVariables false
set_option linter.unusedSimpArgs false
structure StPageResult where
  code : Int
  page : BS
def StPageResult.val (x : StPageResult) : Value := .agg #[.int .i64 x.code, x.page.v]
def StPageResult.rows (x : StPageResult) : List Row := x.page.rows
def StPageResult.dat (x : StPageResult) : Int × List Int := (x.code, x.page.bs)
def StPageResult.size (x : StPageResult) : Int := (x.page.bs.length : Int)
theorem StPageResult.size_le (x : StPageResult) : 0 ≤ x.size := by
  unfold StPageResult.size
  omega
def StPageResult.marked (x : StPageResult) (k : Int) : StPageResult := ⟨x.code, x.page.marked (k)⟩
theorem StPageResult.foot_marked (x : StPageResult) (k : Int) (b : Nat) : FootL (x.marked k).rows b ↔ FootL x.rows b := by
  exact BS.foot_marked _ _ b
def StPageResult.rd (w : World) (x : StPageResult) : Prop := Rd .u8 w x.page.v x.page.bs
theorem StPageResult.rd.kept {R : Nat → Prop} {w w' : World} {x : StPageResult} (h : StPageResult.rd w x) (hk : Kept R w w') (hr : ∀ b, FootL x.rows b → ¬ R b) : StPageResult.rd w' x :=
  Rd.kept (h) hk (fun b hb => hr b (((footL_ints _ _ _ _ _).2 hb)))
theorem StPageResult.rd.same {w w' : World} {x : StPageResult} (h : StPageResult.rd w x) (hk : Same w w') : StPageResult.rd w' x := h.kept hk (fun _ _ => id)
theorem StPageResult.own_rd {w : World} {x : StPageResult} (h : OwnL w x.rows) : StPageResult.rd w x :=
  (OwnL.of_one h).rd
def StPageResult.szs (x : StPageResult) : Int := (x.page.bs.length : Int)
set_option maxRecDepth 100000 in
set_option maxHeartbeats 4000000 in
theorem eqPageResult_own (x y : StPageResult) (w : World) (hn : x.size ≤ 1125899906842624) (hd : x.dat = y.dat) (ha : OwnL w x.rows) (hb : OwnL w y.rows) :
    Calls Try.prog 16 #[x.val, y.val] w fun e w' => e = .returned (.bool true) ∧ Same w w' := by
  obtain ⟨xcode, ⟨xpage_e, xpage_a, xpage_c, xpage_b⟩⟩ := x
  obtain ⟨ycode, ⟨ypage_e, ypage_a, ypage_c, ypage_b⟩⟩ := y
  simp only [StPageResult.dat, Prod.mk.injEq] at hd
  obtain ⟨rfl, rfl⟩ := hd
  simp only [StPageResult.size] at hn
  have Hx0 := (show Hid (OwnL w [ints xpage_e .u8 (.slice xpage_a xpage_b.length xpage_c) xpage_b]) from ha)
  have Hy0 := (show Hid (OwnL w [ints ypage_e .u8 (.slice ypage_a xpage_b.length ypage_c) xpage_b]) from hb)
  clear ha hb
  dsimp only [StPageResult.val, BS.v]
  go_enter Try.func16, Try.ntmps16
  have hk0 : Same w ((w.alloc (.cells #[.int .i64 xcode, .slice xpage_a xpage_b.length xpage_c] 31)).alloc (.cells #[.int .i64 xcode, .slice ypage_a xpage_b.length ypage_c] 31)) := ((Kept.refl _ _).alloc _).alloc _
  have HK0 := (show Hid (Same w _) from hk0)
  have HBx0 := (show Hid (Blk ((w.alloc (.cells #[.int .i64 xcode, .slice xpage_a xpage_b.length xpage_c] 31)).alloc (.cells #[.int .i64 xcode, .slice ypage_a xpage_b.length ypage_c] 31)) w.heap.size 31 [.int .i64 xcode, .slice xpage_a xpage_b.length xpage_c]) from (Blk.new w #[.int .i64 xcode, .slice xpage_a xpage_b.length xpage_c] 31).alloc _)
  have HBy0 := (show Hid (Blk ((w.alloc (.cells #[.int .i64 xcode, .slice xpage_a xpage_b.length xpage_c] 31)).alloc (.cells #[.int .i64 xcode, .slice ypage_a xpage_b.length ypage_c] 31)) (w.heap.size + 1) 31 [.int .i64 xcode, .slice ypage_a xpage_b.length ypage_c]) from by have h := Blk.new (w.alloc (.cells #[.int .i64 xcode, .slice xpage_a xpage_b.length xpage_c] 31)) #[.int .i64 xcode, .slice ypage_a xpage_b.length ypage_c] 31; rwa [World.size_alloc] at h)
  clear hk0
  go_wp2_with fail
  refine (eqByteS_own 0 _ _ xpage_b _ (by omega) (Hx0.out.of_one.same HK0.out) (Hy0.out.of_one.same HK0.out)).mono ?_
  rintro e w1 ⟨rfl, nn, hww⟩
  have hk : Same ((w.alloc (.cells #[.int .i64 xcode, .slice xpage_a xpage_b.length xpage_c] 31)).alloc (.cells #[.int .i64 xcode, .slice ypage_a xpage_b.length ypage_c] 31)) w1 := by rw [hww]; exact (Kept.refl _ _).drewN _
  clear hww
  have HK1 := (show Hid (Same w w1) from HK0.out.trans hk)
  have HBx1 := (show Hid (Blk w1 w.heap.size 31 [.int .i64 xcode, .slice xpage_a xpage_b.length xpage_c]) from HBx0.out.same hk)
  have HBy1 := (show Hid (Blk w1 (w.heap.size + 1) 31 [.int .i64 xcode, .slice ypage_a xpage_b.length ypage_c]) from HBy0.out.same hk)
  clear hk HK0 HBx0 HBy0
  go_wp2
  go_ret
  exact ⟨rfl, HK1.out⟩
set_option maxRecDepth 100000 in
set_option maxHeartbeats 4000000 in
theorem markPageResult_own (x : StPageResult) (k0 : Int) (w : World) (h0 : 0 ≤ k0) (h1 : k0 + x.size ≤ 1125899906842624) (ha : OwnL w x.rows) :
    Calls Try.prog 19 #[x.val, .int .i64 k0] w fun e w' => e = .returned (.int .i64 (k0 + x.size)) ∧ OwnL w' (x.marked k0).rows ∧ Kept (FootL x.rows) w w' := by
  have hlt := ha.lt
  have HLT := (show Hid (∀ b, FootL x.rows b → b < w.heap.size) from hlt)
  have HA := (show Hid (OwnL w x.rows) from ha)
  clear hlt
  obtain ⟨xcode, ⟨xpage_e, xpage_a, xpage_c, xpage_b⟩⟩ := x
  have HO0_0 := (show Hid (OwnL w [ints xpage_e .u8 (.slice xpage_a xpage_b.length xpage_c) xpage_b]) from ha)
  clear ha
  simp only [StPageResult.size] at h1
  dsimp only [StPageResult.val, BS.v]
  go_enter Try.func19, Try.ntmps19
  have HK_0 := (show Hid (Kept (FootL (StPageResult.rows ⟨xcode, ⟨xpage_e, xpage_a, xpage_c, xpage_b⟩⟩)) w (w.alloc (.cells #[.int .i64 xcode, .slice xpage_a xpage_b.length xpage_c] 31))) from (Kept.refl _ _).alloc _)
  have HB_0 := (show Hid (Blk (w.alloc (.cells #[.int .i64 xcode, .slice xpage_a xpage_b.length xpage_c] 31)) w.heap.size 31 [.int .i64 xcode, .slice xpage_a xpage_b.length xpage_c]) from Blk.new w #[.int .i64 xcode, .slice xpage_a xpage_b.length xpage_c] 31)
  go_wp2_with fail
  refine (markByteS_own 0 _ xpage_b (k0) _ (by omega) (by omega) (by omega) (OwnL.of_one (HO0_0.out.same ((Kept.refl _ _).alloc _)))).mono ?_
  rintro e w1 ⟨rfl, ho, hk⟩
  have ho := (show OwnL w1 (BS.rows (BS.marked ⟨xpage_e, xpage_a, xpage_c, xpage_b⟩ (k0))) from BS.own_marked.2 (OwnL.one ho))
  have hk : Kept (FootL [ints xpage_e .u8 (.slice xpage_a xpage_b.length xpage_c) xpage_b]) _ w1 := hk.mono (fun b _ e => (footL_ints _ _ _ _ _).2 e)
  have HB_1 := (show Hid (Blk w1 w.heap.size 31 [.int .i64 xcode, .slice xpage_a xpage_b.length xpage_c]) from HB_0.out.kept hk (fun e => by have := HLT.out _ (e); omega))
  have HK_1 := (show Hid (Kept (FootL (StPageResult.rows ⟨xcode, ⟨xpage_e, xpage_a, xpage_c, xpage_b⟩⟩)) w w1) from HK_0.out.next hk (fun b _ e => e))
  have HO0_1 := (show Hid (OwnL w1 (BS.rows (BS.marked ⟨xpage_e, xpage_a, xpage_c, xpage_b⟩ (k0)))) from ho)
  clear ho hk HB_0 HK_0 HO0_0
  go_wp2
  go_ret
  refine ⟨rfl, ?_, HK_1.out⟩
  exact HO0_1.out
set_option maxRecDepth 100000 in
set_option maxHeartbeats 4000000 in
theorem heldPageResult_own (x : StPageResult) (k0 : Int) (w : World) (h0 : 0 ≤ k0) (h1 : k0 + x.size ≤ 1125899906842624) (ha : OwnL w (x.marked k0).rows) :
    Calls Try.prog 20 #[x.val, .int .i64 k0] w fun e w' => e = .returned (.int .i64 (k0 + x.size)) ∧ Same w w' := by
  obtain ⟨xcode, ⟨xpage_e, xpage_a, xpage_c, xpage_b⟩⟩ := x
  have HO0 := (show Hid (OwnL w [ints xpage_e .u8 (.slice xpage_a xpage_b.length xpage_c) (marks (k0) xpage_b.length)]) from BS.own_marked.1 (ha))
  clear ha
  simp only [StPageResult.size] at h1
  dsimp only [StPageResult.val, BS.v]
  go_enter Try.func20, Try.ntmps20
  have HK0 := (show Hid (Same w (w.alloc (.cells #[.int .i64 xcode, .slice xpage_a xpage_b.length xpage_c] 31))) from (Kept.refl _ _).alloc _)
  have HB0 := (show Hid (Blk (w.alloc (.cells #[.int .i64 xcode, .slice xpage_a xpage_b.length xpage_c] 31)) w.heap.size 31 [.int .i64 xcode, .slice xpage_a xpage_b.length xpage_c]) from Blk.new w #[.int .i64 xcode, .slice xpage_a xpage_b.length xpage_c] 31)
  have hneg0 : ¬ (k0 + (xpage_b.length : Int)) < 0 := by omega
  go_wp2_with fail
  refine (heldByteS_own 0 _ xpage_b.length (k0) _ (by omega) (by omega) (by omega) (OwnL.of_one (HO0.out.same HK0.out))).mono ?_
  rintro e w1 ⟨rfl, hww⟩
  have hk : Same (w.alloc (.cells #[.int .i64 xcode, .slice xpage_a xpage_b.length xpage_c] 31)) w1 := by rw [hww]; exact Kept.refl _ _
  clear hww
  have HK1 := (show Hid (Same w w1) from HK0.out.trans hk)
  have HB1 := (show Hid (Blk w1 w.heap.size 31 [.int .i64 xcode, .slice xpage_a xpage_b.length xpage_c]) from HB0.out.same hk)
  clear hk
  go_wp2
  go_ret
  exact ⟨rfl, HK1.out⟩
end Go.Proofs.Ytemejkadankbhaa

namespace Go.Proofs.Ytemejkadankbhaa
open Go.RowKit
set_option linter.unusedVariables false
def StPageRecord.isB (x : StPageRecord) : Prop := IsB x.data.bs
theorem StPageRecord.isB_dat {x y : StPageRecord} (h : y.dat = x.dat) (hx : x.isB) : y.isB := by
  have e : y.data.bs = x.data.bs := congrArg Prod.snd h
  unfold StPageRecord.isB at *
  rw [e]; exact hx
theorem StPageRecord.size_rd {w : World} {x : StPageRecord} (h : StPageRecord.rd w x) : x.size ≤ 4 * x.szs := by
  unfold StPageRecord.size StPageRecord.szs
  omega
def SameP (w0 w : World) : Prop := Same w0 w
theorem SameP.same {w0 w w' : World} (h : SameP w0 w) (hk : Same w w') : SameP w0 w' := Kept.trans h hk
def PRes (w0 w' : World) (D : Int × List Int) (v : Value) : Prop :=
  ∃ (y : StPageResult) (B : Nat), v = .pointer (some ⟨B, 0, none⟩) ∧ w0.heap.size ≤ B ∧ B < w'.heap.size ∧ Blk w' B 31 [.int .i64 y.code, .slice y.page.a y.page.bs.length y.page.c] ∧ y.dat = D ∧ (∀ b, FootL y.rows b → w0.heap.size ≤ b ∧ b ≠ B) ∧ OwnL w' y.rows ∧ Same w0 w'
end Go.Proofs.Ytemejkadankbhaa

namespace Go.Proofs.Ytemejkadankbhaa
set_option maxRecDepth 100000
set_option maxHeartbeats 2000000
open Go.ChangeShapes Go.WideShapes Go.ChangeAt Go.RowKit
set_option linter.unusedVariables false
set_option linter.unusedSimpArgs false
theorem array_pr {cs : Array Value} (h : cs.size = 2) : ∃ c0 c1, cs = #[c0, c1] := by
  obtain ⟨l⟩ := cs
  match l, h with
  | [c0, c1], _ => exact ⟨c0, c1, rfl⟩
section
variable {H : Type} {enc : TypeId × Value → H} {w : World} {base : Nat} {spare : Nat → Bool} {held : Bool}
theorem open_pageRecord {r : Reach} {b0 : Nat} {v : Value} {d : DataW H} {p : List MemPlace} (hv : Value.okWide Try.prog w r b0 28 v) (h : DataW.Trod enc Try.prog w base spare held 28 v d p) :
    ∃ x : StPageRecord, v = x.val ∧ StPageRecord.rd w x ∧ x.isB := by
  obtain ⟨cs, rfl, hsz⟩ := okWide_struct Try.underlying28 hv
  obtain ⟨c0, c1, rfl⟩ := array_pr (hsz.trans (by kernel_rfl))
  obtain ⟨fuel, hf⟩ := h
  obtain ⟨y0, y1, k, _, _, h0, h1⟩ := trod_struct2 Try.underlying28 hf
  have h0' : DataW.trod enc Try.prog w base spare held k 4 [c0] = some y0 := h0
  have h1' : DataW.trod enc Try.prog w base spare held k 22 [c1] = some y1 := h1
  obtain ⟨b, hb, _⟩ := DataW.trod_bool Try.underlying4 h0'
  obtain ⟨bs, hbs, hB⟩ := read_intsB Try.underlying22 Try.underlying5 (by kernel_rfl) h1'
  obtain ⟨a, c, rfl⟩ := hbs.form
  simp at hb
  subst hb
  exact ⟨⟨b, ⟨0, a, c, bs⟩⟩, rfl, hbs, fun x hx => by have := hB x hx; exact ⟨this.1, this.2⟩⟩
end
end Go.Proofs.Ytemejkadankbhaa

namespace Go.Proofs.Ytemejkadankbhaa
open Go
section
variable {P : Program} {ops : Array Oper} {Q : Exit → Act → World → Prop} {md : Region.Mode} {S : World → Prop} {s : Nat}
def wpAnyV (P : Program) (md : Region.Mode) (ops : Array Oper) (Q : Exit → Act → World → Prop) (S : World → Prop) (s : Nat) : Nat → Array Bool → Act → World → Prop
  | 0, listed, a, w => Region.ready md ops listed = [] ∧ Q .normal a w
  | fuel + 1, listed, a, w =>
    (Region.ready md ops listed = [] → Q .normal a w) ∧
    ∀ i ∈ Region.ready md ops listed, wpOp P ops Q i (fun a' w' => (i ≠ s → S w') ∧ wpAnyV P md ops Q S s fuel (listed.setIfInBounds i true) a' w') a w
theorem wpAny_of_V : ∀ (fuel : Nat) (listed : Array Bool) (a : Act) (w : World), wpAnyV P md ops Q S s fuel listed a w → wpAny P md ops Q fuel listed a w
  | 0, _, _, _, h => h
  | fuel + 1, _, _, _, h => ⟨h.1, fun i hi => wpOp_mono (fun a' w' h' => wpAny_of_V fuel _ a' w' h'.2) (h.2 i hi)⟩
def waits (md : Region.Mode) (ops : Array Oper) (s i : Nat) : Bool :=
  match ops[s]? with
  | some o => o.after.any fun e => Region.binds md e && e.on == i
  | none => true
theorem waits_spec {i : Nat} (h : waits md ops s i = true) {os : Oper} (ho : ops[s]? = some os) (hn : ∀ e ∈ os.after, Region.binds md e = true → e.on ≠ i) : False := by
  unfold waits at h
  rw [ho] at h
  obtain ⟨e, he, hb⟩ := Array.any_eq_true'.1 h
  simp only [Bool.and_eq_true, beq_iff_eq] at hb
  exact hn e he hb.1 hb.2
theorem ready_apart {listed : Array Bool} {i j : Nat} (hi : i ∈ Region.ready md ops listed) (hj : j ∈ Region.ready md ops listed) {oj : Oper} (hoj : ops[j]? = some oj) :
    ∀ e ∈ oj.after, Region.binds md e = true → e.on ≠ i := by
  rintro e he hb rfl
  obtain ⟨_, o, ho, hall⟩ := mem_ready.1 hj
  obtain rfl : o = oj := by rw [hoj] at ho; exact (Option.some.inj ho).symm
  have hyes := hall e he hb
  have hno := (mem_ready.1 hi).1
  by_cases hl : e.on < listed.size <;> simp_all
def Loose (md : Region.Mode) (ops : Array Oper) (i : Nat) (oi : Oper) (listed : Array Bool) : Prop :=
  ∀ j oj, ops[j]? = some oj → j ≠ i → listed.getD j true = false → (∀ e ∈ oj.after, Region.binds md e = true → e.on ≠ i) → oi.apart ops oj = true
theorem Loose.on {i j : Nat} {oi : Oper} {listed : Array Bool} (h : Loose md ops i oi listed) (hj : listed.getD j true = false) : Loose md ops i oi (listed.setIfInBounds j true) := fun k ok hk hki hun hno =>
  h k ok hk hki (if e : j = k then e ▸ hj else (getD_set_ne true e) ▸ hun) hno
theorem wpAnyV_first {i : Nat} {oi : Oper} {v : Value} (hi : ops[i]? = some oi) (hsel : ∀ (j : Nat) (o : Oper) cs b, ops[j]? = some o → o.op ≠ .select cs b) (hs : waits md ops s i = true)
    (hQ : ∀ c a w, Q (.panic c) (a.put oi.dst v) w → Q (.panic c) a w) (fuel : Nat) : ∀ (listed : Array Bool) (a : Act) (w : World), Loose md ops i oi listed → i ∈ Region.ready md ops listed → YieldsIf P ops S oi v a → S w →
      wpAnyV P md ops Q S s fuel (listed.setIfInBounds i true) (a.put oi.dst v) w → wpAnyV P md ops Q S s (fuel + 1) listed a w := by
  induction fuel with
  | zero =>
    intro listed a w _ hr hy hS H
    constructor
    · intro h0; simp [h0] at hr
    · intro j hj
      by_cases e : j = i
      · exact e ▸ hy.wpOp hi hS ⟨fun _ => hS, H⟩
      · have := ready_mono hj e
        simp [H.1] at this
  | succ fuel ih =>
    intro listed a w hl hr hy hS H
    constructor
    · intro h0; simp [h0] at hr
    · intro j hj
      by_cases e : j = i
      · exact e ▸ hy.wpOp hi hS ⟨fun _ => hS, H⟩
      · obtain ⟨hun, oj, hoj, _⟩ := mem_ready.1 hj
        have hap := ready_apart hr hj hoj
        have hjs : j ≠ s := fun es => waits_spec hs (es ▸ hoj) hap
        refine wpOp_mono ?_ (wpOp_putIf hoj (hl j oj hoj e hun hap) (fun cs b => hsel i oi cs b hi) (fun cs b => hsel j oj cs b hoj) hQ hy (H.2 j (ready_mono hj e)))
        rintro a' w' ⟨hy', hS', hw'⟩
        exact ⟨hS', ih _ a' w' (hl.on hun) (ready_mono hr (Ne.symm e)) hy' (hS' hjs) (by rw [Array.setIfInBounds_comm _ _ e]; exact hw')⟩
theorem wpAnyV_take {i : Nat} {oi : Oper} {v : Value} {fuel : Nat} {listed : Array Bool} {a : Act} {w : World} (d : Option Tmp) (hi : ops[i]? = some oi) (hd : oi.dst = d)
    (hsl : Region.noSelect ops = true) (hf : Region.free md ops listed i = true) (hr : (Region.ready md ops listed).contains i = true) (hs : waits md ops s i = true)
    (hQ : ∀ c a w, Q (.panic c) (a.put d v) w → Q (.panic c) a w) (hy : YieldsIf P ops S oi v a) (hS : S w)
    (h : wpAnyV P md ops Q S s fuel (listed.setIfInBounds i true) (a.put d v) w) : wpAnyV P md ops Q S s (fuel + 1) listed a w := by
  subst hd
  exact wpAnyV_first hi (Region.noSelect_spec hsl) hs hQ fuel listed a w (Region.free_spec hi hf) (by simpa using hr) hy hS h
theorem sA {α : Type} {l : List α} {i : Nat} {a : α} : l.toArray.setIfInBounds i a = (l.set i a).toArray := List.setIfInBounds_toArray ..
theorem s0 {α : Type} {x : α} {xs : List α} {a : α} : (x :: xs).set 0 a = a :: xs := List.set_cons_zero
theorem sS {α : Type} {x : α} {xs : List α} {i : Nat} {a : α} : (x :: xs).set (i + 1) a = x :: xs.set i a := List.set_cons_succ
theorem tk (i d : Nat) {oi : Oper} {v : Value} {fuel : Nat} {listed : Array Bool} {a a' : Act} {w : World} (hS : S w)
    (h : wpAnyV P md ops Q S s fuel (listed.setIfInBounds i true) a' w) (hi : ops[i]? = some oi := by rfl) (hg : Region.wanted oi (yielded ops a.tmps) = true := by rfl) (hd : oi.dst = some d := by rfl)
    (hy : ∀ w, S w → (execOp a.eval oi).run P w = .ok (.value v) w := by intro w hSw; (try dsimp only at hSw); go_simp; (try with_reducible rfl))
    (hsl : Region.noSelect ops = true := by kernel_rfl) (hf : Region.free md ops listed i = true := by kernel_rfl) (hr : (Region.ready md ops listed).contains i = true := by kernel_rfl) (hs : waits md ops s i = true := by kernel_rfl)
    (hQ : ∀ c a w, Q (.panic c) (a.put (some d) v) w → Q (.panic c) a w := by exact fun _ _ _ h => h)
    (ha : a.put (some d) v = a' := by first | (simp only [Act.put, sA, s0, sS]; done) | (simp only [Act.put, sA, s0, sS]; rfl) | rfl) : wpAnyV P md ops Q S s (fuel + 1) listed a w :=
  wpAnyV_take (some d) hi hd hsl hf hr hs hQ (Or.inl ⟨hg, hy⟩) hS (ha ▸ h)
theorem tkV (i d : Nat) (v : Value) {oi : Oper} {fuel : Nat} {listed : Array Bool} {a a' : Act} {w : World} (hS : S w)
    (h : wpAnyV P md ops Q S s fuel (listed.setIfInBounds i true) a' w) (hi : ops[i]? = some oi := by rfl) (hg : Region.wanted oi (yielded ops a.tmps) = true := by rfl) (hd : oi.dst = some d := by rfl)
    (hy : ∀ w, S w → (execOp a.eval oi).run P w = .ok (.value v) w := by intro w hSw; (try dsimp only at hSw); go_simp; (try omega))
    (hsl : Region.noSelect ops = true := by kernel_rfl) (hf : Region.free md ops listed i = true := by kernel_rfl) (hr : (Region.ready md ops listed).contains i = true := by kernel_rfl) (hs : waits md ops s i = true := by kernel_rfl)
    (hQ : ∀ c a w, Q (.panic c) (a.put (some d) v) w → Q (.panic c) a w := by exact fun _ _ _ h => h)
    (ha : a.put (some d) v = a' := by first | (simp only [Act.put, sA, s0, sS]; done) | (simp only [Act.put, sA, s0, sS]; rfl) | rfl) : wpAnyV P md ops Q S s (fuel + 1) listed a w :=
  wpAnyV_take (some d) hi hd hsl hf hr hs hQ (Or.inl ⟨hg, hy⟩) hS (ha ▸ h)
theorem tkS (i d : Nat) {oi : Oper} {fuel : Nat} {listed : Array Bool} {a a' : Act} {w : World} (hS : S w)
    (h : wpAnyV P md ops Q S s fuel (listed.setIfInBounds i true) a' w) (hi : ops[i]? = some oi := by rfl) (hg : Region.wanted oi (yielded ops a.tmps) = false := by rfl) (hd : oi.dst = some d := by rfl)
    (hsl : Region.noSelect ops = true := by kernel_rfl) (hf : Region.free md ops listed i = true := by kernel_rfl) (hr : (Region.ready md ops listed).contains i = true := by kernel_rfl) (hs : waits md ops s i = true := by kernel_rfl)
    (hQ : ∀ c a w, Q (.panic c) (a.put (some d) undef) w → Q (.panic c) a w := by exact fun _ _ _ h => h)
    (ha : a.put (some d) undef = a' := by first | (simp only [Act.put, sA, s0, sS]; done) | (simp only [Act.put, sA, s0, sS]; rfl) | rfl) : wpAnyV P md ops Q S s (fuel + 1) listed a w :=
  wpAnyV_take (some d) hi hd hsl hf hr hs hQ (Or.inr ⟨hg, rfl⟩) hS (ha ▸ h)
theorem wpAnyV_one {i : Nat} {o : Oper} {fuel : Nat} {listed : Array Bool} {a : Act} {w : World} (hr : Region.ready md ops listed = [i]) (ho : ops[i]? = some o)
    (h : ∀ K' : Act → World → Prop, Shut (∀ a w, (i ≠ s → S w) → wpAnyV P md ops Q S s fuel (listed.setIfInBounds i true) a w → K' a w) → if Region.wanted o (yielded ops a.tmps) = true then Oper.wp P o a w K' Q else K' (a.put o.dst undef) w) :
    wpAnyV P md ops Q S s (fuel + 1) listed a w := by
  constructor
  · intro h0; simp [hr] at h0
  · intro j hj
    rw [hr] at hj
    obtain rfl : j = i := by simpa using hj
    exact wpOp_step ho (fun K' hK => h K' (fun a w hS hW => hK a w ⟨hS, hW⟩))
theorem wpAnyV_two {i j : Nat} {o o' : Oper} {fuel : Nat} {listed : Array Bool} {a : Act} {w : World} (hr : Region.ready md ops listed = [i, j]) (ho : ops[i]? = some o) (ho' : ops[j]? = some o')
    (h : ∀ K' : Act → World → Prop, Shut (∀ a w, (i ≠ s → S w) → wpAnyV P md ops Q S s fuel (listed.setIfInBounds i true) a w → K' a w) → if Region.wanted o (yielded ops a.tmps) = true then Oper.wp P o a w K' Q else K' (a.put o.dst undef) w)
    (h' : ∀ K' : Act → World → Prop, Shut (∀ a w, (j ≠ s → S w) → wpAnyV P md ops Q S s fuel (listed.setIfInBounds j true) a w → K' a w) → if Region.wanted o' (yielded ops a.tmps) = true then Oper.wp P o' a w K' Q else K' (a.put o'.dst undef) w) :
    wpAnyV P md ops Q S s (fuel + 1) listed a w := by
  constructor
  · intro h0; simp [hr] at h0
  · intro k hk
    rw [hr] at hk
    simp only [List.mem_cons, List.not_mem_nil, or_false] at hk
    rcases hk with rfl | rfl
    · exact wpOp_step ho (fun K' hK => h K' (fun a w hS hW => hK a w ⟨hS, hW⟩))
    · exact wpOp_step ho' (fun K' hK => h' K' (fun a w hS hW => hK a w ⟨hS, hW⟩))
theorem wpAnyV_done {fuel : Nat} {listed : Array Bool} {a : Act} {w : World} (hr : Region.ready md ops listed = []) (h : Q .normal a w) : wpAnyV P md ops Q S s fuel listed a w := by
  cases fuel with
  | zero => exact ⟨hr, h⟩
  | succ n => exact ⟨fun _ => h, by rw [hr]; simp⟩
theorem wp_region_V {id : Nat} {a : Act} {w : World} (S : World → Prop) (s n : Nat) (hn : ops.size = n) (hm : P.follows .mixedOrders = true) (h : wpAnyV P .any ops Q S s n (Array.replicate n false) a w.drew) : (Code.region id ops true).wp P Q a w := by
  subst hn
  exact wp_region_any hm (wpAny_of_V _ _ _ _ h)
end
end Go.Proofs.Ytemejkadankbhaa

namespace Go.Proofs.Ytemejkadankbhaa
set_option maxRecDepth 100000
set_option maxHeartbeats 1000000
open Go.RowKit
set_option linter.unusedVariables false
def lows (v : Int) : Nat → List Int
  | 0 => []
  | k + 1 => (v / 256 ^ k % 256) :: lows v k
theorem lows_length (v : Int) (k : Nat) : (lows v k).length = k := by
  induction k with
  | zero => rfl
  | succ k ih => simp [lows, ih]
def numB (v n : Int) : List Int := if n < 1 ∨ 8 < n ∨ v < 0 ∨ v / 256 ^ n.toNat ≠ 0 then [] else lows v n.toNat
theorem pow_step (v : Int) (k : Nat) : v / 256 ^ k / 256 = v / 256 ^ (k + 1) := by
  rw [Int.ediv_ediv_of_nonneg (Int.le_of_lt (Int.pow_pos (by decide))), Int.pow_succ]
theorem lows_step (v : Int) (n k : Nat) (h : k < n) : (List.replicate (n - k) 0 ++ lows v k).set (n - k - 1) (v / 256 ^ k % 256) = List.replicate (n - (k + 1)) 0 ++ lows v (k + 1) := by
  have e : n - k = (n - (k + 1)) + 1 := by omega
  rw [e, List.replicate_succ', List.append_assoc, Nat.add_sub_cancel, List.set_append_right (h := by simp)]
  simp [lows]
theorem made_length (v : Int) (n k : Nat) (h : k ≤ n) : (List.replicate (n - k) 0 ++ lows v k).length = n := by simp [lows_length]; omega
theorem Own.empty (w : World) (e : TypeId) : Own 0 e .u8 (w.alloc (Obj.cells #[] e)) (.slice (some ⟨w.heap.size, 0, none⟩) 0 0) [] :=
  ⟨by simp [vals], .inr ⟨w.heap.size, 0, #[], rfl, Nat.zero_le _, by unfold World.alloc; exact Array.getElem?_push_size, Nat.le_refl _, Nat.zero_le _, by simp [vals]⟩⟩
theorem specPut_yes (v n : Int) (w : World) (hi0 : IsI v) (h1 : 1 ≤ n) (h2 : n ≤ 8) (h3 : 0 ≤ v) :
    Calls Try.prog 35 #[.int .i64 v, .int .i64 n] w fun e w' => ∃ a c, e = .returned (.slice a (numB v n).length c) ∧ (∀ b, (Value.slice a (numB v n).length c).ownBlock = some b → w.heap.size ≤ b) ∧
      Own 0 5 .u8 w' (.slice a (numB v n).length c) (numB v n) ∧ Same w w' := by
  obtain ⟨n, rfl⟩ : ∃ m : Nat, n = m := ⟨n.toNat, by omega⟩
  obtain ⟨i0, hi, hz0, hz1, hz2⟩ := info_parts Try.infoByte'
  obtain ⟨hv1, hv2⟩ := hi0
  have h1' : ¬ (n : Int) < 1 := by omega
  have h2' : ¬ (8 : Int) < n := by omega
  have h3' : ¬ v < 0 := by omega
  go_enter Try.func35, Try.ntmps35
  go_wp2_with (at_make; refine wpList_make_full _ rfl (.tmp 18) (.tmp 18) 22 rfl 0 5 i0 (.int .u8 0) 1 Try.underlying22 hi hz0 hz1 .i64 .i64 _ _ n rfl rfl (by simp) (by simp) (by rw [hz2]; omega) (by unfold maxLen; omega) (Nat.zero_le _) ?_; intro w1 hown1 hgrow1; have HO : Hid (Own 0 5 .u8 w1 (.slice (some ⟨w.heap.size, 0, none⟩) n n) (List.replicate n 0)) := own_made (by simpa using hown1); have HK : Hid (Same w w1) := Kept.of_grown hgrow1 (fun k e => by cases e); clear hown1 hgrow1)
  go_loopw [0, 6] (fun x i wr => ∃ (k : Nat), k ≤ n ∧ x = .int .i64 (v / 256 ^ k) ∧ i = .int .i64 ((n : Int) - k - 1) ∧ Hid (Own 0 5 .u8 wr (.slice (some ⟨w.heap.size, 0, none⟩) n n) (List.replicate (n - k) 0 ++ lows v k)) ∧ Hid (Same w wr)) (fun _ i _ => (intOf i + 1).toNat)
  case atStart => exact ⟨0, Nat.zero_le _, by simp, by simp, by simpa [lows] using HO, HK⟩
  case round =>
    obtain ⟨k, hk, rfl, rfl, HOr, HKr⟩ := hrel
    by_cases hlt : k < n
    · obtain ⟨j, rfl⟩ : ∃ j : Nat, n = k + 1 + j := ⟨n - k - 1, by omega⟩
      have ej : ((k + 1 + j : Nat) : Int) - k - 1 = j := by omega
      have hlen := made_length v (k + 1 + j) k hk
      have q2 := HOr.out.frozen hlen.symm j
      have q3 := HOr.out.cell hlen.symm j (by omega)
      have hx0 : 0 ≤ v / 256 ^ k := Int.ediv_nonneg h3 (Int.le_of_lt (Int.pow_pos (by decide)))
      have hx1 : v / 256 ^ k ≤ v := Int.ediv_le_self _ h3
      have hst := pow_step v k
      have HST : Hid (v / 256 ^ k / 256 = v / 256 ^ (k + 1)) := hst
      have hls := lows_step v (k + 1 + j) k hlt
      have HLS := (show Hid (_ = _) from hls)
      clear hls hst
      rw [ej]
      generalize hx : v / 256 ^ k = x at *
      clear hx
      go_wp2
      go_roundw
      case rel =>
        have h := HOr.out.stored hlen.symm j (x % 256)
        have e2 := HLS.out
        rw [show k + 1 + j - k - 1 = j from by omega] at e2
        rw [e2] at h
        exact ⟨k + 1, by omega, by rw [HST.out], by go_num, h, HKr.out.setCell (.inl (Nat.le_refl _)) _⟩
      case measure => simp [intOf]
    · obtain rfl : k = n := by omega
      have ej : ((k : Nat) : Int) - k - 1 = -1 := by omega
      have hx0 : 0 ≤ v / 256 ^ k := Int.ediv_nonneg h3 (Int.le_of_lt (Int.pow_pos (by decide)))
      have hx1 : v / 256 ^ k ≤ v := Int.ediv_le_self _ h3
      rw [ej]
      by_cases hz : v / 256 ^ k = 0
      · have hnum : numB v k = lows v k := by unfold numB; rw [if_neg (by simp only [Int.toNat_natCast]; omega)]; simp
        have HN : Hid (numB v k = lows v k) := hnum
        rw [hz]
        clear hz hnum hx0 hx1
        go_wp2
        go_ret
        rw [HN.out, lows_length]
        refine ⟨_, _, rfl, fun b hb => ?_, ?_, HKr.out⟩
        · simp [Value.ownBlock] at hb; omega
        · have h := HOr.out; rw [Nat.sub_self, List.replicate_zero, List.nil_append] at h; exact h
      · have hnum : numB v k = [] := by unfold numB; rw [if_pos (by simp only [Int.toNat_natCast]; omega)]
        have HN : Hid (numB v k = []) := hnum
        clear hnum
        generalize hx : v / 256 ^ k = x at *
        clear hx
        go_wp2
        go_ret
        rw [HN.out]
        refine ⟨some ⟨wr.heap.size, 0, none⟩, 0, rfl, fun b hb => ?_, Own.empty _ _, HKr.out.alloc _⟩
        have := HKr.out.size
        simp [Value.ownBlock] at hb; omega
theorem specPut_no (v n : Int) (w : World) (h : n < 1 ∨ 8 < n ∨ v < 0) :
    Calls Try.prog 35 #[.int .i64 v, .int .i64 n] w fun e w' => e = .returned (.slice (some ⟨w.heap.size, 0, none⟩) 0 0) ∧ w' = w.alloc (Obj.cells #[] 5) := by
  rcases h with h | h
  · go_enter Try.func35, Try.ntmps35
    go_wp2
    go_ret
    exact ⟨rfl, rfl⟩
  · by_cases h1 : n < 1
    · go_enter Try.func35, Try.ntmps35
      go_wp2
      go_ret
      exact ⟨rfl, rfl⟩
    · rcases h with h | h
      · go_enter Try.func35, Try.ntmps35
        go_wp2
        go_ret
        exact ⟨rfl, rfl⟩
      · by_cases h2 : 8 < n
        · go_enter Try.func35, Try.ntmps35
          go_wp2
          go_ret
          exact ⟨rfl, rfl⟩
        · go_enter Try.func35, Try.ntmps35
          go_wp2
          go_ret
          exact ⟨rfl, rfl⟩
theorem specPut_any (v n : Int) (w : World) (hi0 : IsI v) (hi1 : IsI n) :
    Calls Try.prog 35 #[.int .i64 v, .int .i64 n] w fun e w' => ∃ a c, e = .returned (.slice a (numB v n).length c) ∧ (∀ b, (Value.slice a (numB v n).length c).ownBlock = some b → w.heap.size ≤ b) ∧
      Own 0 5 .u8 w' (.slice a (numB v n).length c) (numB v n) ∧ Same w w' := by
  by_cases h : n < 1 ∨ 8 < n ∨ v < 0
  · refine (specPut_no v n w h).mono ?_
    rintro e w' ⟨rfl, rfl⟩
    have e : numB v n = [] := by unfold numB; rw [if_pos (by omega)]
    rw [e]
    exact ⟨some ⟨w.heap.size, 0, none⟩, 0, rfl, fun b hb => by simp [Value.ownBlock] at hb; omega, Own.empty _ _, (Kept.refl _ _).alloc _⟩
  · exact specPut_yes v n w hi0 (by omega) (by omega) (by omega)
theorem writeNumber_any (g o n c : Nat) (t : TypeId) (xs : List Value) (v : Int) (w : World) (hb : Blk w g t xs) (ho : o + n ≤ xs.length) (h0 : 0 ≤ v) (hi : v ≤ 9223372036854775807) (hn : n ≤ 1099511627776) :
    Calls Try.prog 60 #[.slice (some ⟨g, o, none⟩) n c, .int .i64 v] w fun e w' => e = .returned (.tuple #[]) ∧ Blk w' g t (lay xs o (vals .u8 (lows v n))) ∧ Kept (fun b => b = g) w w' := by
  have HB := (show Hid (Blk w g t xs) from hb)
  clear hb
  go_enter Try.func60, Try.ntmps60
  go_wp2
  go_loopw [1, 4] (fun x i wr => ∃ k : Nat, k ≤ n ∧ x = .int .i64 (v / 256 ^ k) ∧ i = .int .i64 ((n : Int) - k - 1) ∧ Hid (Blk wr g t (lay xs (o + (n - k)) (vals .u8 (lows v k)))) ∧ Hid (Kept (fun b => b = g) w wr)) (fun _ i _ => (intOf i + 1).toNat)
  case atStart => exact ⟨0, Nat.zero_le _, by simp, by simp, by simpa [lows, vals, lay_nil] using HB, Kept.refl _ _⟩
  case round =>
    obtain ⟨k, hk, rfl, rfl, HBr, HKr⟩ := hrel
    by_cases hlt : k < n
    · obtain ⟨j, rfl⟩ : ∃ j : Nat, n = k + 1 + j := ⟨n - k - 1, by omega⟩
      have ej : ((k + 1 + j : Nat) : Int) - k - 1 = j := by omega
      have el : (lay xs (o + (k + 1 + j - k)) (vals .u8 (lows v k))).length = xs.length := lay_length _ _ _ (by rw [vals_length, lows_length]; omega)
      have q2 := HBr.out.frozen (o + j)
      have q3 := HBr.out.cell (o + j)
      rw [List.getElem?_eq_getElem (by rw [el]; omega)] at q3
      have hx0 : 0 ≤ v / 256 ^ k := Int.ediv_nonneg h0 (Int.le_of_lt (Int.pow_pos (by decide)))
      have hx1 : v / 256 ^ k ≤ v := Int.ediv_le_self _ h0
      have HST : Hid (v / 256 ^ k / 256 = v / 256 ^ (k + 1)) := pow_step v k
      have HLS : Hid ((lay xs (o + j + 1) (vals .u8 (lows v k))).set (o + j) (.int .u8 (v / 256 ^ k % 256)) = lay xs (o + j) (vals .u8 (lows v (k + 1)))) := lay_set xs (o + j) _ (vals .u8 (lows v k)) (by rw [vals_length, lows_length]; omega)
      rw [ej]
      obtain ⟨z, hz⟩ : ∃ z, (lay xs (o + (k + 1 + j - k)) (vals .u8 (lows v k)))[o + j]'(by rw [el]; omega) = z := ⟨_, rfl⟩
      rw [hz] at q3
      clear hz el
      generalize hx : v / 256 ^ k = x at *
      clear hx
      go_wp2
      go_roundw
      case rel =>
        have h := HBr.out.stored (o + j) (.int .u8 (x % 256))
        rw [show o + (k + 1 + j - k) = o + j + 1 from by omega, HLS.out] at h
        refine ⟨k + 1, by omega, by rw [← HST.out], by go_num, ?_, Kept.setCell (R := fun b => b = g) HKr.out (.inr rfl) _⟩
        rw [show o + (k + 1 + j - (k + 1)) = o + j from by omega]
        exact h
      case measure => simp [intOf]
    · obtain rfl : k = n := by omega
      have ej : ((k : Nat) : Int) - k - 1 = -1 := by omega
      rw [ej]
      generalize hx : v / 256 ^ k = x at *
      go_wp2
      go_end0
      have h := HBr.out
      rw [Nat.sub_self] at h
      exact ⟨rfl, h, HKr.out⟩
end Go.Proofs.Ytemejkadankbhaa

namespace Go.Proofs.Ytemejkadankbhaa
set_option maxRecDepth 100000
set_option maxHeartbeats 1000000
open Go.RowKit
set_option linter.unusedVariables false
def num (bs : List Int) : Int := bs.foldl (fun v b => v * 256 + b) 0
theorem num_snoc (bs : List Int) (b : Int) : num (bs ++ [b]) = num bs * 256 + b := by simp [num, List.foldl_append]
theorem num_take (bs : List Int) (k : Nat) (h : k < bs.length) : num (bs.take (k + 1)) = num (bs.take k) * 256 + bs.getD k 0 := by
  rw [List.take_succ_eq_append_getElem h, num_snoc]
  simp [h]
theorem num_bound (bs : List Int) (hb : IsB bs) (k : Nat) (h : k ≤ bs.length) : 0 ≤ num (bs.take k) ∧ num (bs.take k) < 256 ^ k := by
  induction k with
  | zero => simp [num]
  | succ k ih =>
    have h1 := ih (by omega)
    have h2 := hb.at k (by omega)
    rw [num_take bs k (by omega), Int.pow_succ]
    omega
theorem num_cons (x : Int) (bs : List Int) : num (x :: bs) = x * 256 ^ bs.length + num bs := by
  have key : ∀ (bs : List Int) (v : Int), bs.foldl (fun v b => v * 256 + b) v = v * 256 ^ bs.length + num bs := fun bs => by
    induction bs with
    | nil => intro v; simp [num]
    | cons y bs ih =>
      intro v
      simp only [List.foldl_cons, num, List.length_cons]
      rw [ih, ih, Int.pow_succ, Int.add_mul, Int.mul_assoc, Int.mul_comm 256, Int.zero_mul, Int.zero_add]
      omega
  have := key bs x
  simpa [num] using this
theorem num_le (bs : List Int) (hb : IsB bs) (k : Nat) (h : k ≤ bs.length) {m : Int} (hm : num bs ≤ m) : num (bs.take k) ≤ m := by
  obtain ⟨d, hd⟩ : ∃ d, bs.length - k = d := ⟨_, rfl⟩
  induction d generalizing k with
  | zero =>
    obtain rfl : k = bs.length := by omega
    rw [List.take_length]
    exact hm
  | succ d ih =>
    have h1 := ih (k + 1) (by omega) (by omega)
    rw [num_take bs k (by omega)] at h1
    have h2 := hb.at k (by omega)
    have h3 := num_bound bs hb k h
    omega
theorem num_lt8 (bs : List Int) (hb : IsB bs) (k : Nat) (h : k ≤ bs.length) (h8 : k ≤ 8) : num (bs.take k) < 18446744073709551616 := by
  have h1 := (num_bound bs hb k h).2
  have h2 : (256 : Int) ^ k ≤ 256 ^ 8 := by
    have : k = 0 ∨ k = 1 ∨ k = 2 ∨ k = 3 ∨ k = 4 ∨ k = 5 ∨ k = 6 ∨ k = 7 ∨ k = 8 := by omega
    rcases this with rfl | rfl | rfl | rfl | rfl | rfl | rfl | rfl | rfl <;> decide
  omega
def getN (bs : List Int) : Int := if bs.length < 1 ∨ 8 < bs.length ∨ 9223372036854775807 < num bs then -1 else num bs
theorem getN_le (bs : List Int) : getN bs ≤ 9223372036854775807 := by
  unfold getN
  split <;> omega
theorem getN_eight (bs : List Int) (hb : IsB bs) (h : bs.length = 8) : (9223372036854775807 < num bs) ↔ 127 < bs.getD 0 0 := by
  match bs, h with
  | x :: bs, h =>
    have hl : bs.length = 7 := by simpa using h
    have h1 := hb x (by simp)
    have h2 := num_bound bs (fun y hy => hb y (by simp [hy])) 7 (by omega)
    rw [← hl, List.take_length, hl] at h2
    rw [num_cons, hl]
    simp only [List.getD_cons_zero]
    omega
theorem getN_few (bs : List Int) (hb : IsB bs) (h : bs.length ≤ 7) : num bs ≤ 9223372036854775807 := by
  have h1 := num_bound bs hb bs.length (Nat.le_refl _)
  rw [List.take_length] at h1
  generalize bs.length = n at h h1
  have h2 : (256 : Int) ^ n ≤ 256 ^ 7 := by
    have : n = 0 ∨ n = 1 ∨ n = 2 ∨ n = 3 ∨ n = 4 ∨ n = 5 ∨ n = 6 ∨ n = 7 := by omega
    rcases this with rfl | rfl | rfl | rfl | rfl | rfl | rfl | rfl <;> decide
  omega
theorem specGet_any (v : Value) (bs : List Int) (w : World) (hb : IsB bs) (hn : bs.length ≤ 1099511627776) (hv : Rd .u8 w v bs) :
    Calls Try.prog 22 #[v] w fun e w' => e = .returned (.int .i64 (getN bs)) ∧ Same w w' := by
  by_cases h : bs.length < 1 ∨ 8 < bs.length
  · obtain ⟨a, c, rfl⟩ := hv.form
    have e : getN bs = -1 := by unfold getN; rw [if_pos (by omega)]
    rw [e]
    clear hv e hb
    rcases h with h | h
    · go_enter Try.func22, Try.ntmps22
      go_wp2
      go_ret
      exact ⟨rfl, Kept.refl _ _⟩
    · go_enter Try.func22, Try.ntmps22
      go_wp2
      go_ret
      exact ⟨rfl, Kept.refl _ _⟩
  · rcases hv.2 with ⟨rfl, _⟩ | ⟨b, off, c, rfl, _, hc⟩
    · simp at h
    have hc0 := hc 0 (by omega)
    rw [Nat.add_zero] at hc0
    have HC : Hid (∀ i, i < bs.length → w.cell? ⟨b, off + i, none⟩ = some (.int .u8 (bs.getD i 0))) := hc
    have HB : Hid (IsB bs) := hb
    clear hc hv hb hn
    generalize hl : bs.length = len at h ⊢
    have HL : Hid (bs.length = len) := hl
    have h1 : 1 ≤ len := by omega
    have h2 : len ≤ 8 := by omega
    clear hl h
    have hx := HB.out.at 0 (by have := HL.out; omega)
    obtain ⟨x, hx0⟩ : ∃ x, bs.getD 0 0 = x := ⟨_, rfl⟩
    have HX : Hid (bs.getD 0 0 = x) := hx0
    rw [hx0] at hc0 hx
    clear hx0
    obtain ⟨G, hG⟩ : ∃ G, getN bs = G := ⟨_, rfl⟩
    have HGN : Hid (getN bs = G) := hG
    rw [hG]
    clear hG
    by_cases h8 : len = 8
    · by_cases h127 : 127 < x
      · have e : getN bs = -1 := by unfold getN; rw [if_pos]; right; right; exact (getN_eight bs HB.out (by rw [HL.out]; exact h8)).2 (by rw [HX.out]; exact h127)
        rw [HGN.out] at e
        subst e
        subst h8
        go_enter Try.func22, Try.ntmps22
        go_wp2
        go_ret
        exact ⟨rfl, Kept.refl _ _⟩
      · have HOK : Hid (len ≤ 7 ∨ len = 8 ∧ x ≤ 127) := Or.inr ⟨h8, by omega⟩
        subst h8
        go_enter Try.func22, Try.ntmps22
        go_wp2
        go_loopw [3, 4] (fun y i wr => ∃ (k : Nat), k ≤ 8 ∧ y = .int .i64 (num (bs.take k)) ∧ i = .int .i64 k ∧ wr = w) (fun _ i _ => 8 - (intOf i).toNat)
        case atStart => exact ⟨0, Nat.zero_le _, by simp [num], by simp, rfl⟩
        case round =>
          obtain ⟨k, hk, rfl, rfl, rfl⟩ := hrel
          have hg : getN bs = num bs := by
            unfold getN
            rw [if_neg]
            have hl := HL.out
            rcases HOK.out with h | h
            · have := getN_few bs HB.out (by omega)
              omega
            · have := getN_eight bs HB.out (by omega)
              rw [HX.out] at this
              omega
          have HG : Hid (getN bs = num bs) := hg
          clear hg
          by_cases hlt : k < 8
          · have hlp : k < bs.length := by rw [HL.out]; exact hlt
            have q1 := HC.out k hlp
            have hb1 := num_bound bs HB.out k (by omega)
            have hb2 := HB.out.at k hlp
            have hb3 : num (bs.take k) * 256 + bs.getD k 0 ≤ 9223372036854775807 := by
              have e := num_take bs k hlp
              rw [← e]
              exact num_le bs HB.out (k + 1) (by omega) (by have := HG.out; have h9 := getN_le bs; omega)
            have HS : Hid (num (bs.take (k + 1)) = num (bs.take k) * 256 + bs.getD k 0) := num_take bs k hlp
            generalize num (bs.take k) = y at *
            generalize bs.getD k 0 = z at *
            obtain ⟨hy0, _⟩ := hb1
            clear hc0
            go_wp2
            go_roundw
            case rel => exact ⟨k + 1, by omega, by rw [HS.out], by go_num, by first | rfl | trivial⟩
            case measure => simp [intOf]; omega
          · have hke : k = 8 := by omega
            have he : num (bs.take k) = G := by rw [← HGN.out, HG.out, hke, ← HL.out, List.take_length]
            rw [he]
            clear hc0
            go_wp2
            go_ret
            exact ⟨rfl, Kept.refl _ _⟩
    · have HOK : Hid (len ≤ 7 ∨ len = 8 ∧ x ≤ 127) := Or.inl (by omega)
      go_enter Try.func22, Try.ntmps22
      go_wp2
      go_loopw [3, 4] (fun y i wr => ∃ (k : Nat), k ≤ len ∧ y = .int .i64 (num (bs.take k)) ∧ i = .int .i64 k ∧ wr = w) (fun _ i _ => len - (intOf i).toNat)
      case atStart => exact ⟨0, Nat.zero_le _, by simp [num], by simp, rfl⟩
      case round =>
        obtain ⟨k, hk, rfl, rfl, rfl⟩ := hrel
        have hg : getN bs = num bs := by
          unfold getN
          rw [if_neg]
          have hl := HL.out
          rcases HOK.out with h | h
          · have := getN_few bs HB.out (by omega)
            omega
          · have := getN_eight bs HB.out (by omega)
            rw [HX.out] at this
            omega
        have HG : Hid (getN bs = num bs) := hg
        clear hg
        by_cases hlt : k < len
        · have hlp : k < bs.length := by rw [HL.out]; exact hlt
          have q1 := HC.out k hlp
          have hb1 := num_bound bs HB.out k (by omega)
          have hb2 := HB.out.at k hlp
          have hb3 : num (bs.take k) * 256 + bs.getD k 0 ≤ 9223372036854775807 := by
            have e := num_take bs k hlp
            rw [← e]
            exact num_le bs HB.out (k + 1) (by omega) (by have := HG.out; have h9 := getN_le bs; omega)
          have HS : Hid (num (bs.take (k + 1)) = num (bs.take k) * 256 + bs.getD k 0) := num_take bs k hlp
          generalize num (bs.take k) = y at *
          generalize bs.getD k 0 = z at *
          obtain ⟨hy0, _⟩ := hb1
          clear hc0
          go_wp2
          go_roundw
          case rel => exact ⟨k + 1, by omega, by rw [HS.out], by go_num, by first | rfl | trivial⟩
          case measure => simp [intOf]; omega
        · have hke : k = len := by omega
          have he : num (bs.take k) = G := by rw [← HGN.out, HG.out, hke, ← HL.out, List.take_length]
          rw [he]
          clear hc0
          go_wp2
          go_ret
          exact ⟨rfl, Kept.refl _ _⟩
theorem implGet_any (v : Value) (bs : List Int) (w : World) (hb : IsB bs) (hn : bs.length ≤ 1099511627776) (hv : Rd .u8 w v bs) :
    Calls Try.prog 68 #[v] w fun e w' => e = .returned (.int .i64 (getN bs)) ∧ Same w w' := by
  by_cases h : bs.length < 1 ∨ 8 < bs.length
  · obtain ⟨a, c, rfl⟩ := hv.form
    have e : getN bs = -1 := by unfold getN; rw [if_pos (by omega)]
    rw [e]
    clear hv e hb
    rcases h with h | h
    · go_enter Try.func68, Try.ntmps68
      go_wp2
      go_ret
      exact ⟨rfl, Kept.refl _ _⟩
    · go_enter Try.func68, Try.ntmps68
      go_wp2
      go_ret
      exact ⟨rfl, Kept.refl _ _⟩
  · rcases hv.2 with ⟨rfl, _⟩ | ⟨b, off, c, rfl, _, hc⟩
    · simp at h
    have HC : Hid (∀ i, i < bs.length → w.cell? ⟨b, off + i, none⟩ = some (.int .u8 (bs.getD i 0))) := hc
    have HB : Hid (IsB bs) := hb
    clear hc hv hb hn
    generalize hl : bs.length = len at h ⊢
    have HL : Hid (bs.length = len) := hl
    have h1 : 1 ≤ len := by omega
    have h2 : len ≤ 8 := by omega
    clear hl h
    obtain ⟨G, hG⟩ : ∃ G, getN bs = G := ⟨_, rfl⟩
    have HGN : Hid (getN bs = G) := hG
    rw [hG]
    clear hG
    go_enter Try.func68, Try.ntmps68
    go_wp2
    go_loopw [3, 5, 16] (fun y _ i wr => ∃ (k : Nat), k ≤ len ∧ y = .int .u64 (num (bs.take k)) ∧ i = .int .i64 k ∧ wr = w) (fun _ _ i _ => len - (intOf i).toNat)
    case atStart => exact ⟨0, Nat.zero_le _, by simp [num], by simp, rfl⟩
    case round =>
      obtain ⟨k, hk, rfl, rfl, rfl⟩ := hrel
      by_cases hlt : k < len
      · have hlp : k < bs.length := by rw [HL.out]; exact hlt
        have q1 := HC.out k hlp
        have hb1 := num_bound bs HB.out k (by omega)
        have hb2 := HB.out.at k hlp
        have hb3 : num (bs.take k) * 256 + bs.getD k 0 < 18446744073709551616 := by
          have e := num_take bs k hlp
          rw [← e]
          exact num_lt8 bs HB.out (k + 1) (by omega) (by omega)
        have HS : Hid (num (bs.take (k + 1)) = num (bs.take k) * 256 + bs.getD k 0) := num_take bs k hlp
        generalize num (bs.take k) = y at *
        generalize bs.getD k 0 = z at *
        obtain ⟨hy0, _⟩ := hb1
        have hor : bits .or .u64 (y * 256) z = y * 256 + z := bits_join .u64 64 (by decide) (fun n h0 h1 => by rw [IntKind.wrap_u64]; omega) 8 _ _ (by omega) (by omega) (by omega) (by omega) (by omega) (by omega)
        go_wp2
        go_roundw
        case rel => exact ⟨k + 1, by omega, by rw [HS.out], by go_num, by first | rfl | trivial⟩
        case measure => simp [intOf]; omega
      · have hke : k = len := by omega
        have he : num (bs.take k) = num bs := by rw [hke, ← HL.out, List.take_length]
        rw [he]
        have hb1 := num_lt8 bs HB.out len (by have := HL.out; omega) (by omega)
        have hb0 := num_bound bs HB.out len (by have := HL.out; omega)
        rw [← hke, he] at hb1 hb0
        have HG : Hid (getN bs = if 9223372036854775807 < num bs then -1 else num bs) := by
          have hl := HL.out
          have h0 : ¬ bs.length < 1 := by omega
          have h8 : ¬ 8 < bs.length := by omega
          simp [getN, h0, h8, Hid]
        clear he
        generalize num bs = y at *
        by_cases hm : 9223372036854775807 < y
        · have e := HG.out
          rw [if_pos hm, HGN.out] at e
          go_wp2
          go_ret
          rw [e]
          exact ⟨rfl, Kept.refl _ _⟩
        · have e := HG.out
          rw [if_neg hm, HGN.out] at e
          obtain ⟨hy0, _⟩ := hb0
          go_wp2
          go_ret
          exact ⟨rfl, Kept.refl _ _⟩
end Go.Proofs.Ytemejkadankbhaa
