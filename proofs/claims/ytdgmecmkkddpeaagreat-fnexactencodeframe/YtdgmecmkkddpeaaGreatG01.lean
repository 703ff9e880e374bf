import Derived.Test.YtdgmecmkkddpeaaGreatG00
import Derived.Deep.DeepCutAuto
import Derived.Deep.RegionHeld3
namespace Go.Proofs.YtdgmecmkkddpeaaGreat
set_option maxRecDepth 100000
set_option maxHeartbeats 16000000
set_option linter.unusedVariables false
set_option linter.unusedSimpArgs false
open Go.RowKit
structure StPageRecord where
 used : Bool
 data : BS
def StPageRecord.val (x : StPageRecord) : Value := .agg #[.bool x.used, x.data.v]
def StPageRecord.rows (x : StPageRecord) : List Row := x.data.rows
def StPageRecord.dat (x : StPageRecord) : Bool × List Int := (x.used, x.data.bs)
def StPageRecord.size (x : StPageRecord) : Int := (x.data.bs.length : Int)
theorem StPageRecord.size_le (x : StPageRecord) : 0 ≤ x.size := by
 unfold StPageRecord.size
 omega
def StPageRecord.marked (x : StPageRecord) (k : Int) : StPageRecord := ⟨x.used, x.data.marked (k)⟩
theorem StPageRecord.foot_marked (x : StPageRecord) (k : Int) (b : Nat) : FootL (x.marked k).rows b ↔ FootL x.rows b := by
 exact BS.foot_marked _ _ b
def StPageRecord.rd (w : World) (x : StPageRecord) : Prop := Rd .u8 w x.data.v x.data.bs
theorem StPageRecord.rd.kept {R : Nat → Prop} {w w' : World} {x : StPageRecord} (h : StPageRecord.rd w x) (hk : Kept R w w') (hr : ∀ b, FootL x.rows b → ¬ R b) : StPageRecord.rd w' x :=
 Rd.kept (h) hk (fun b hb => hr b (((footL_ints _ _ _ _ _).2 hb)))
theorem StPageRecord.rd.same {w w' : World} {x : StPageRecord} (h : StPageRecord.rd w x) (hk : Same w w') : StPageRecord.rd w' x := h.kept hk (fun _ _ => id)
theorem StPageRecord.own_rd {w : World} {x : StPageRecord} (h : OwnL w x.rows) : StPageRecord.rd w x :=
 (OwnL.of_one h).rd
def StPageRecord.szs (x : StPageRecord) : Int := (x.data.bs.length : Int)
theorem StPageRecord.szs_le (x : StPageRecord) : 0 ≤ x.szs := by
 unfold StPageRecord.szs
 omega
theorem eqPageRecord_own (x y : StPageRecord) (w : World) (hn : x.size ≤ 1125899906842624) (hd : x.dat = y.dat) (ha : OwnL w x.rows) (hb : OwnL w y.rows) :
  Calls Tryz.prog 31 #[x.val, y.val] w fun e w' => e = .returned (.bool true) ∧ Same w w' := by
 obtain ⟨xused, ⟨xdata_e, xdata_a, xdata_c, xdata_b⟩⟩ := x
 obtain ⟨yused, ⟨ydata_e, ydata_a, ydata_c, ydata_b⟩⟩ := y
 simp only [StPageRecord.dat, Prod.mk.injEq] at hd
 obtain ⟨rfl, rfl⟩ := hd
 simp only [StPageRecord.size] at hn
 have Hx0 := (show Hid (OwnL w [ints xdata_e .u8 (.slice xdata_a xdata_b.length xdata_c) xdata_b]) from ha)
 have Hy0 := (show Hid (OwnL w [ints ydata_e .u8 (.slice ydata_a xdata_b.length ydata_c) xdata_b]) from hb)
 clear ha hb
 dsimp only [StPageRecord.val, BS.v]
 go_enter Tryz.func31, Tryz.ntmps31
 have hk0 : Same w ((w.alloc (.cells #[.bool xused, .slice xdata_a xdata_b.length xdata_c] 31)).alloc (.cells #[.bool xused, .slice ydata_a xdata_b.length ydata_c] 31)) := ((Kept.refl _ _).alloc _).alloc _
 have HK0 := (show Hid (Same w _) from hk0)
 obtain ⟨_, HBx0, HBy0⟩ := new2 w [.bool xused, .slice xdata_a xdata_b.length xdata_c] 31 [.bool xused, .slice ydata_a xdata_b.length ydata_c] 31
 clear hk0
 go_wp2_with fail
 refine (eqByteS_own 0 _ _ xdata_b _ (by omega) (Hx0.out.of_one.same HK0.out) (Hy0.out.of_one.same HK0.out)).mono ?_
 rintro e w1 ⟨rfl, nn, hww⟩
 have hk : Same ((w.alloc (.cells #[.bool xused, .slice xdata_a xdata_b.length xdata_c] 31)).alloc (.cells #[.bool xused, .slice ydata_a xdata_b.length ydata_c] 31)) w1 := by rw [hww]; exact (Kept.refl _ _).drewN _
 clear hww
 have HK1 := hid (HK0.out.trans hk)
 have HBx1 := hid (HBx0.out.same hk)
 have HBy1 := hid (HBy0.out.same hk)
 clear hk HK0 HBx0 HBy0
 go_wp2
 go_ret
 exact ⟨rfl, HK1.out⟩
theorem markPageRecord_own (x : StPageRecord) (k0 : Int) (w : World) (h0 : 0 ≤ k0) (h1 : k0 + x.size ≤ 1125899906842624) (ha : OwnL w x.rows) :
  Calls Tryz.prog 34 #[x.val, .int .i64 k0] w fun e w' => e = .returned (.int .i64 (k0 + x.size)) ∧ OwnL w' (x.marked k0).rows ∧ Kept (FootL x.rows) w w' := by
 have hlt := ha.lt
 have HLT := (show Hid (∀ b, FootL x.rows b → b < w.heap.size) from hlt)
 have HA := (show Hid (OwnL w x.rows) from ha)
 clear hlt
 obtain ⟨xused, ⟨xdata_e, xdata_a, xdata_c, xdata_b⟩⟩ := x
 have HO0_0 := (show Hid (OwnL w [ints xdata_e .u8 (.slice xdata_a xdata_b.length xdata_c) xdata_b]) from ha)
 clear ha
 simp only [StPageRecord.size] at h1
 dsimp only [StPageRecord.val, BS.v]
 go_enter Tryz.func34, Tryz.ntmps34
 have HK_0 := (show Hid (Kept (FootL (StPageRecord.rows ⟨xused, ⟨xdata_e, xdata_a, xdata_c, xdata_b⟩⟩)) w (w.alloc (.cells #[.bool xused, .slice xdata_a xdata_b.length xdata_c] 31))) from (Kept.refl _ _).alloc _)
 have HB_0 := hid (Blk.newL w [.bool xused, .slice xdata_a xdata_b.length xdata_c] 31)
 go_wp2_with fail
 refine (markByteS_own 0 _ xdata_b (k0) _ (by omega) (by omega) (by omega) (OwnL.of_one (HO0_0.out.same ((Kept.refl _ _).alloc _)))).mono ?_
 rintro e w1 ⟨rfl, ho, hk⟩
 have ho := (show OwnL w1 (BS.rows (BS.marked ⟨xdata_e, xdata_a, xdata_c, xdata_b⟩ (k0))) from BS.own_marked.2 (OwnL.one ho))
 have hk : Kept (FootL [ints xdata_e .u8 (.slice xdata_a xdata_b.length xdata_c) xdata_b]) _ w1 := hk.mono (fun b _ e => (footL_ints _ _ _ _ _).2 e)
 have HB_1 := (show Hid (Blk w1 w.heap.size 31 [.bool xused, .slice xdata_a xdata_b.length xdata_c]) from HB_0.out.kept hk (fun e => by have := HLT.out _ (e); omega))
 have HK_1 := (show Hid (Kept (FootL (StPageRecord.rows ⟨xused, ⟨xdata_e, xdata_a, xdata_c, xdata_b⟩⟩)) w w1) from HK_0.out.next hk (fun b _ e => e))
 have HO0_1 := (show Hid (OwnL w1 (BS.rows (BS.marked ⟨xdata_e, xdata_a, xdata_c, xdata_b⟩ (k0)))) from ho)
 clear ho hk HB_0 HK_0 HO0_0
 go_wp2
 go_ret
 refine ⟨rfl, ?_, HK_1.out⟩
 exact HO0_1.out
theorem szPageRecord_any (x : StPageRecord) (left : Int) (w : World) (h0 : 0 ≤ left) (h1 : left ≤ 1048576) (ha : StPageRecord.rd w x) :
  Calls Tryz.prog 13 #[x.val, .int .i64 left] w fun e w' => ∃ r : Int, e = .returned (.int .i64 r) ∧ (r = -1 ∨ (r = left - x.szs ∧ 0 ≤ r)) ∧ Same w w' := by
 obtain ⟨xused, ⟨xdata_e, xdata_a, xdata_c, xdata_b⟩⟩ := x
 have hm0 : xdata_b.length ≤ maxLen := (ha).1
 clear ha
 dsimp only [StPageRecord.val, BS.v]
 go_enter Tryz.func13, Tryz.ntmps13
 obtain ⟨HK0, HB0⟩ := new1 w [.bool xused, .slice xdata_a xdata_b.length xdata_c] 24
 go_wp2_with fail
 refine (szByteS_any _ _ _ left _ (by omega) (by omega) hm0).mono ?_
 rintro e w1 ⟨r1, rfl, hr, hww⟩
 have hk : Same (w.alloc (.cells #[.bool xused, .slice xdata_a xdata_b.length xdata_c] 24)) w1 := by rw [hww]; exact Kept.refl _ _
 clear hww
 replace hr : r1 = -1 ∨ (r1 = left - xdata_b.length ∧ 0 ≤ r1) := by omega
 have HK1 := hid (HK0.out.trans hk)
 have HB1 := hid (HB0.out.same hk)
 clear hk
 rcases hr with rfl | ⟨hr, hr1⟩
 ·go_wp2
  go_ret
  exact ⟨_, rfl, .inl rfl, HK1.out⟩
 have hle1 : r1 ≤ 1048576 := by omega
 have HR1 := (show Hid (_ = _) from hr)
 clear hr
 go_wp2
 go_ret
 exact ⟨_, rfl, .inr ⟨by have e1 := HR1.out; simp only [StPageRecord.szs]; omega, hr1⟩, HK1.out⟩
theorem toPageRecord_any (x : StPageRecord) (w : World) (hn : x.szs ≤ 1073741824) (ha : StPageRecord.rd w x) :
  Calls Tryz.prog 24 #[x.val] w fun e w' => ∃ y : StPageRecord, e = .returned y.val ∧ y.dat = x.dat ∧ y.szs = x.szs ∧ (∀ b, FootL y.rows b → w.heap.size ≤ b) ∧ OwnL w' y.rows ∧ Same w w' := by
 obtain ⟨xused, ⟨xdata_e, xdata_a, xdata_c, xdata_b⟩⟩ := x
 have HV0 := (show Hid (Rd .u8 w (.slice xdata_a xdata_b.length xdata_c) xdata_b) from ha)
 clear ha
 simp only [StPageRecord.szs] at hn
 dsimp only [StPageRecord.val, BS.v]
 go_enter Tryz.func24, Tryz.ntmps24
 have hk0 : Same w (((w.alloc (.cells #[.bool xused, .slice xdata_a xdata_b.length xdata_c] 24)).alloc (.cells #[.bool false, .slice none 0 0] 31)).alloc (.cells #[.bool xused, .slice none 0 0] 31)) := (((Kept.refl _ _).alloc _).alloc _).alloc _
 have b0 : Blk (((w.alloc (.cells #[.bool xused, .slice xdata_a xdata_b.length xdata_c] 24)).alloc (.cells #[.bool false, .slice none 0 0] 31)).alloc (.cells #[.bool xused, .slice none 0 0] 31)) (w.heap.size) 24 [.bool xused, .slice xdata_a xdata_b.length xdata_c] := ((Blk.new w #[.bool xused, .slice xdata_a xdata_b.length xdata_c] 24).alloc _).alloc _
 have b1 : Blk (((w.alloc (.cells #[.bool xused, .slice xdata_a xdata_b.length xdata_c] 24)).alloc (.cells #[.bool false, .slice none 0 0] 31)).alloc (.cells #[.bool xused, .slice none 0 0] 31)) (w.heap.size + 1) 31 [.bool false, .slice none 0 0] := by have h := (Blk.new (w.alloc (.cells #[.bool xused, .slice xdata_a xdata_b.length xdata_c] 24)) #[.bool false, .slice none 0 0] 31).alloc (.cells #[.bool xused, .slice none 0 0] 31); rwa [World.size_alloc] at h
 have b2 : Blk (((w.alloc (.cells #[.bool xused, .slice xdata_a xdata_b.length xdata_c] 24)).alloc (.cells #[.bool false, .slice none 0 0] 31)).alloc (.cells #[.bool xused, .slice none 0 0] 31)) (w.heap.size + 1 + 1) 31 [.bool xused, .slice none 0 0] := by have h := Blk.new ((w.alloc (.cells #[.bool xused, .slice xdata_a xdata_b.length xdata_c] 24)).alloc (.cells #[.bool false, .slice none 0 0] 31)) #[.bool xused, .slice none 0 0] 31; rwa [World.size_alloc, World.size_alloc] at h
 have hsz : (((w.alloc (.cells #[.bool xused, .slice xdata_a xdata_b.length xdata_c] 24)).alloc (.cells #[.bool false, .slice none 0 0] 31)).alloc (.cells #[.bool xused, .slice none 0 0] 31)).heap.size = w.heap.size + 1 + 1 + 1 := by simp only [World.size_alloc]
 go_wp2_with fail
 refine (toByteS_any _ xdata_b _ (by omega) (HV0.out.same hk0)).mono ?_
 rintro e w1 ⟨g0, rfl, hg, ho, hk⟩
 have O0 : OwnL w1 (BS.rows ⟨5, some ⟨g0, 0, none⟩, xdata_b.length, xdata_b⟩) := OwnL.one ho
 have F0 : ∀ b, FootL (BS.rows ⟨5, some ⟨g0, 0, none⟩, xdata_b.length, xdata_b⟩) b → w.heap.size + 1 + 1 < b := fun b hb => by have h := (footL_ints _ _ _ _ _).1 hb; have h2 : g0 = b := Option.some.inj h; have h3 := hg; omega
 clear ho
 have hk1 : Same w w1 := hk0.trans hk
 replace b0 : Blk w1 (w.heap.size) 24 [.bool xused, .slice xdata_a xdata_b.length xdata_c] := b0.same hk
 replace b1 : Blk w1 (w.heap.size + 1) 31 [.bool false, .slice none 0 0] := b1.same hk
 replace b2 : Blk w1 (w.heap.size + 1 + 1) 31 [.bool xused, .slice none 0 0] := b2.same hk
 replace hsz : w.heap.size + 1 + 1 + 1 ≤ w1.heap.size := by have := hk.size; omega
 clear hk hg
 have da1_0 := b0.c0
 have dr1_0 := b1.c0
 have fr1_0 : w1.frozen? ⟨w.heap.size + 1, 0, none⟩ = false := b1.frozen 0
 have do1_0 := b2.c0
 have fo1_0 : w1.frozen? ⟨w.heap.size + 1 + 1, 0, none⟩ = false := b2.frozen 0
 have da1_1 := b0.c1
 have dr1_1 := b1.c1
 have fr1_1 : w1.frozen? ⟨w.heap.size + 1, 1, none⟩ = false := b1.frozen 1
 have do1_1 := b2.c1
 have fo1_1 : w1.frozen? ⟨w.heap.size + 1 + 1, 1, none⟩ = false := b2.frozen 1
 have HKz := (show Hid (Same w w1) from hk1)
 have HB1 := (show Hid (Blk w1 (w.heap.size + 1) 31 [.bool false, .slice none 0 0]) from b1)
 have HO0 := (show Hid (OwnL w1 (BS.rows ⟨5, some ⟨g0, 0, none⟩, xdata_b.length, xdata_b⟩)) from O0)
 have HF0 := (show Hid (∀ b, FootL (BS.rows ⟨5, some ⟨g0, 0, none⟩, xdata_b.length, xdata_b⟩) b → w.heap.size + 1 + 1 < b) from F0)
 clear b0 b1 b2 hk0 hk1 O0 F0 
 go_wp2
 refine bodyPost_ret (v := StPageRecord.val ⟨xused, ⟨5, some ⟨g0, 0, none⟩, xdata_b.length, xdata_b⟩⟩) (by simp [StPageRecord.val, StPageRecord.val, BS.v, results, Tryz.results24, go_sem, dr1_0, dr1_1]) rfl ⟨⟨xused, ⟨5, some ⟨g0, 0, none⟩, xdata_b.length, xdata_b⟩⟩, rfl, ?_, ?_, ?_, ?_, ?_⟩
 ·rfl
 ·rfl
 ·exact fun b hb => by have := HF0.out b (hb); omega
 ·refine OwnL.kept (R := fun b => b = w.heap.size + 1 ∨ b = w.heap.size + 1 + 1) (show OwnL _ (StPageRecord.rows ⟨xused, ⟨5, some ⟨g0, 0, none⟩, xdata_b.length, xdata_b⟩⟩) from HO0.out) ?_ ?_
  ·exact (Kept.setCell (Kept.setCell (Kept.setCell (Kept.refl (fun b => b = w.heap.size + 1 ∨ b = w.heap.size + 1 + 1) _) (p := ⟨w.heap.size + 1 + 1, 1, none⟩) (.inr (.inr rfl)) _) (p := ⟨w.heap.size + 1, 0, none⟩) (.inr (.inl rfl)) _) (p := ⟨w.heap.size + 1, 1, none⟩) (.inr (.inl rfl)) _)
  ·exact fun b hb e => by have := HF0.out b (hb); omega
 ·exact (Kept.setCell (Kept.setCell (Kept.setCell HKz.out (p := ⟨w.heap.size + 1 + 1, 1, none⟩) (.inl (by simp only []; omega)) _) (p := ⟨w.heap.size + 1, 0, none⟩) (.inl (by simp only []; omega)) _) (p := ⟨w.heap.size + 1, 1, none⟩) (.inl (by simp only []; omega)) _)
def RdF (m : Nat) (w : World) (x : FR) : Prop :=
 x.n ≤ maxLen ∧ x.bs.length = x.n * m ∧ (x.n = 0 ∨ ∃ b off, x.a = some ⟨b, off, none⟩ ∧ x.n ≤ x.c ∧ ∀ i, i < x.n * m → w.cell? ⟨b, off + i, none⟩ = some (.int .i64 (x.bs.getD i 0)))
theorem RdF.kept {R : Nat → Prop} {m : Nat} {w w' : World} {x : FR} (h : RdF m w x) (hk : Kept R w w') (hr : ∀ b, x.v.ownBlock = some b → ¬ R b) : RdF m w' x := by
 refine ⟨h.1, h.2.1, ?_⟩
 rcases h.2.2 with h | ⟨b, off, he, hle, hc⟩
 ·exact .inl h
 ·exact .inr ⟨b, off, he, hle, fun i hi => hk.cellOf (hc i hi) (hr b (by simp [FR.v, he, Value.ownBlock]))⟩
theorem RdF.same {m : Nat} {w w' : World} {x : FR} (h : RdF m w x) (hk : Same w w') : RdF m w' x := h.kept hk (fun _ _ => id)
def OwnF (m : Nat) (e : TypeId) (w : World) (g n c : Nat) (bs : List Int) : Prop := w.ownsRow 0 e m (.slice (some ⟨g, 0, none⟩) n c) n (vals .i64 bs)
theorem FR.own_one {m : Nat} {w : World} {x : FR} (h : OwnL w (x.rows m)) : w.ownsRow 0 x.e m x.v x.n (vals .i64 x.bs) := h.own _ (List.mem_singleton.2 rfl)
theorem FR.own_len {m : Nat} {w : World} {x : FR} (h : OwnL w (x.rows m)) : x.bs.length = x.n * m := by
 have := (FR.own_one h).1
 rwa [vals_length] at this
theorem FR.own_form {m : Nat} {w : World} {x : FR} (h : OwnL w (x.rows m)) : (x.n = 0 ∧ x.a = none ∧ x.c = 0) ∨ ∃ g, x.a = some ⟨g, 0, none⟩ ∧ x.n ≤ x.c ∧ x.c ≤ maxLen ∧ OwnF m x.e w g x.n x.c x.bs := by
 have h1 := FR.own_one h
 rcases h1.2 with ⟨h2, h3⟩ | ⟨g, cap, cur, hv, hb, hgg, hc, hm, hs, ht⟩
 ·simp only [FR.v] at h2
  injection h2 with a1 a2 a3
  exact .inl ⟨a2, a1, a3⟩
 ·have hv' := hv
  simp only [FR.v] at hv'
  injection hv' with a1 a2 a3
  refine .inr ⟨g, a1, by omega, by omega, ?_⟩
  unfold OwnF
  rw [a3, ← hv]
  exact h1
theorem OwnF.cell {m : Nat} {e : TypeId} {w : World} {g n c : Nat} {bs : List Int} (h : OwnF m e w g n c bs) (j : Nat) (hj : j < n * m) : w.cell? ⟨g, j, none⟩ = some (.int .i64 (bs.getD j 0)) := by
 have h1 := h.1
 rw [vals_length] at h1
 rw [World.ownsRow.cellAt h j hj, vals_at .i64 bs j (by omega)]
theorem OwnF.frozen {m : Nat} {e : TypeId} {w : World} {g n c : Nat} {bs : List Int} (h : OwnF m e w g n c bs) (j : Nat) : w.frozen? ⟨g, j, none⟩ = false := World.ownsRow.frozenAt h j
theorem OwnF.stored {m : Nat} {e : TypeId} {w : World} {g n c : Nat} {bs : List Int} (h : OwnF m e w g n c bs) (j : Nat) (x : Int) : OwnF m e (w.setCell ⟨g, j, none⟩ (.int .i64 x)) g n c (bs.set j x) := by
 have := (World.ownsRow.stored h j (.int .i64 x)).1
 unfold OwnF
 have e : vals .i64 (bs.set j x) = (vals .i64 bs).set j (.int .i64 x) := by simp [vals]
 rw [e]
 exact this
theorem OwnF.same {m : Nat} {e : TypeId} {w w' : World} {g n c : Nat} {bs : List Int} (h : OwnF m e w g n c bs) (hk : Same w w') : OwnF m e w' g n c bs := hk.owns h (fun _ _ => id)
theorem OwnF.out {m : Nat} {e : TypeId} {w : World} {g n c : Nat} {bs : List Int} (h : OwnF m e w g n c bs) : OwnL w (FR.rows m ⟨e, some ⟨g, 0, none⟩, n, c, bs⟩) :=
 ⟨fun r hr => by rw [List.mem_singleton.1 hr]; exact h, List.pairwise_singleton _ _⟩
theorem FR.own_rd {m : Nat} {w : World} {x : FR} (h : OwnL w (x.rows m)) : RdF m w x := by
 have hl := FR.own_len h
 rcases FR.own_form h with ⟨h1, h2, h3⟩ | ⟨g, h1, h2, h3, h4⟩
 ·exact ⟨by rw [h1]; exact Nat.zero_le _, hl, .inl h1⟩
 ·exact ⟨by omega, hl, .inr ⟨g, 0, h1, h2, fun i hi => by rw [Nat.zero_add]; exact h4.cell i hi⟩⟩
theorem ownF_made {m : Nat} {e : TypeId} {w : World} {g n : Nat} {z : Value} (hm : 0 < m) (hz : z.cells = (List.replicate m (Value.int .i64 0)).toArray) (h : w.ownsRow 0 e m (.slice (some ⟨g, 0, none⟩) n n) n (madeCells z.cells (n * m)).toList) : OwnF m e w g n n (List.replicate (n * m) 0) := by
 have e : (madeCells z.cells (n * m)).toList = vals .i64 (List.replicate (n * m) 0) := by
  rw [hz]
  apply List.ext_getElem?
  intro j
  by_cases hj : j < n * m
  ·have h2 : j % m < m := Nat.mod_lt _ hm
   simp [madeCells, vals, hj, h2]
  ·rw [List.getElem?_eq_none (by simp [madeCells]; omega), List.getElem?_eq_none (by simp [vals]; omega)]
 rw [e] at h
 exact h
def partI (k : Int) (bs : List Int) (j : Nat) : List Int := marksI k j ++ bs.drop j
theorem partI_zero (k : Int) (bs : List Int) : partI k bs 0 = bs := by simp [partI, marksI]
theorem partI_all (k : Int) (bs : List Int) : partI k bs bs.length = marksI k bs.length := by simp [partI]
theorem partI_step (k : Int) (bs : List Int) (j : Nat) (h : j < bs.length) : (partI k bs j).set j (k + j) = partI k bs (j + 1) := by
 unfold partI
 rw [List.set_append_right (h := by simp [marksI_length]), marksI_length, Nat.sub_self, List.drop_eq_getElem_cons h, List.set_cons_zero]
 have e : marksI k (j + 1) = marksI k j ++ [k + j] := by simp [marksI, List.range_succ]
 rw [e, List.append_assoc]
 rfl
theorem Tryz.infoDirtyEntry : (Tryz.prog.info? 69).map (fun i => (i.zero, i.size, i.bytes)) = some (some (.agg #[.int .i64 0, .int .i64 0]), 2, 16) := by kernel_rfl
theorem eqDirtyEntry_any (x0 x1 : Int) (w : World) : Calls Tryz.prog 50 #[.agg #[.int .i64 x0, .int .i64 x1], .agg #[.int .i64 x0, .int .i64 x1]] w fun e w' => e = .returned (.bool true) ∧ Same w w' := by
 go_enter Tryz.func50, Tryz.ntmps50
 go_wp2
 go_ret
 exact ⟨rfl, ((Kept.refl _ _).alloc _).alloc _⟩
theorem toDirtyEntry_any (x0 x1 : Int) (w : World) : Calls Tryz.prog 44 #[.agg #[.int .i64 x0, .int .i64 x1]] w fun e w' => e = .returned (.agg #[.int .i64 x0, .int .i64 x1]) ∧ Same w w' := by
 go_enter Tryz.func44, Tryz.ntmps44
 go_wp2
 refine bodyPost_ret (v := .agg #[.int .i64 x0, .int .i64 x1]) (by simp [results, Tryz.results44, go_sem]) rfl ⟨rfl, ?_⟩
 repeat (first | exact Kept.refl _ _ | refine Kept.alloc ?_ _ | refine Kept.setCell ?_ (.inl (by simp)) _)
theorem eqDirtyEntryS_own (x y : FR) (w : World) (hn : (x.bs.length : Int) ≤ 1125899906842624) (hd : x.bs = y.bs) (ha : OwnL w (x.rows 2)) (hb : OwnL w (y.rows 2)) :
  Calls Tryz.prog 33 #[x.v, y.v] w fun e w' => e = .returned (.bool true) ∧ Same w w' := by
 have hla := FR.own_len ha
 have hlb := FR.own_len hb
 have hfa := FR.own_form ha
 have hfb := FR.own_form hb
 obtain ⟨xe, xa, xn, xc, bs⟩ := x
 obtain ⟨ye, ya, yn, yc, bs'⟩ := y
 dsimp only at hn hd hla hlb hfa hfb
 subst hd
 obtain rfl : xn = yn := by omega
 dsimp only [FR.v]
 clear ha hb
 rcases hfa with ⟨rfl, rfl, rfl⟩ | ⟨ga, rfl, hac, hcm, hoa⟩
 ·have hz : (0 : Nat) = 0 := rfl
  go_enter Tryz.func33, Tryz.ntmps33
  go_wp2
  refine wp_loop_rounds 1 ?_
  rw [rounds_succ]
  go_wp2
  go_ret
  exact ⟨rfl, Kept.refl _ _⟩
 rcases hfb with ⟨rfl, rfl, rfl⟩ | ⟨gb, rfl, hbc, hcm', hob⟩
 ·clear hoa
  go_enter Tryz.func33, Tryz.ntmps33
  go_wp2
  refine wp_loop_rounds 1 ?_
  rw [rounds_succ]
  go_wp2
  go_ret
  exact ⟨rfl, Kept.refl _ _⟩
 have HA := (show Hid (OwnF 2 xe w ga xn xc bs) from hoa)
 have HB := (show Hid (OwnF 2 ye w gb xn yc bs) from hob)
 have hxn : (xn : Int) ≤ 1125899906842624 := by omega
 clear hoa hob hla hlb hn
 go_enter Tryz.func33, Tryz.ntmps33
 go_wp2
 go_loopw [5] (fun i wr => ∃ (k : Nat), k ≤ xn ∧ i = .int .i64 k ∧ Hid (Same w wr)) (fun i _ => xn - (intOf i).toNat)
 case atStart => exact ⟨0, Nat.zero_le _, rfl, Kept.refl _ _⟩
 case round =>
  obtain ⟨k, hk, rfl, HK⟩ := hrel
  by_cases hlt : k < xn
  ·have hoa := HA.out.same HK.out
   have hob := HB.out.same HK.out
   have ha0 : wr.cell? ⟨ga, k * 2, none⟩ = some (.int .i64 (bs.getD (k * 2) 0)) := hoa.cell _ (by omega)
   have ha1 : wr.cell? ⟨ga, k * 2 + 1, none⟩ = some (.int .i64 (bs.getD (k * 2 + 1) 0)) := hoa.cell _ (by omega)
   have hb0 : wr.cell? ⟨gb, k * 2, none⟩ = some (.int .i64 (bs.getD (k * 2) 0)) := hob.cell _ (by omega)
   have hb1 : wr.cell? ⟨gb, k * 2 + 1, none⟩ = some (.int .i64 (bs.getD (k * 2 + 1) 0)) := hob.cell _ (by omega)
   clear hoa hob
   generalize bs.getD (k * 2) 0 = x0 at *
   generalize bs.getD (k * 2 + 1) 0 = x1 at *
   go_wp2_with fail
   go_region_with (go_at_call 50; refine (eqDirtyEntry_any x0 x1 _).mono ?_; rintro e w1 ⟨rfl, hk1⟩)
   all_goals
    have HK1 : Hid (Same w w1) := HK.out.drew.trans hk1
    clear hk1 ha0 hb0 ha1 hb1
    go_wp2
    go_roundw
    case rel => exact ⟨k + 1, by omega, by go_num, HK1⟩
    case measure => simp [intOf]; omega
  ·go_wp2
   go_ret
   exact ⟨rfl, HK.out⟩
theorem szDirtyEntryS_any (a : Option Addr) (n c : Nat) (left : Int) (w : World) (h0 : 0 ≤ left) (h1 : left ≤ 1048576) (hn : n ≤ maxLen) :
  Calls Tryz.prog 15 #[.slice a n c, .int .i64 left] w fun e w' => ∃ r : Int, e = .returned (.int .i64 r) ∧ ((r = -1 ∧ left < n) ∨ (r = left - n ∧ 0 ≤ r)) ∧ w' = w := by
 unfold maxLen at hn
 by_cases h : left < n
 ·go_enter Tryz.func15, Tryz.ntmps15
  go_wp2
  go_ret
  exact ⟨_, rfl, .inl ⟨rfl, h⟩, rfl⟩
 ·go_enter Tryz.func15, Tryz.ntmps15
  go_wp2
  go_ret
  exact ⟨_, rfl, .inr ⟨rfl, by omega⟩, rfl⟩
theorem toDirtyEntryS_any (x : FR) (w : World) (hn : (x.n : Int) ≤ 1073741824) (hv : RdF 2 w x) :
  Calls Tryz.prog 26 #[x.v] w fun e w' => ∃ y : FR, e = .returned y.v ∧ y.bs = x.bs ∧ y.n = x.n ∧ (∀ b, FootL (y.rows 2) b → w.heap.size ≤ b) ∧ OwnL w' (y.rows 2) ∧ Same w w' := by
 obtain ⟨i0, hi, hz0, hz1, hz2⟩ := info_parts Tryz.infoDirtyEntry
 obtain ⟨hmax, hlen, hform⟩ := hv
 obtain ⟨xe, xa, len, xc, bs⟩ := x
 dsimp only [FR.v] at *
 by_cases h0 : len = 0
 ·subst h0
  obtain rfl : bs = [] := List.length_eq_zero_iff.1 (by omega)
  clear hform hmax hlen hn
  go_enter Tryz.func26, Tryz.ntmps26
  go_wp2_with (at_make; refine wpList_make_full _ rfl (.tmp 6) (.tmp 6) 33 rfl 0 69 i0 (.agg #[.int .i64 0, .int .i64 0]) 2 Tryz.underlying33 hi hz0 hz1 .i64 .i64 _ _ 0 rfl rfl (by simp) (by simp) (by simp) (by simp) (Nat.zero_le _) ?_; intro w1 hown1 hgrow1; have HO : Hid (OwnF 2 69 w1 w.heap.size 0 0 (List.replicate (0 * 2) 0)) := ownF_made (z := .agg #[.int .i64 0, .int .i64 0]) (by decide) (by simp [Value.cells, List.replicate]) (by simpa using hown1); have HK : Hid (Same w w1) := Kept.of_grown hgrow1 (fun k e => by cases e); clear hown1 hgrow1)
  refine wp_loop_rounds 1 ?_
  rw [rounds_succ]
  go_wp2
  go_ret
  exact ⟨⟨69, some ⟨w.heap.size, 0, none⟩, 0, 0, []⟩, rfl, rfl, rfl, fun b hb => by have h := (FootL_one _ _).1 hb; simp [FR.v, Value.ownBlock] at h; omega, HO.out.out, HK.out⟩
 ·obtain ⟨b, off, rfl, hle, hc⟩ := hform.resolve_left h0
  have HC := (show Hid (∀ i, i < len * 2 → w.cell? ⟨b, off + i, none⟩ = some (.int .i64 (bs.getD i 0))) from hc)
  have HLB := (show Hid (bs.length = len * 2) from hlen)
  clear hc hform hlen
  go_enter Tryz.func26, Tryz.ntmps26
  go_wp2_with (at_make; refine wpList_make_full _ rfl (.tmp 6) (.tmp 6) 33 rfl 0 69 i0 (.agg #[.int .i64 0, .int .i64 0]) 2 Tryz.underlying33 hi hz0 hz1 .i64 .i64 _ _ len rfl rfl (by simp) (by simp) (by rw [hz2]; omega) (by unfold maxLen; omega) (Nat.zero_le _) ?_; intro w1 hown1 hgrow1; have HO : Hid (OwnF 2 69 w1 w.heap.size len len (List.replicate (len * 2) 0)) := ownF_made (z := .agg #[.int .i64 0, .int .i64 0]) (by decide) (by simp [Value.cells, List.replicate]) (by simpa using hown1); have HK : Hid (Same w w1) := Kept.of_grown hgrow1 (fun k e => by cases e); clear hown1 hgrow1)
  go_loopw [4] (fun i wr => ∃ (k : Nat), k ≤ len ∧ i = .int .i64 k ∧ Hid (OwnF 2 69 wr w.heap.size len len (fillUp bs (k * 2))) ∧ Hid (Same w wr)) (fun i _ => len - (intOf i).toNat)
  case atStart => exact ⟨0, Nat.zero_le _, rfl, by rw [Nat.zero_mul, fillUp_zero, HLB.out]; exact HO, HK⟩
  case round =>
   obtain ⟨k, hk, rfl, HOr, HKr⟩ := hrel
   by_cases hlt : k < len
   ·have q0 : wr.cell? ⟨b, off + k * 2, none⟩ = some (.int .i64 (bs.getD (k * 2) 0)) := by have h := HKr.out.cellOf (HC.out (k * 2) (by omega)) id; simpa only [Nat.add_assoc] using h
    have q1 : wr.cell? ⟨b, off + k * 2 + 1, none⟩ = some (.int .i64 (bs.getD (k * 2 + 1) 0)) := by have h := HKr.out.cellOf (HC.out (k * 2 + 1) (by omega)) id; simpa only [Nat.add_assoc] using h
    go_wp2_with fail
    refine (toDirtyEntry_any (bs.getD (k * 2) 0) (bs.getD (k * 2 + 1) 0) _).mono ?_
    rintro e w2 ⟨rfl, hk2⟩
    have HO2 := hid (HOr.out.same hk2)
    have HK2 := hid (HKr.out.trans hk2)
    clear hk2
    have r0 := HO2.out.cell (k * 2) (by omega)
    have f0 := HO2.out.frozen (k * 2)
    have r1 := HO2.out.cell (k * 2 + 1) (by omega)
    have f1 := HO2.out.frozen (k * 2 + 1)
    go_wp2
    go_roundw
    case rel =>
     have h0 := HO2.out
     have h1 := h0.stored (k * 2) (bs.getD (k * 2) 0)
     rw [fillUp_step _ _ (by have := HLB.out; omega)] at h1
     have h2 := h1.stored (k * 2 + 1) (bs.getD (k * 2 + 1) 0)
     rw [fillUp_step _ _ (by have := HLB.out; omega)] at h2
     refine ⟨k + 1, by omega, by go_num, ?_, ?_⟩
     ·rw [show (k + 1) * 2 = k * 2 + 1 + 1 from by omega]; simpa [List.getD, Hid] using h2
     ·exact ((HK2.out.setCell (.inl (Nat.le_refl _)) _).setCell (.inl (Nat.le_refl _)) _)
    case measure => simp [intOf]; omega
   ·go_wp2
    go_ret
    obtain rfl : k = len := by omega
    have h := HOr.out
    rw [← HLB.out, fillUp_all] at h
    exact ⟨⟨69, some ⟨w.heap.size, 0, none⟩, k, k, bs⟩, rfl, rfl, rfl, fun b hb => by have h := (FootL_one _ _).1 hb; simp [FR.v, Value.ownBlock] at h; omega, h.out, HKr.out⟩
theorem Tryz.infoTxnEntry : (Tryz.prog.info? 67).map (fun i => (i.zero, i.size, i.bytes)) = some (some (.agg #[.int .i64 0, .int .i64 0, .int .i64 0, .int .i64 0]), 4, 32) := by kernel_rfl
theorem eqTxnEntry_any (x0 x1 x2 x3 : Int) (w : World) : Calls Tryz.prog 49 #[.agg #[.int .i64 x0, .int .i64 x1, .int .i64 x2, .int .i64 x3], .agg #[.int .i64 x0, .int .i64 x1, .int .i64 x2, .int .i64 x3]] w fun e w' => e = .returned (.bool true) ∧ Same w w' := by
 go_enter Tryz.func49, Tryz.ntmps49
 go_wp2
 go_ret
 exact ⟨rfl, ((Kept.refl _ _).alloc _).alloc _⟩
theorem toTxnEntry_any (x0 x1 x2 x3 : Int) (w : World) : Calls Tryz.prog 43 #[.agg #[.int .i64 x0, .int .i64 x1, .int .i64 x2, .int .i64 x3]] w fun e w' => e = .returned (.agg #[.int .i64 x0, .int .i64 x1, .int .i64 x2, .int .i64 x3]) ∧ Same w w' := by
 go_enter Tryz.func43, Tryz.ntmps43
 go_wp2
 refine bodyPost_ret (v := .agg #[.int .i64 x0, .int .i64 x1, .int .i64 x2, .int .i64 x3]) (by simp [results, Tryz.results43, go_sem]) rfl ⟨rfl, ?_⟩
 repeat (first | exact Kept.refl _ _ | refine Kept.alloc ?_ _ | refine Kept.setCell ?_ (.inl (by simp)) _)
theorem eqTxnEntryS_own (x y : FR) (w : World) (hn : (x.bs.length : Int) ≤ 1125899906842624) (hd : x.bs = y.bs) (ha : OwnL w (x.rows 4)) (hb : OwnL w (y.rows 4)) :
  Calls Tryz.prog 32 #[x.v, y.v] w fun e w' => e = .returned (.bool true) ∧ Same w w' := by
 have hla := FR.own_len ha
 have hlb := FR.own_len hb
 have hfa := FR.own_form ha
 have hfb := FR.own_form hb
 obtain ⟨xe, xa, xn, xc, bs⟩ := x
 obtain ⟨ye, ya, yn, yc, bs'⟩ := y
 dsimp only at hn hd hla hlb hfa hfb
 subst hd
 obtain rfl : xn = yn := by omega
 dsimp only [FR.v]
 clear ha hb
 rcases hfa with ⟨rfl, rfl, rfl⟩ | ⟨ga, rfl, hac, hcm, hoa⟩
 ·have hz : (0 : Nat) = 0 := rfl
  go_enter Tryz.func32, Tryz.ntmps32
  go_wp2
  refine wp_loop_rounds 1 ?_
  rw [rounds_succ]
  go_wp2
  go_ret
  exact ⟨rfl, Kept.refl _ _⟩
 rcases hfb with ⟨rfl, rfl, rfl⟩ | ⟨gb, rfl, hbc, hcm', hob⟩
 ·clear hoa
  go_enter Tryz.func32, Tryz.ntmps32
  go_wp2
  refine wp_loop_rounds 1 ?_
  rw [rounds_succ]
  go_wp2
  go_ret
  exact ⟨rfl, Kept.refl _ _⟩
 have HA := (show Hid (OwnF 4 xe w ga xn xc bs) from hoa)
 have HB := (show Hid (OwnF 4 ye w gb xn yc bs) from hob)
 have hxn : (xn : Int) ≤ 1125899906842624 := by omega
 clear hoa hob hla hlb hn
 go_enter Tryz.func32, Tryz.ntmps32
 go_wp2
 go_loopw [5] (fun i wr => ∃ (k : Nat), k ≤ xn ∧ i = .int .i64 k ∧ Hid (Same w wr)) (fun i _ => xn - (intOf i).toNat)
 case atStart => exact ⟨0, Nat.zero_le _, rfl, Kept.refl _ _⟩
 case round =>
  obtain ⟨k, hk, rfl, HK⟩ := hrel
  by_cases hlt : k < xn
  ·have hoa := HA.out.same HK.out
   have hob := HB.out.same HK.out
   have ha0 : wr.cell? ⟨ga, k * 4, none⟩ = some (.int .i64 (bs.getD (k * 4) 0)) := hoa.cell _ (by omega)
   have ha1 : wr.cell? ⟨ga, k * 4 + 1, none⟩ = some (.int .i64 (bs.getD (k * 4 + 1) 0)) := hoa.cell _ (by omega)
   have ha2 : wr.cell? ⟨ga, k * 4 + 2, none⟩ = some (.int .i64 (bs.getD (k * 4 + 2) 0)) := hoa.cell _ (by omega)
   have ha3 : wr.cell? ⟨ga, k * 4 + 3, none⟩ = some (.int .i64 (bs.getD (k * 4 + 3) 0)) := hoa.cell _ (by omega)
   have hb0 : wr.cell? ⟨gb, k * 4, none⟩ = some (.int .i64 (bs.getD (k * 4) 0)) := hob.cell _ (by omega)
   have hb1 : wr.cell? ⟨gb, k * 4 + 1, none⟩ = some (.int .i64 (bs.getD (k * 4 + 1) 0)) := hob.cell _ (by omega)
   have hb2 : wr.cell? ⟨gb, k * 4 + 2, none⟩ = some (.int .i64 (bs.getD (k * 4 + 2) 0)) := hob.cell _ (by omega)
   have hb3 : wr.cell? ⟨gb, k * 4 + 3, none⟩ = some (.int .i64 (bs.getD (k * 4 + 3) 0)) := hob.cell _ (by omega)
   clear hoa hob
   generalize bs.getD (k * 4) 0 = x0 at *
   generalize bs.getD (k * 4 + 1) 0 = x1 at *
   generalize bs.getD (k * 4 + 2) 0 = x2 at *
   generalize bs.getD (k * 4 + 3) 0 = x3 at *
   go_wp2_with fail
   go_region_with (go_at_call 49; refine (eqTxnEntry_any x0 x1 x2 x3 _).mono ?_; rintro e w1 ⟨rfl, hk1⟩)
   all_goals
    have HK1 : Hid (Same w w1) := HK.out.drew.trans hk1
    clear hk1 ha0 hb0 ha1 hb1 ha2 hb2 ha3 hb3
    go_wp2
    go_roundw
    case rel => exact ⟨k + 1, by omega, by go_num, HK1⟩
    case measure => simp [intOf]; omega
  ·go_wp2
   go_ret
   exact ⟨rfl, HK.out⟩
theorem szTxnEntryS_any (a : Option Addr) (n c : Nat) (left : Int) (w : World) (h0 : 0 ≤ left) (h1 : left ≤ 1048576) (hn : n ≤ maxLen) :
  Calls Tryz.prog 14 #[.slice a n c, .int .i64 left] w fun e w' => ∃ r : Int, e = .returned (.int .i64 r) ∧ ((r = -1 ∧ left < n) ∨ (r = left - n ∧ 0 ≤ r)) ∧ w' = w := by
 unfold maxLen at hn
 by_cases h : left < n
 ·go_enter Tryz.func14, Tryz.ntmps14
  go_wp2
  go_ret
  exact ⟨_, rfl, .inl ⟨rfl, h⟩, rfl⟩
 ·go_enter Tryz.func14, Tryz.ntmps14
  go_wp2
  go_ret
  exact ⟨_, rfl, .inr ⟨rfl, by omega⟩, rfl⟩
theorem toTxnEntryS_any (x : FR) (w : World) (hn : (x.n : Int) ≤ 1073741824) (hv : RdF 4 w x) :
  Calls Tryz.prog 25 #[x.v] w fun e w' => ∃ y : FR, e = .returned y.v ∧ y.bs = x.bs ∧ y.n = x.n ∧ (∀ b, FootL (y.rows 4) b → w.heap.size ≤ b) ∧ OwnL w' (y.rows 4) ∧ Same w w' := by
 obtain ⟨i0, hi, hz0, hz1, hz2⟩ := info_parts Tryz.infoTxnEntry
 obtain ⟨hmax, hlen, hform⟩ := hv
 obtain ⟨xe, xa, len, xc, bs⟩ := x
 dsimp only [FR.v] at *
 by_cases h0 : len = 0
 ·subst h0
  obtain rfl : bs = [] := List.length_eq_zero_iff.1 (by omega)
  clear hform hmax hlen hn
  go_enter Tryz.func25, Tryz.ntmps25
  go_wp2_with (at_make; refine wpList_make_full _ rfl (.tmp 6) (.tmp 6) 32 rfl 0 67 i0 (.agg #[.int .i64 0, .int .i64 0, .int .i64 0, .int .i64 0]) 4 Tryz.underlying32 hi hz0 hz1 .i64 .i64 _ _ 0 rfl rfl (by simp) (by simp) (by simp) (by simp) (Nat.zero_le _) ?_; intro w1 hown1 hgrow1; have HO : Hid (OwnF 4 67 w1 w.heap.size 0 0 (List.replicate (0 * 4) 0)) := ownF_made (z := .agg #[.int .i64 0, .int .i64 0, .int .i64 0, .int .i64 0]) (by decide) (by simp [Value.cells, List.replicate]) (by simpa using hown1); have HK : Hid (Same w w1) := Kept.of_grown hgrow1 (fun k e => by cases e); clear hown1 hgrow1)
  refine wp_loop_rounds 1 ?_
  rw [rounds_succ]
  go_wp2
  go_ret
  exact ⟨⟨67, some ⟨w.heap.size, 0, none⟩, 0, 0, []⟩, rfl, rfl, rfl, fun b hb => by have h := (FootL_one _ _).1 hb; simp [FR.v, Value.ownBlock] at h; omega, HO.out.out, HK.out⟩
 ·obtain ⟨b, off, rfl, hle, hc⟩ := hform.resolve_left h0
  have HC := (show Hid (∀ i, i < len * 4 → w.cell? ⟨b, off + i, none⟩ = some (.int .i64 (bs.getD i 0))) from hc)
  have HLB := (show Hid (bs.length = len * 4) from hlen)
  clear hc hform hlen
  go_enter Tryz.func25, Tryz.ntmps25
  go_wp2_with (at_make; refine wpList_make_full _ rfl (.tmp 6) (.tmp 6) 32 rfl 0 67 i0 (.agg #[.int .i64 0, .int .i64 0, .int .i64 0, .int .i64 0]) 4 Tryz.underlying32 hi hz0 hz1 .i64 .i64 _ _ len rfl rfl (by simp) (by simp) (by rw [hz2]; omega) (by unfold maxLen; omega) (Nat.zero_le _) ?_; intro w1 hown1 hgrow1; have HO : Hid (OwnF 4 67 w1 w.heap.size len len (List.replicate (len * 4) 0)) := ownF_made (z := .agg #[.int .i64 0, .int .i64 0, .int .i64 0, .int .i64 0]) (by decide) (by simp [Value.cells, List.replicate]) (by simpa using hown1); have HK : Hid (Same w w1) := Kept.of_grown hgrow1 (fun k e => by cases e); clear hown1 hgrow1)
  go_loopw [4] (fun i wr => ∃ (k : Nat), k ≤ len ∧ i = .int .i64 k ∧ Hid (OwnF 4 67 wr w.heap.size len len (fillUp bs (k * 4))) ∧ Hid (Same w wr)) (fun i _ => len - (intOf i).toNat)
  case atStart => exact ⟨0, Nat.zero_le _, rfl, by rw [Nat.zero_mul, fillUp_zero, HLB.out]; exact HO, HK⟩
  case round =>
   obtain ⟨k, hk, rfl, HOr, HKr⟩ := hrel
   by_cases hlt : k < len
   ·have q0 : wr.cell? ⟨b, off + k * 4, none⟩ = some (.int .i64 (bs.getD (k * 4) 0)) := by have h := HKr.out.cellOf (HC.out (k * 4) (by omega)) id; simpa only [Nat.add_assoc] using h
    have q1 : wr.cell? ⟨b, off + k * 4 + 1, none⟩ = some (.int .i64 (bs.getD (k * 4 + 1) 0)) := by have h := HKr.out.cellOf (HC.out (k * 4 + 1) (by omega)) id; simpa only [Nat.add_assoc] using h
    have q2 : wr.cell? ⟨b, off + k * 4 + 2, none⟩ = some (.int .i64 (bs.getD (k * 4 + 2) 0)) := by have h := HKr.out.cellOf (HC.out (k * 4 + 2) (by omega)) id; simpa only [Nat.add_assoc] using h
    have q3 : wr.cell? ⟨b, off + k * 4 + 3, none⟩ = some (.int .i64 (bs.getD (k * 4 + 3) 0)) := by have h := HKr.out.cellOf (HC.out (k * 4 + 3) (by omega)) id; simpa only [Nat.add_assoc] using h
    go_wp2_with fail
    refine (toTxnEntry_any (bs.getD (k * 4) 0) (bs.getD (k * 4 + 1) 0) (bs.getD (k * 4 + 2) 0) (bs.getD (k * 4 + 3) 0) _).mono ?_
    rintro e w2 ⟨rfl, hk2⟩
    have HO2 := hid (HOr.out.same hk2)
    have HK2 := hid (HKr.out.trans hk2)
    clear hk2
    have r0 := HO2.out.cell (k * 4) (by omega)
    have f0 := HO2.out.frozen (k * 4)
    have r1 := HO2.out.cell (k * 4 + 1) (by omega)
    have f1 := HO2.out.frozen (k * 4 + 1)
    have r2 := HO2.out.cell (k * 4 + 2) (by omega)
    have f2 := HO2.out.frozen (k * 4 + 2)
    have r3 := HO2.out.cell (k * 4 + 3) (by omega)
    have f3 := HO2.out.frozen (k * 4 + 3)
    go_wp2
    go_roundw
    case rel =>
     have h0 := HO2.out
     have h1 := h0.stored (k * 4) (bs.getD (k * 4) 0)
     rw [fillUp_step _ _ (by have := HLB.out; omega)] at h1
     have h2 := h1.stored (k * 4 + 1) (bs.getD (k * 4 + 1) 0)
     rw [fillUp_step _ _ (by have := HLB.out; omega)] at h2
     have h3 := h2.stored (k * 4 + 2) (bs.getD (k * 4 + 2) 0)
     rw [fillUp_step _ _ (by have := HLB.out; omega)] at h3
     have h4 := h3.stored (k * 4 + 3) (bs.getD (k * 4 + 3) 0)
     rw [fillUp_step _ _ (by have := HLB.out; omega)] at h4
     refine ⟨k + 1, by omega, by go_num, ?_, ?_⟩
     ·rw [show (k + 1) * 4 = k * 4 + 1 + 1 + 1 + 1 from by omega]; simpa [List.getD, Hid] using h4
     ·exact ((((HK2.out.setCell (.inl (Nat.le_refl _)) _).setCell (.inl (Nat.le_refl _)) _).setCell (.inl (Nat.le_refl _)) _).setCell (.inl (Nat.le_refl _)) _)
    case measure => simp [intOf]; omega
   ·go_wp2
    go_ret
    obtain rfl : k = len := by omega
    have h := HOr.out
    rw [← HLB.out, fillUp_all] at h
    exact ⟨⟨67, some ⟨w.heap.size, 0, none⟩, k, k, bs⟩, rfl, rfl, rfl, fun b hb => by have h := (FootL_one _ _).1 hb; simp [FR.v, Value.ownBlock] at h; omega, h.out, HKr.out⟩
end Go.Proofs.YtdgmecmkkddpeaaGreat
