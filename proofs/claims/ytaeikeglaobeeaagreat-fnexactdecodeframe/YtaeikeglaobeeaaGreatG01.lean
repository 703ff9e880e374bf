import Derived.Test.YtaeikeglaobeeaaGreatG00
import Derived.Deep.DeepCutAuto
import Derived.Deep.RegionHeld3
namespace Go.Proofs.YtaeikeglaobeeaaGreat
set_option maxRecDepth 100000
set_option maxHeartbeats 16000000
set_option linter.unusedVariables false
set_option linter.unusedSimpArgs false
open Go.RowKit
structure StPageRecord where
 used : Bool
 data : BS
def StPageRecord.val (x : StPageRecord) : Value := .agg #[.bool x.used, x.data.v]
def StPageRecord.rows (x : StPageRecord) : List Row := x.data.rows
def StPageRecord.dat (x : StPageRecord) : Bool × List Int := (x.used, x.data.bs)
def StPageRecord.size (x : StPageRecord) : Int := (x.data.bs.length : Int)
theorem StPageRecord.size_le (x : StPageRecord) : 0 ≤ x.size := by
 unfold StPageRecord.size
 omega
def StPageRecord.marked (x : StPageRecord) (k : Int) : StPageRecord := ⟨x.used, x.data.marked (k)⟩
theorem StPageRecord.foot_marked (x : StPageRecord) (k : Int) (b : Nat) : FootL (x.marked k).rows b ↔ FootL x.rows b := by
 exact BS.foot_marked _ _ b
def StPageRecord.rd (w : World) (x : StPageRecord) : Prop := Rd .u8 w x.data.v x.data.bs
theorem StPageRecord.rd.kept {R : Nat → Prop} {w w' : World} {x : StPageRecord} (h : StPageRecord.rd w x) (hk : Kept R w w') (hr : ∀ b, FootL x.rows b → ¬ R b) : StPageRecord.rd w' x :=
 Rd.kept (h) hk (fun b hb => hr b (((footL_ints _ _ _ _ _).2 hb)))
theorem StPageRecord.rd.same {w w' : World} {x : StPageRecord} (h : StPageRecord.rd w x) (hk : Same w w') : StPageRecord.rd w' x := h.kept hk (fun _ _ => id)
theorem StPageRecord.own_rd {w : World} {x : StPageRecord} (h : OwnL w x.rows) : StPageRecord.rd w x :=
 (OwnL.of_one h).rd
def StPageRecord.szs (x : StPageRecord) : Int := (x.data.bs.length : Int)
theorem eqPageRecord_own (x y : StPageRecord) (w : World) (hn : x.size ≤ 1125899906842624) (hd : x.dat = y.dat) (ha : OwnL w x.rows) (hb : OwnL w y.rows) :
  Calls Tryz.prog 65 #[x.val, y.val] w fun e w' => e = .returned (.bool true) ∧ Same w w' := by
 obtain ⟨xused, ⟨xdata_e, xdata_a, xdata_c, xdata_b⟩⟩ := x
 obtain ⟨yused, ⟨ydata_e, ydata_a, ydata_c, ydata_b⟩⟩ := y
 simp only [StPageRecord.dat, Prod.mk.injEq] at hd
 obtain ⟨rfl, rfl⟩ := hd
 simp only [StPageRecord.size] at hn
 have Hx0 := (show Hid (OwnL w [ints xdata_e .u8 (.slice xdata_a xdata_b.length xdata_c) xdata_b]) from ha)
 have Hy0 := (show Hid (OwnL w [ints ydata_e .u8 (.slice ydata_a xdata_b.length ydata_c) xdata_b]) from hb)
 clear ha hb
 dsimp only [StPageRecord.val, BS.v]
 go_enter Tryz.func65, Tryz.ntmps65
 have hk0 : Same w ((w.alloc (.cells #[.bool xused, .slice xdata_a xdata_b.length xdata_c] 24)).alloc (.cells #[.bool xused, .slice ydata_a xdata_b.length ydata_c] 24)) := ((Kept.refl _ _).alloc _).alloc _
 have HK0 := (show Hid (Same w _) from hk0)
 obtain ⟨_, HBx0, HBy0⟩ := new2 w [.bool xused, .slice xdata_a xdata_b.length xdata_c] 24 [.bool xused, .slice ydata_a xdata_b.length ydata_c] 24
 clear hk0
 go_wp2_with fail
 refine (eqByteS_own 0 _ _ xdata_b _ (by omega) (Hx0.out.of_one.same HK0.out) (Hy0.out.of_one.same HK0.out)).mono ?_
 rintro e w1 ⟨rfl, nn, hww⟩
 have hk : Same ((w.alloc (.cells #[.bool xused, .slice xdata_a xdata_b.length xdata_c] 24)).alloc (.cells #[.bool xused, .slice ydata_a xdata_b.length ydata_c] 24)) w1 := by rw [hww]; exact (Kept.refl _ _).drewN _
 clear hww
 have HK1 := hid (HK0.out.trans hk)
 have HBx1 := hid (HBx0.out.same hk)
 have HBy1 := hid (HBy0.out.same hk)
 clear hk HK0 HBx0 HBy0
 go_wp2
 go_ret
 exact ⟨rfl, HK1.out⟩
theorem markPageRecord_own (x : StPageRecord) (k0 : Int) (w : World) (h0 : 0 ≤ k0) (h1 : k0 + x.size ≤ 1125899906842624) (ha : OwnL w x.rows) :
  Calls Tryz.prog 68 #[x.val, .int .i64 k0] w fun e w' => e = .returned (.int .i64 (k0 + x.size)) ∧ OwnL w' (x.marked k0).rows ∧ Kept (FootL x.rows) w w' := by
 have hlt := ha.lt
 have HLT := (show Hid (∀ b, FootL x.rows b → b < w.heap.size) from hlt)
 have HA := (show Hid (OwnL w x.rows) from ha)
 clear hlt
 obtain ⟨xused, ⟨xdata_e, xdata_a, xdata_c, xdata_b⟩⟩ := x
 have HO0_0 := (show Hid (OwnL w [ints xdata_e .u8 (.slice xdata_a xdata_b.length xdata_c) xdata_b]) from ha)
 clear ha
 simp only [StPageRecord.size] at h1
 dsimp only [StPageRecord.val, BS.v]
 go_enter Tryz.func68, Tryz.ntmps68
 have HK_0 := (show Hid (Kept (FootL (StPageRecord.rows ⟨xused, ⟨xdata_e, xdata_a, xdata_c, xdata_b⟩⟩)) w (w.alloc (.cells #[.bool xused, .slice xdata_a xdata_b.length xdata_c] 24))) from (Kept.refl _ _).alloc _)
 have HB_0 := hid (Blk.newL w [.bool xused, .slice xdata_a xdata_b.length xdata_c] 24)
 go_wp2_with fail
 refine (markByteS_own 0 _ xdata_b (k0) _ (by omega) (by omega) (by omega) (OwnL.of_one (HO0_0.out.same ((Kept.refl _ _).alloc _)))).mono ?_
 rintro e w1 ⟨rfl, ho, hk⟩
 have ho := (show OwnL w1 (BS.rows (BS.marked ⟨xdata_e, xdata_a, xdata_c, xdata_b⟩ (k0))) from BS.own_marked.2 (OwnL.one ho))
 have hk : Kept (FootL [ints xdata_e .u8 (.slice xdata_a xdata_b.length xdata_c) xdata_b]) _ w1 := hk.mono (fun b _ e => (footL_ints _ _ _ _ _).2 e)
 have HB_1 := (show Hid (Blk w1 w.heap.size 24 [.bool xused, .slice xdata_a xdata_b.length xdata_c]) from HB_0.out.kept hk (fun e => by have := HLT.out _ (e); omega))
 have HK_1 := (show Hid (Kept (FootL (StPageRecord.rows ⟨xused, ⟨xdata_e, xdata_a, xdata_c, xdata_b⟩⟩)) w w1) from HK_0.out.next hk (fun b _ e => e))
 have HO0_1 := (show Hid (OwnL w1 (BS.rows (BS.marked ⟨xdata_e, xdata_a, xdata_c, xdata_b⟩ (k0)))) from ho)
 clear ho hk HB_0 HK_0 HO0_0
 go_wp2
 go_ret
 refine ⟨rfl, ?_, HK_1.out⟩
 exact HO0_1.out
theorem heldPageRecord_own (x : StPageRecord) (k0 : Int) (w : World) (h0 : 0 ≤ k0) (h1 : k0 + x.size ≤ 1125899906842624) (ha : OwnL w (x.marked k0).rows) :
  Calls Tryz.prog 71 #[x.val, .int .i64 k0] w fun e w' => e = .returned (.int .i64 (k0 + x.size)) ∧ Same w w' := by
 obtain ⟨xused, ⟨xdata_e, xdata_a, xdata_c, xdata_b⟩⟩ := x
 have HO0 := (show Hid (OwnL w [ints xdata_e .u8 (.slice xdata_a xdata_b.length xdata_c) (marks (k0) xdata_b.length)]) from BS.own_marked.1 (ha))
 clear ha
 simp only [StPageRecord.size] at h1
 dsimp only [StPageRecord.val, BS.v]
 go_enter Tryz.func71, Tryz.ntmps71
 obtain ⟨HK0, HB0⟩ := new1 w [.bool xused, .slice xdata_a xdata_b.length xdata_c] 24
 have hneg0 : ¬ (k0 + (xdata_b.length : Int)) < 0 := by omega
 go_wp2_with fail
 refine (heldByteS_own 0 _ xdata_b.length (k0) _ (by omega) (by omega) (by omega) (OwnL.of_one (HO0.out.same HK0.out))).mono ?_
 rintro e w1 ⟨rfl, hww⟩
 have hk : Same (w.alloc (.cells #[.bool xused, .slice xdata_a xdata_b.length xdata_c] 24)) w1 := by rw [hww]; exact Kept.refl _ _
 clear hww
 have HK1 := hid (HK0.out.trans hk)
 have HB1 := hid (HB0.out.same hk)
 clear hk
 go_wp2
 go_ret
 exact ⟨rfl, HK1.out⟩
def RdF (m : Nat) (w : World) (x : FR) : Prop :=
 x.n ≤ maxLen ∧ x.bs.length = x.n * m ∧ (x.n = 0 ∨ ∃ b off, x.a = some ⟨b, off, none⟩ ∧ x.n ≤ x.c ∧ ∀ i, i < x.n * m → w.cell? ⟨b, off + i, none⟩ = some (.int .i64 (x.bs.getD i 0)))
theorem RdF.kept {R : Nat → Prop} {m : Nat} {w w' : World} {x : FR} (h : RdF m w x) (hk : Kept R w w') (hr : ∀ b, x.v.ownBlock = some b → ¬ R b) : RdF m w' x := by
 refine ⟨h.1, h.2.1, ?_⟩
 rcases h.2.2 with h | ⟨b, off, he, hle, hc⟩
 ·exact .inl h
 ·exact .inr ⟨b, off, he, hle, fun i hi => hk.cellOf (hc i hi) (hr b (by simp [FR.v, he, Value.ownBlock]))⟩
theorem RdF.same {m : Nat} {w w' : World} {x : FR} (h : RdF m w x) (hk : Same w w') : RdF m w' x := h.kept hk (fun _ _ => id)
def OwnF (m : Nat) (e : TypeId) (w : World) (g n c : Nat) (bs : List Int) : Prop := w.ownsRow 0 e m (.slice (some ⟨g, 0, none⟩) n c) n (vals .i64 bs)
theorem FR.own_one {m : Nat} {w : World} {x : FR} (h : OwnL w (x.rows m)) : w.ownsRow 0 x.e m x.v x.n (vals .i64 x.bs) := h.own _ (List.mem_singleton.2 rfl)
theorem FR.own_len {m : Nat} {w : World} {x : FR} (h : OwnL w (x.rows m)) : x.bs.length = x.n * m := by
 have := (FR.own_one h).1
 rwa [vals_length] at this
theorem FR.own_form {m : Nat} {w : World} {x : FR} (h : OwnL w (x.rows m)) : (x.n = 0 ∧ x.a = none ∧ x.c = 0) ∨ ∃ g, x.a = some ⟨g, 0, none⟩ ∧ x.n ≤ x.c ∧ x.c ≤ maxLen ∧ OwnF m x.e w g x.n x.c x.bs := by
 have h1 := FR.own_one h
 rcases h1.2 with ⟨h2, h3⟩ | ⟨g, cap, cur, hv, hb, hgg, hc, hm, hs, ht⟩
 ·simp only [FR.v] at h2
  injection h2 with a1 a2 a3
  exact .inl ⟨a2, a1, a3⟩
 ·have hv' := hv
  simp only [FR.v] at hv'
  injection hv' with a1 a2 a3
  refine .inr ⟨g, a1, by omega, by omega, ?_⟩
  unfold OwnF
  rw [a3, ← hv]
  exact h1
theorem OwnF.cell {m : Nat} {e : TypeId} {w : World} {g n c : Nat} {bs : List Int} (h : OwnF m e w g n c bs) (j : Nat) (hj : j < n * m) : w.cell? ⟨g, j, none⟩ = some (.int .i64 (bs.getD j 0)) := by
 have h1 := h.1
 rw [vals_length] at h1
 rw [World.ownsRow.cellAt h j hj, vals_at .i64 bs j (by omega)]
theorem OwnF.frozen {m : Nat} {e : TypeId} {w : World} {g n c : Nat} {bs : List Int} (h : OwnF m e w g n c bs) (j : Nat) : w.frozen? ⟨g, j, none⟩ = false := World.ownsRow.frozenAt h j
theorem OwnF.stored {m : Nat} {e : TypeId} {w : World} {g n c : Nat} {bs : List Int} (h : OwnF m e w g n c bs) (j : Nat) (x : Int) : OwnF m e (w.setCell ⟨g, j, none⟩ (.int .i64 x)) g n c (bs.set j x) := by
 have := (World.ownsRow.stored h j (.int .i64 x)).1
 unfold OwnF
 have e : vals .i64 (bs.set j x) = (vals .i64 bs).set j (.int .i64 x) := by simp [vals]
 rw [e]
 exact this
theorem OwnF.same {m : Nat} {e : TypeId} {w w' : World} {g n c : Nat} {bs : List Int} (h : OwnF m e w g n c bs) (hk : Same w w') : OwnF m e w' g n c bs := hk.owns h (fun _ _ => id)
theorem OwnF.out {m : Nat} {e : TypeId} {w : World} {g n c : Nat} {bs : List Int} (h : OwnF m e w g n c bs) : OwnL w (FR.rows m ⟨e, some ⟨g, 0, none⟩, n, c, bs⟩) :=
 ⟨fun r hr => by rw [List.mem_singleton.1 hr]; exact h, List.pairwise_singleton _ _⟩
theorem FR.own_rd {m : Nat} {w : World} {x : FR} (h : OwnL w (x.rows m)) : RdF m w x := by
 have hl := FR.own_len h
 rcases FR.own_form h with ⟨h1, h2, h3⟩ | ⟨g, h1, h2, h3, h4⟩
 ·exact ⟨by rw [h1]; exact Nat.zero_le _, hl, .inl h1⟩
 ·exact ⟨by omega, hl, .inr ⟨g, 0, h1, h2, fun i hi => by rw [Nat.zero_add]; exact h4.cell i hi⟩⟩
def partI (k : Int) (bs : List Int) (j : Nat) : List Int := marksI k j ++ bs.drop j
theorem partI_zero (k : Int) (bs : List Int) : partI k bs 0 = bs := by simp [partI, marksI]
theorem partI_all (k : Int) (bs : List Int) : partI k bs bs.length = marksI k bs.length := by simp [partI]
theorem partI_step (k : Int) (bs : List Int) (j : Nat) (h : j < bs.length) : (partI k bs j).set j (k + j) = partI k bs (j + 1) := by
 unfold partI
 rw [List.set_append_right (h := by simp [marksI_length]), marksI_length, Nat.sub_self, List.drop_eq_getElem_cons h, List.set_cons_zero]
 have e : marksI k (j + 1) = marksI k j ++ [k + j] := by simp [marksI, List.range_succ]
 rw [e, List.append_assoc]
 rfl
theorem marksI_at (k : Int) (n j : Nat) (h : j < n) : (marksI k n).getD j 0 = k + j := by simp [marksI, h, List.getD]
theorem eqDirtyEntry_any (x0 x1 : Int) (w : World) : Calls Tryz.prog 84 #[.agg #[.int .i64 x0, .int .i64 x1], .agg #[.int .i64 x0, .int .i64 x1]] w fun e w' => e = .returned (.bool true) ∧ Same w w' := by
 go_enter Tryz.func84, Tryz.ntmps84
 go_wp2
 go_ret
 exact ⟨rfl, ((Kept.refl _ _).alloc _).alloc _⟩
theorem eqDirtyEntryS_own (x y : FR) (w : World) (hn : (x.bs.length : Int) ≤ 1125899906842624) (hd : x.bs = y.bs) (ha : OwnL w (x.rows 2)) (hb : OwnL w (y.rows 2)) :
  Calls Tryz.prog 67 #[x.v, y.v] w fun e w' => e = .returned (.bool true) ∧ Same w w' := by
 have hla := FR.own_len ha
 have hlb := FR.own_len hb
 have hfa := FR.own_form ha
 have hfb := FR.own_form hb
 obtain ⟨xe, xa, xn, xc, bs⟩ := x
 obtain ⟨ye, ya, yn, yc, bs'⟩ := y
 dsimp only at hn hd hla hlb hfa hfb
 subst hd
 obtain rfl : xn = yn := by omega
 dsimp only [FR.v]
 clear ha hb
 rcases hfa with ⟨rfl, rfl, rfl⟩ | ⟨ga, rfl, hac, hcm, hoa⟩
 ·have hz : (0 : Nat) = 0 := rfl
  go_enter Tryz.func67, Tryz.ntmps67
  go_wp2
  refine wp_loop_rounds 1 ?_
  rw [rounds_succ]
  go_wp2
  go_ret
  exact ⟨rfl, Kept.refl _ _⟩
 rcases hfb with ⟨rfl, rfl, rfl⟩ | ⟨gb, rfl, hbc, hcm', hob⟩
 ·clear hoa
  go_enter Tryz.func67, Tryz.ntmps67
  go_wp2
  refine wp_loop_rounds 1 ?_
  rw [rounds_succ]
  go_wp2
  go_ret
  exact ⟨rfl, Kept.refl _ _⟩
 have HA := (show Hid (OwnF 2 xe w ga xn xc bs) from hoa)
 have HB := (show Hid (OwnF 2 ye w gb xn yc bs) from hob)
 have hxn : (xn : Int) ≤ 1125899906842624 := by omega
 clear hoa hob hla hlb hn
 go_enter Tryz.func67, Tryz.ntmps67
 go_wp2
 go_loopw [5] (fun i wr => ∃ (k : Nat), k ≤ xn ∧ i = .int .i64 k ∧ Hid (Same w wr)) (fun i _ => xn - (intOf i).toNat)
 case atStart => exact ⟨0, Nat.zero_le _, rfl, Kept.refl _ _⟩
 case round =>
  obtain ⟨k, hk, rfl, HK⟩ := hrel
  by_cases hlt : k < xn
  ·have hoa := HA.out.same HK.out
   have hob := HB.out.same HK.out
   have ha0 : wr.cell? ⟨ga, k * 2, none⟩ = some (.int .i64 (bs.getD (k * 2) 0)) := hoa.cell _ (by omega)
   have ha1 : wr.cell? ⟨ga, k * 2 + 1, none⟩ = some (.int .i64 (bs.getD (k * 2 + 1) 0)) := hoa.cell _ (by omega)
   have hb0 : wr.cell? ⟨gb, k * 2, none⟩ = some (.int .i64 (bs.getD (k * 2) 0)) := hob.cell _ (by omega)
   have hb1 : wr.cell? ⟨gb, k * 2 + 1, none⟩ = some (.int .i64 (bs.getD (k * 2 + 1) 0)) := hob.cell _ (by omega)
   clear hoa hob
   generalize bs.getD (k * 2) 0 = x0 at *
   generalize bs.getD (k * 2 + 1) 0 = x1 at *
   go_wp2_with fail
   go_region_with (go_at_call 84; refine (eqDirtyEntry_any x0 x1 _).mono ?_; rintro e w1 ⟨rfl, hk1⟩)
   all_goals
    have HK1 : Hid (Same w w1) := HK.out.drew.trans hk1
    clear hk1 ha0 hb0 ha1 hb1
    go_wp2
    go_roundw
    case rel => exact ⟨k + 1, by omega, by go_num, HK1⟩
    case measure => simp [intOf]; omega
  ·go_wp2
   go_ret
   exact ⟨rfl, HK.out⟩
theorem eqTxnEntry_any (x0 x1 x2 x3 : Int) (w : World) : Calls Tryz.prog 83 #[.agg #[.int .i64 x0, .int .i64 x1, .int .i64 x2, .int .i64 x3], .agg #[.int .i64 x0, .int .i64 x1, .int .i64 x2, .int .i64 x3]] w fun e w' => e = .returned (.bool true) ∧ Same w w' := by
 go_enter Tryz.func83, Tryz.ntmps83
 go_wp2
 go_ret
 exact ⟨rfl, ((Kept.refl _ _).alloc _).alloc _⟩
theorem eqTxnEntryS_own (x y : FR) (w : World) (hn : (x.bs.length : Int) ≤ 1125899906842624) (hd : x.bs = y.bs) (ha : OwnL w (x.rows 4)) (hb : OwnL w (y.rows 4)) :
  Calls Tryz.prog 66 #[x.v, y.v] w fun e w' => e = .returned (.bool true) ∧ Same w w' := by
 have hla := FR.own_len ha
 have hlb := FR.own_len hb
 have hfa := FR.own_form ha
 have hfb := FR.own_form hb
 obtain ⟨xe, xa, xn, xc, bs⟩ := x
 obtain ⟨ye, ya, yn, yc, bs'⟩ := y
 dsimp only at hn hd hla hlb hfa hfb
 subst hd
 obtain rfl : xn = yn := by omega
 dsimp only [FR.v]
 clear ha hb
 rcases hfa with ⟨rfl, rfl, rfl⟩ | ⟨ga, rfl, hac, hcm, hoa⟩
 ·have hz : (0 : Nat) = 0 := rfl
  go_enter Tryz.func66, Tryz.ntmps66
  go_wp2
  refine wp_loop_rounds 1 ?_
  rw [rounds_succ]
  go_wp2
  go_ret
  exact ⟨rfl, Kept.refl _ _⟩
 rcases hfb with ⟨rfl, rfl, rfl⟩ | ⟨gb, rfl, hbc, hcm', hob⟩
 ·clear hoa
  go_enter Tryz.func66, Tryz.ntmps66
  go_wp2
  refine wp_loop_rounds 1 ?_
  rw [rounds_succ]
  go_wp2
  go_ret
  exact ⟨rfl, Kept.refl _ _⟩
 have HA := (show Hid (OwnF 4 xe w ga xn xc bs) from hoa)
 have HB := (show Hid (OwnF 4 ye w gb xn yc bs) from hob)
 have hxn : (xn : Int) ≤ 1125899906842624 := by omega
 clear hoa hob hla hlb hn
 go_enter Tryz.func66, Tryz.ntmps66
 go_wp2
 go_loopw [5] (fun i wr => ∃ (k : Nat), k ≤ xn ∧ i = .int .i64 k ∧ Hid (Same w wr)) (fun i _ => xn - (intOf i).toNat)
 case atStart => exact ⟨0, Nat.zero_le _, rfl, Kept.refl _ _⟩
 case round =>
  obtain ⟨k, hk, rfl, HK⟩ := hrel
  by_cases hlt : k < xn
  ·have hoa := HA.out.same HK.out
   have hob := HB.out.same HK.out
   have ha0 : wr.cell? ⟨ga, k * 4, none⟩ = some (.int .i64 (bs.getD (k * 4) 0)) := hoa.cell _ (by omega)
   have ha1 : wr.cell? ⟨ga, k * 4 + 1, none⟩ = some (.int .i64 (bs.getD (k * 4 + 1) 0)) := hoa.cell _ (by omega)
   have ha2 : wr.cell? ⟨ga, k * 4 + 2, none⟩ = some (.int .i64 (bs.getD (k * 4 + 2) 0)) := hoa.cell _ (by omega)
   have ha3 : wr.cell? ⟨ga, k * 4 + 3, none⟩ = some (.int .i64 (bs.getD (k * 4 + 3) 0)) := hoa.cell _ (by omega)
   have hb0 : wr.cell? ⟨gb, k * 4, none⟩ = some (.int .i64 (bs.getD (k * 4) 0)) := hob.cell _ (by omega)
   have hb1 : wr.cell? ⟨gb, k * 4 + 1, none⟩ = some (.int .i64 (bs.getD (k * 4 + 1) 0)) := hob.cell _ (by omega)
   have hb2 : wr.cell? ⟨gb, k * 4 + 2, none⟩ = some (.int .i64 (bs.getD (k * 4 + 2) 0)) := hob.cell _ (by omega)
   have hb3 : wr.cell? ⟨gb, k * 4 + 3, none⟩ = some (.int .i64 (bs.getD (k * 4 + 3) 0)) := hob.cell _ (by omega)
   clear hoa hob
   generalize bs.getD (k * 4) 0 = x0 at *
   generalize bs.getD (k * 4 + 1) 0 = x1 at *
   generalize bs.getD (k * 4 + 2) 0 = x2 at *
   generalize bs.getD (k * 4 + 3) 0 = x3 at *
   go_wp2_with fail
   go_region_with (go_at_call 83; refine (eqTxnEntry_any x0 x1 x2 x3 _).mono ?_; rintro e w1 ⟨rfl, hk1⟩)
   all_goals
    have HK1 : Hid (Same w w1) := HK.out.drew.trans hk1
    clear hk1 ha0 hb0 ha1 hb1 ha2 hb2 ha3 hb3
    go_wp2
    go_roundw
    case rel => exact ⟨k + 1, by omega, by go_num, HK1⟩
    case measure => simp [intOf]; omega
  ·go_wp2
   go_ret
   exact ⟨rfl, HK.out⟩
structure StLogRecord where
 kind : Int
 txn : Int
 prev : Int
 page : Int
 slot : Int
 before : StPageRecord
 after : StPageRecord
 uN : Int
 nT : Int
 txns : FR
 dirty : FR
 image : BS
def StLogRecord.val (x : StLogRecord) : Value := .agg #[.int .i64 x.kind, .int .i64 x.txn, .int .i64 x.prev, .int .i64 x.page, .int .i64 x.slot, .bool x.before.used, x.before.data.v, .bool x.after.used, x.after.data.v, .int .i64 x.uN, .int .i64 x.nT, x.txns.v, x.dirty.v, x.image.v]
def StLogRecord.rows (x : StLogRecord) : List Row := x.before.rows ++ (x.after.rows ++ ((x.txns).rows 4 ++ ((x.dirty).rows 2 ++ (x.image.rows))))
def StLogRecord.dat (x : StLogRecord) : Int × Int × Int × Int × Int × (Bool × List Int) × (Bool × List Int) × Int × Int × List Int × List Int × List Int := (x.kind, x.txn, x.prev, x.page, x.slot, x.before.dat, x.after.dat, x.uN, x.nT, x.txns.bs, x.dirty.bs, x.image.bs)
def StLogRecord.size (x : StLogRecord) : Int := x.before.size + x.after.size + (x.txns.bs.length : Int) + (x.dirty.bs.length : Int) + (x.image.bs.length : Int)
theorem StLogRecord.size_le (x : StLogRecord) : 0 ≤ x.size := by
 unfold StLogRecord.size
 have h0 := x.before.size_le
 have h1 := x.after.size_le
 omega
def StLogRecord.marked (x : StLogRecord) (k : Int) : StLogRecord := ⟨x.kind, x.txn, x.prev, x.page, x.slot, x.before.marked (k), x.after.marked (k + x.before.size), x.uN, x.nT, x.txns.marked (k + x.before.size + x.after.size), x.dirty.marked (k + x.before.size + x.after.size + (x.txns.bs.length : Int)), x.image.marked (k + x.before.size + x.after.size + (x.txns.bs.length : Int) + (x.dirty.bs.length : Int))⟩
theorem StLogRecord.foot_marked (x : StLogRecord) (k : Int) (b : Nat) : FootL (x.marked k).rows b ↔ FootL x.rows b := by
 simp only [StLogRecord.rows, FootL_append]
 exact or_congr (StPageRecord.foot_marked _ _ b) (or_congr (StPageRecord.foot_marked _ _ b) (or_congr (FR.foot_marked 4 _ _ b) (or_congr (FR.foot_marked 2 _ _ b) (BS.foot_marked _ _ b))))
def StLogRecord.rd (w : World) (x : StLogRecord) : Prop := StPageRecord.rd w x.before ∧ StPageRecord.rd w x.after ∧ RdF 4 w x.txns ∧ RdF 2 w x.dirty ∧ Rd .u8 w x.image.v x.image.bs
theorem StLogRecord.rd.kept {R : Nat → Prop} {w w' : World} {x : StLogRecord} (h : StLogRecord.rd w x) (hk : Kept R w w') (hr : ∀ b, FootL x.rows b → ¬ R b) : StLogRecord.rd w' x :=
 ⟨StPageRecord.rd.kept (h.1) hk (fun b hb => hr b ((FootL_append _ _ _).2 (.inl hb))), StPageRecord.rd.kept (h.2.1) hk (fun b hb => hr b ((FootL_append _ _ _).2 (.inr ((FootL_append _ _ _).2 (.inl hb))))), RdF.kept (h.2.2.1) hk (fun b hb => hr b ((FootL_append _ _ _).2 (.inr ((FootL_append _ _ _).2 (.inr ((FootL_append _ _ _).2 (.inl ((FootL_one _ _).2 hb)))))))), RdF.kept (h.2.2.2.1) hk (fun b hb => hr b ((FootL_append _ _ _).2 (.inr ((FootL_append _ _ _).2 (.inr ((FootL_append _ _ _).2 (.inr ((FootL_append _ _ _).2 (.inl ((FootL_one _ _).2 hb)))))))))), Rd.kept (h.2.2.2.2) hk (fun b hb => hr b ((FootL_append _ _ _).2 (.inr ((FootL_append _ _ _).2 (.inr ((FootL_append _ _ _).2 (.inr ((FootL_append _ _ _).2 (.inr (((footL_ints _ _ _ _ _).2 hb)))))))))))⟩
theorem StLogRecord.rd.same {w w' : World} {x : StLogRecord} (h : StLogRecord.rd w x) (hk : Same w w') : StLogRecord.rd w' x := h.kept hk (fun _ _ => id)
theorem StLogRecord.own_rd {w : World} {x : StLogRecord} (h : OwnL w x.rows) : StLogRecord.rd w x :=
 ⟨(StPageRecord.own_rd h.left), (StPageRecord.own_rd h.right.left), (FR.own_rd h.right.right.left), (FR.own_rd h.right.right.right.left), (OwnL.of_one h.right.right.right.right).rd⟩
def StLogRecord.szs (x : StLogRecord) : Int := x.before.szs + x.after.szs + (x.txns.n : Int) + (x.dirty.n : Int) + (x.image.bs.length : Int)
theorem eqLogRecord_own (x y : StLogRecord) (w : World) (hn : x.size ≤ 1125899906842624) (hd : x.dat = y.dat) (ha : OwnL w x.rows) (hb : OwnL w y.rows) :
  Calls Tryz.prog 29 #[x.val, y.val] w fun e w' => e = .returned (.bool true) ∧ Same w w' := by
 obtain ⟨xkind, xtxn, xprev, xpage, xslot, ⟨xbU, ⟨xbDe, xbDa, xbDc, xbDb⟩⟩, ⟨xaU, ⟨xaDe, xaDa, xaDc, xaDb⟩⟩, xuN, xnT, ⟨xtXe, xtXa, xtXn, xtXc, xtXb⟩, ⟨xdYe, xdYa, xdYn, xdYc, xdYb⟩, ⟨xiMe, xiMa, xiMc, xiMb⟩⟩ := x
 obtain ⟨ykind, ytxn, yprev, ypage, yslot, ⟨ybU, ⟨ybDe, ybDa, ybDc, ybDb⟩⟩, ⟨yaU, ⟨yaDe, yaDa, yaDc, yaDb⟩⟩, yuN, ynT, ⟨ytXe, ytXa, ytXn, ytXc, ytXb⟩, ⟨ydYe, ydYa, ydYn, ydYc, ydYb⟩, ⟨yiMe, yiMa, yiMc, yiMb⟩⟩ := y
 simp only [StLogRecord.dat, StPageRecord.dat, Prod.mk.injEq] at hd
 obtain ⟨rfl, rfl, rfl, rfl, rfl, ⟨rfl, rfl⟩, ⟨rfl, rfl⟩, rfl, rfl, rfl, rfl, rfl⟩ := hd
 simp only [StLogRecord.size, StPageRecord.size] at hn
 have Hx0 := (show Hid (OwnL w (StPageRecord.rows ⟨xbU, ⟨xbDe, xbDa, xbDc, xbDb⟩⟩)) from ha.left)
 have Hy0 := (show Hid (OwnL w (StPageRecord.rows ⟨xbU, ⟨ybDe, ybDa, ybDc, xbDb⟩⟩)) from hb.left)
 have Hx1 := (show Hid (OwnL w (StPageRecord.rows ⟨xaU, ⟨xaDe, xaDa, xaDc, xaDb⟩⟩)) from ha.right.left)
 have Hy1 := (show Hid (OwnL w (StPageRecord.rows ⟨xaU, ⟨yaDe, yaDa, yaDc, xaDb⟩⟩)) from hb.right.left)
 have Hx2 := (show Hid (OwnL w [⟨xtXe, 4, .slice xtXa xtXn xtXc, xtXn, vals .i64 xtXb⟩]) from ha.right.right.left)
 have Hy2 := (show Hid (OwnL w [⟨ytXe, 4, .slice ytXa ytXn ytXc, ytXn, vals .i64 xtXb⟩]) from hb.right.right.left)
 have Hx3 := (show Hid (OwnL w [⟨xdYe, 2, .slice xdYa xdYn xdYc, xdYn, vals .i64 xdYb⟩]) from ha.right.right.right.left)
 have Hy3 := (show Hid (OwnL w [⟨ydYe, 2, .slice ydYa ydYn ydYc, ydYn, vals .i64 xdYb⟩]) from hb.right.right.right.left)
 have Hx4 := (show Hid (OwnL w [ints xiMe .u8 (.slice xiMa xiMb.length xiMc) xiMb]) from ha.right.right.right.right)
 have Hy4 := (show Hid (OwnL w [ints yiMe .u8 (.slice yiMa xiMb.length yiMc) xiMb]) from hb.right.right.right.right)
 clear ha hb
 dsimp only [StLogRecord.val, StPageRecord.val, BS.v, FR.v]
 go_enter Tryz.func29, Tryz.ntmps29
 have hk0 : Same w ((w.alloc (.cells #[.int .i64 xkind, .int .i64 xtxn, .int .i64 xprev, .int .i64 xpage, .int .i64 xslot, .bool xbU, .slice xbDa xbDb.length xbDc, .bool xaU, .slice xaDa xaDb.length xaDc, .int .i64 xuN, .int .i64 xnT, .slice xtXa xtXn xtXc, .slice xdYa xdYn xdYc, .slice xiMa xiMb.length xiMc] 28)).alloc (.cells #[.int .i64 xkind, .int .i64 xtxn, .int .i64 xprev, .int .i64 xpage, .int .i64 xslot, .bool xbU, .slice ybDa xbDb.length ybDc, .bool xaU, .slice yaDa xaDb.length yaDc, .int .i64 xuN, .int .i64 xnT, .slice ytXa ytXn ytXc, .slice ydYa ydYn ydYc, .slice yiMa xiMb.length yiMc] 28)) := ((Kept.refl _ _).alloc _).alloc _
 have HK0 := (show Hid (Same w _) from hk0)
 obtain ⟨_, HBx0, HBy0⟩ := new2 w [.int .i64 xkind, .int .i64 xtxn, .int .i64 xprev, .int .i64 xpage, .int .i64 xslot, .bool xbU, .slice xbDa xbDb.length xbDc, .bool xaU, .slice xaDa xaDb.length xaDc, .int .i64 xuN, .int .i64 xnT, .slice xtXa xtXn xtXc, .slice xdYa xdYn xdYc, .slice xiMa xiMb.length xiMc] 28 [.int .i64 xkind, .int .i64 xtxn, .int .i64 xprev, .int .i64 xpage, .int .i64 xslot, .bool xbU, .slice ybDa xbDb.length ybDc, .bool xaU, .slice yaDa xaDb.length yaDc, .int .i64 xuN, .int .i64 xnT, .slice ytXa ytXn ytXc, .slice ydYa ydYn ydYc, .slice yiMa xiMb.length yiMc] 28
 clear hk0
 go_wp2_with fail
 refine (eqPageRecord_own ⟨xbU, ⟨xbDe, xbDa, xbDc, xbDb⟩⟩ ⟨xbU, ⟨ybDe, ybDa, ybDc, xbDb⟩⟩ _ (by simp only [StPageRecord.size]; omega) rfl (Hx0.out.same HK0.out) (Hy0.out.same HK0.out)).mono ?_
 rintro e w1 ⟨rfl, hk⟩
 have HK1 := hid (HK0.out.trans hk)
 have HBx1 := hid (HBx0.out.same hk)
 have HBy1 := hid (HBy0.out.same hk)
 clear hk HK0 HBx0 HBy0
 have dx0_7 := HBx1.out.c7
 have dx0_8 := HBx1.out.c8
 have dx0_9 := HBx1.out.c9
 have dx0_10 := HBx1.out.c10
 have dx0_11 := HBx1.out.c11
 have dx0_12 := HBx1.out.c12
 have dx0_13 := HBx1.out.c13
 have dy0_7 := HBy1.out.c7
 have dy0_8 := HBy1.out.c8
 have dy0_9 := HBy1.out.c9
 have dy0_10 := HBy1.out.c10
 have dy0_11 := HBy1.out.c11
 have dy0_12 := HBy1.out.c12
 have dy0_13 := HBy1.out.c13
 go_wp2_with fail
 refine (eqPageRecord_own ⟨xaU, ⟨xaDe, xaDa, xaDc, xaDb⟩⟩ ⟨xaU, ⟨yaDe, yaDa, yaDc, xaDb⟩⟩ _ (by simp only [StPageRecord.size]; omega) rfl (Hx1.out.same HK1.out) (Hy1.out.same HK1.out)).mono ?_
 rintro e w2 ⟨rfl, hk⟩
 have HK2 := hid (HK1.out.trans hk)
 have HBx2 := hid (HBx1.out.same hk)
 have HBy2 := hid (HBy1.out.same hk)
 clear hk HK1 HBx1 HBy1
 have dx1_9 := HBx2.out.c9
 have dx1_10 := HBx2.out.c10
 have dx1_11 := HBx2.out.c11
 have dx1_12 := HBx2.out.c12
 have dx1_13 := HBx2.out.c13
 have dy1_9 := HBy2.out.c9
 have dy1_10 := HBy2.out.c10
 have dy1_11 := HBy2.out.c11
 have dy1_12 := HBy2.out.c12
 have dy1_13 := HBy2.out.c13
 go_wp2_with fail
 refine (eqTxnEntryS_own ⟨xtXe, xtXa, xtXn, xtXc, xtXb⟩ ⟨ytXe, ytXa, ytXn, ytXc, xtXb⟩ _ (by dsimp only; omega) rfl (Hx2.out.same HK2.out) (Hy2.out.same HK2.out)).mono ?_
 rintro e w3 ⟨rfl, hk⟩
 have HK3 := hid (HK2.out.trans hk)
 have HBx3 := hid (HBx2.out.same hk)
 have HBy3 := hid (HBy2.out.same hk)
 clear hk HK2 HBx2 HBy2
 have dx2_12 := HBx3.out.c12
 have dx2_13 := HBx3.out.c13
 have dy2_12 := HBy3.out.c12
 have dy2_13 := HBy3.out.c13
 go_wp2_with fail
 refine (eqDirtyEntryS_own ⟨xdYe, xdYa, xdYn, xdYc, xdYb⟩ ⟨ydYe, ydYa, ydYn, ydYc, xdYb⟩ _ (by dsimp only; omega) rfl (Hx3.out.same HK3.out) (Hy3.out.same HK3.out)).mono ?_
 rintro e w4 ⟨rfl, hk⟩
 have HK4 := hid (HK3.out.trans hk)
 have HBx4 := hid (HBx3.out.same hk)
 have HBy4 := hid (HBy3.out.same hk)
 clear hk HK3 HBx3 HBy3
 have dx3_13 := HBx4.out.c13
 have dy3_13 := HBy4.out.c13
 go_wp2_with fail
 refine (eqByteS_own 0 _ _ xiMb _ (by omega) (Hx4.out.of_one.same HK4.out) (Hy4.out.of_one.same HK4.out)).mono ?_
 rintro e w5 ⟨rfl, nn, hww⟩
 have hk : Same w4 w5 := by rw [hww]; exact (Kept.refl _ _).drewN _
 clear hww
 have HK5 := hid (HK4.out.trans hk)
 have HBx5 := hid (HBx4.out.same hk)
 have HBy5 := hid (HBy4.out.same hk)
 clear hk HK4 HBx4 HBy4
 go_wp2
 go_ret
 exact ⟨rfl, HK5.out⟩
end Go.Proofs.YtaeikeglaobeeaaGreat
