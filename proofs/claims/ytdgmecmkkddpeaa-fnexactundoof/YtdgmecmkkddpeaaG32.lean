import Derived.Test.YtdgmecmkkddpeaaG18
import Derived.Test.YtdgmecmkkddpeaaG09
import Derived.Test.YtdgmecmkkddpeaaG20
import Derived.Deep.RegionWith
import Derived.Deep.DeepMust
namespace Go.Proofs.Ytdgmecmkkddpeaa
set_option maxRecDepth 100000
set_option maxHeartbeats 16000000
set_option linter.unusedVariables false
set_option linter.unusedSimpArgs false
open Go.RowKit
theorem l4CopySlot_any (u : Bool) (dv : Value) (d : List Int) (w : World) (hd : d.length ≤ 1099511627776) (hr : Rd .u8 w dv d) :
  Calls Try.prog 48 #[.agg #[.bool u, dv]] w fun e w' => ∃ a n c, e = .returned (.agg #[.bool u, .slice a n c]) ∧ Own 0 5 .u8 w' (.slice a n c) d ∧ (∀ b, (Value.slice a n c).ownBlock = some b → w.heap.size ≤ b) ∧ Same w w' := by
 obtain ⟨da, dc, rfl⟩ := hr.form
 have HR := hid hr
 clear hr
 obtain ⟨HK0, HA, HB⟩ := new2 w [.bool u, .slice da d.length dc] 31 [.bool false, .slice none 0 0] 31
 go_enter Try.func48, Try.ntmps48
 go_wp2_with fail
 let Y1 : World → Prop := fun wx : World => wx.cell? ⟨w.heap.size, 0, none⟩ = some (.bool u) ∧ wx.cell? ⟨w.heap.size, 1, none⟩ = some (.slice da d.length dc)
 have hS : Y1 ((w.alloc (.cells #[.bool u, .slice da d.length dc] 31)).alloc (.cells #[.bool false, .slice none 0 0] 31)).drew := by exact ⟨HA.out.cell 0, HA.out.cell 1⟩
 refine wp_region_V Y1 6 7 rfl (by kernel_rfl) ?_
 refine tk 0 3 hS ?_
 refine tk 1 4 hS ?_
 refine tk 2 5 hS ?_
 refine tk 3 6 hS ?_
 refine wpAnyV_one (i := 4) (by kernel_rfl) rfl (fun K hK => ?_)
 go_simp
 refine (l1Copy_any _ d _ hd (HR.out.same HK0.out.drew)).mono ?_
 rintro e w1 ⟨a1, n1, c1, rfl, hown, hf, hk1⟩
 have HO1 := hid hown
 have HF1 := hid hf
 have HK1 := hid hk1
 have A1 := HA.out.drew.same hk1
 have B1 := HB.out.drew.same hk1
 have d0 := B1.c0
 have d1 := B1.c1
 have f0 := B1.frozen 0
 have f1 := B1.frozen 1
 clear hown hf hk1
 have hS : Y1 w1 := by exact ⟨A1.cell 0, A1.cell 1⟩
 refine hK.out _ _ (fun _ => hS) ?_
 clear hK K
 try simp only [Act.put, sA, s0, sS]
 refine tk 5 8 hS ?_
 refine wpAnyV_one (i := 6) (by kernel_rfl) rfl (fun K hK => ?_)
 go_simp
 refine hK.out _ _ (fun h => absurd rfl h) ?_
 clear hK K
 refine wpAnyV_done (by kernel_rfl) ?_
 try simp only [Act.put, sA, s0, sS]
 go_wp2
 have hz0 := HK0.out.size
 have hz1 := HK1.out.size
 have hz2 := HB.out.lt
 simp only [World.size_drew] at hz1
 refine bodyPost_ret (v := .agg #[.bool u, .slice a1 n1 c1]) (by simp [results, Try.results48, go_sem, d0, d1]) rfl ⟨a1, n1, c1, rfl, HO1.out.kept (R := fun b => b = w.heap.size + 1) (((Kept.refl (fun b => b = w.heap.size + 1) _).setCell (p := ⟨w.heap.size + 1, 0, none⟩) (.inr rfl) _).setCell (p := ⟨w.heap.size + 1, 1, none⟩) (.inr rfl) _) (fun b hb e => ?_), fun b hb => ?_, ((HK0.out.drew.trans HK1.out).setCell (p := ⟨w.heap.size + 1, 0, none⟩) (.inl (Nat.le_add_right _ _)) _).setCell (p := ⟨w.heap.size + 1, 1, none⟩) (.inl (Nat.le_add_right _ _)) _⟩
 ·have := HF1.out b hb
  simp only [World.size_drew] at this
  omega
 ·have := HF1.out b hb
  simp only [World.size_drew] at this
  omega
theorem cloneT_nil (w : World) : Calls Try.prog 80 #[.slice none 0 0] w fun e w' => e = .returned (.slice none 0 0) ∧ Same w w' := by
 have hnil := fun (wx : World) (a : Option Addr) (n c : Nat) => Lib.run_eql_slice_nil (P := Try.prog) wx 32 66 a n c 0 0 Try.underlying32
 go_enter Try.func80, Try.ntmps80
 go_wp2
 go_ret
 exact ⟨rfl, Kept.refl _ _⟩
theorem cloneD_nil (w : World) : Calls Try.prog 81 #[.slice none 0 0] w fun e w' => e = .returned (.slice none 0 0) ∧ Same w w' := by
 have hnil := fun (wx : World) (a : Option Addr) (n c : Nat) => Lib.run_eql_slice_nil (P := Try.prog) wx 33 68 a n c 0 0 Try.underlying33
 go_enter Try.func81, Try.ntmps81
 go_wp2
 go_ret
 exact ⟨rfl, Kept.refl _ _⟩
theorem nilRow_own (w : World) (e : TypeId) (m : Nat) : OwnL w [⟨e, m, .slice none 0 0, 0, vals .i64 []⟩] := ⟨fun r hr => by rw [List.mem_singleton.1 hr]; exact World.ownsRow_nil _ _ _ _, List.pairwise_singleton _ _⟩
theorem nilRow_foot (e : TypeId) (m b : Nat) : ¬ FootL [⟨e, m, .slice none 0 0, 0, vals .i64 []⟩] b := fun h => by simp [FootL, Value.ownBlock] at h
theorem recRows_own {w : World} {bu au : Bool} {a1 a2 a3 : Option Addr} {c1 c2 c3 : Nat} {b1 b2 b3 : List Int} {e1 e2 e3 : TypeId} {k t p g s u n : Int}
  (h1 : Own 0 e1 .u8 w (.slice a1 b1.length c1) b1) (h2 : Own 0 e2 .u8 w (.slice a2 b2.length c2) b2) (h3 : Own 0 e3 .u8 w (.slice a3 b3.length c3) b3)
  (d12 : ∀ b, (Value.slice a1 b1.length c1).ownBlock = some b → ¬ (Value.slice a2 b2.length c2).ownBlock = some b) (d13 : ∀ b, (Value.slice a1 b1.length c1).ownBlock = some b → ¬ (Value.slice a3 b3.length c3).ownBlock = some b) (d23 : ∀ b, (Value.slice a2 b2.length c2).ownBlock = some b → ¬ (Value.slice a3 b3.length c3).ownBlock = some b) :
  OwnL w (StLogRecord.rows ⟨k, t, p, g, s, ⟨bu, ⟨e1, a1, c1, b1⟩⟩, ⟨au, ⟨e2, a2, c2, b2⟩⟩, u, n, ⟨0, none, 0, 0, []⟩, ⟨0, none, 0, 0, []⟩, ⟨e3, a3, c3, b3⟩⟩) := by
 have F1 : ∀ b, FootL (StPageRecord.rows ⟨bu, ⟨e1, a1, c1, b1⟩⟩) b → (Value.slice a1 b1.length c1).ownBlock = some b := fun b hb => (footL_ints _ _ _ _ _).1 hb
 have F2 : ∀ b, FootL (StPageRecord.rows ⟨au, ⟨e2, a2, c2, b2⟩⟩) b → (Value.slice a2 b2.length c2).ownBlock = some b := fun b hb => (footL_ints _ _ _ _ _).1 hb
 have F3 : ∀ b, FootL [ints e3 .u8 (.slice a3 b3.length c3) b3] b → (Value.slice a3 b3.length c3).ownBlock = some b := fun b hb => (footL_ints _ _ _ _ _).1 hb
 have H4 : OwnL w (FR.rows 2 ⟨0, none, 0, 0, []⟩ ++ [ints e3 .u8 (.slice a3 b3.length c3) b3]) := (nilRow_own w 0 2).append (OwnL.one h3) (fun b hb => absurd hb (nilRow_foot 0 2 b))
 have G4 : ∀ b, FootL (FR.rows 2 ⟨0, none, 0, 0, []⟩ ++ [ints e3 .u8 (.slice a3 b3.length c3) b3]) b → (Value.slice a3 b3.length c3).ownBlock = some b := fun b hb => ((FootL_append _ _ _).1 hb).elim (fun h => absurd h (nilRow_foot 0 2 b)) (F3 b)
 have H3 : OwnL w (FR.rows 4 ⟨0, none, 0, 0, []⟩ ++ (FR.rows 2 ⟨0, none, 0, 0, []⟩ ++ [ints e3 .u8 (.slice a3 b3.length c3) b3])) := (nilRow_own w 0 4).append H4 (fun b hb => absurd hb (nilRow_foot 0 4 b))
 have G3 : ∀ b, FootL (FR.rows 4 ⟨0, none, 0, 0, []⟩ ++ (FR.rows 2 ⟨0, none, 0, 0, []⟩ ++ [ints e3 .u8 (.slice a3 b3.length c3) b3])) b → (Value.slice a3 b3.length c3).ownBlock = some b := fun b hb => ((FootL_append _ _ _).1 hb).elim (fun h => absurd h (nilRow_foot 0 4 b)) (G4 b)
 refine OwnL.append (OwnL.one h1) (OwnL.append (OwnL.one h2) H3 (fun b hb hc => d23 b (F2 b hb) (G3 b hc))) (fun b hb hc => ?_)
 rcases (FootL_append _ _ _).1 hc with hc | hc
 ·exact d12 b (F1 b hb) (F2 b hc)
 ·exact d13 b (F1 b hb) (G3 b hc)
theorem recRows_foot {bu au : Bool} {a1 a2 a3 : Option Addr} {c1 c2 c3 : Nat} {b1 b2 b3 : List Int} {e1 e2 e3 : TypeId} {k t p g s u n : Int} {b : Nat}
  (h : FootL (StLogRecord.rows ⟨k, t, p, g, s, ⟨bu, ⟨e1, a1, c1, b1⟩⟩, ⟨au, ⟨e2, a2, c2, b2⟩⟩, u, n, ⟨0, none, 0, 0, []⟩, ⟨0, none, 0, 0, []⟩, ⟨e3, a3, c3, b3⟩⟩) b) :
  (Value.slice a1 b1.length c1).ownBlock = some b ∨ (Value.slice a2 b2.length c2).ownBlock = some b ∨ (Value.slice a3 b3.length c3).ownBlock = some b := by
 rcases (FootL_append _ _ _).1 h with h | h
 ·exact .inl ((footL_ints _ _ _ _ _).1 h)
 rcases (FootL_append _ _ _).1 h with h | h
 ·exact .inr (.inl ((footL_ints _ _ _ _ _).1 h))
 rcases (FootL_append _ _ _).1 h with h | h
 ·exact absurd h (nilRow_foot 0 4 b)
 rcases (FootL_append _ _ _).1 h with h | h
 ·exact absurd h (nilRow_foot 0 2 b)
 ·exact .inr (.inr ((footL_ints _ _ _ _ _).1 h))
def undoFd (d : Int × Int × Int × Int × Int × (Bool × List Int) × (Bool × List Int) × Int × Int × List Int × List Int × List Int) : Int × Int × Int × Int × Int × (Bool × List Int) × (Bool × List Int) × Int × Int × List Int × List Int × List Int := if d.1 = 1 ∧ recFd d = 0 then (2, d.2.1, 0, d.2.2.2.1, d.2.2.2.2.1, (false, []), d.2.2.2.2.2.1, d.2.2.1, 0, [], [], []) else (0, 0, 0, 0, 0, (false, []), (false, []), 0, 0, [], [], [])
theorem undoFd_yes {d : Int × Int × Int × Int × Int × (Bool × List Int) × (Bool × List Int) × Int × Int × List Int × List Int × List Int} (h : d.1 = 1 ∧ recFd d = 0) : undoFd d = (2, d.2.1, 0, d.2.2.2.1, d.2.2.2.2.1, (false, []), d.2.2.2.2.2.1, d.2.2.1, 0, [], [], []) := if_pos h
theorem undoFd_no {d : Int × Int × Int × Int × Int × (Bool × List Int) × (Bool × List Int) × Int × Int × List Int × List Int × List Int} (h : ¬ (d.1 = 1 ∧ recFd d = 0)) : undoFd d = (0, 0, 0, 0, 0, (false, []), (false, []), 0, 0, [], [], []) := if_neg h
theorem zeroLR_own (w : World) : OwnL w (StLogRecord.rows ⟨0, 0, 0, 0, 0, ⟨false, ⟨0, none, 0, []⟩⟩, ⟨false, ⟨0, none, 0, []⟩⟩, 0, 0, ⟨0, none, 0, 0, []⟩, ⟨0, none, 0, 0, []⟩, ⟨0, none, 0, []⟩⟩) := recRows_own (Own.nil 0 0 .u8 w) (Own.nil 0 0 .u8 w) (Own.nil 0 0 .u8 w) (fun b h => by simp [Value.ownBlock] at h) (fun b h => by simp [Value.ownBlock] at h) (fun b h => by simp [Value.ownBlock] at h)
theorem zeroLR_foot (b : Nat) : ¬ FootL (StLogRecord.rows ⟨0, 0, 0, 0, 0, ⟨false, ⟨0, none, 0, []⟩⟩, ⟨false, ⟨0, none, 0, []⟩⟩, 0, 0, ⟨0, none, 0, 0, []⟩, ⟨0, none, 0, 0, []⟩, ⟨0, none, 0, []⟩⟩) b := fun h => by rcases recRows_foot h with h | h | h <;> simp [Value.ownBlock] at h
theorem Own.sized' {base : Nat} {e : TypeId} {k : IntKind} {w : World} {aa : Option Addr} {nn cc : Nat} {bs : List Int} (h : Own base e k w (.slice aa nn cc) bs) : nn = bs.length := by
 rcases h.form with ⟨hh, rfl⟩ | ⟨g, cap, hh, _⟩ <;> cases hh <;> rfl
theorem size_setC (w : World) (p : Addr) (v : Value) : (w.setCell p v).heap.size = w.heap.size := by simp [World.setCell]
theorem ownRec_any (k t p g s : Int) (bu : Bool) (ba : Option Addr) (bc : Nat) (bb : List Int) (au : Bool) (aa : Option Addr) (ac : Nat) (ab : List Int) (u n : Int) (ia : Option Addr) (ic : Nat) (ib : List Int) (w : World) (hlb : bb.length ≤ 1099511627776) (hla : ab.length ≤ 1099511627776) (hli : ib.length ≤ 1099511627776) (hrb : Rd .u8 w (.slice ba bb.length bc) bb) (hra : Rd .u8 w (.slice aa ab.length ac) ab) (hri : Rd .u8 w (.slice ia ib.length ic) ib) :
  Calls Try.prog 49 #[.agg #[.int .i64 k, .int .i64 t, .int .i64 p, .int .i64 g, .int .i64 s, .bool bu, .slice ba bb.length bc, .bool au, .slice aa ab.length ac, .int .i64 u, .int .i64 n, .slice none 0 0, .slice none 0 0, .slice ia ib.length ic]] w fun e w' => ∃ a1 a2 a5 c1 c2 c5, e = .returned (.agg #[.int .i64 k, .int .i64 t, .int .i64 p, .int .i64 g, .int .i64 s, .bool bu, .slice a1 bb.length c1, .bool au, .slice a2 ab.length c2, .int .i64 u, .int .i64 n, .slice none 0 0, .slice none 0 0, .slice a5 ib.length c5]) ∧ Own 0 5 .u8 w' (.slice a1 bb.length c1) bb ∧ Own 0 5 .u8 w' (.slice a2 ab.length c2) ab ∧ Own 0 5 .u8 w' (.slice a5 ib.length c5) ib ∧
   (∀ b, (Value.slice a1 bb.length c1).ownBlock = some b → w.heap.size ≤ b) ∧ ((∀ b, (Value.slice a2 ab.length c2).ownBlock = some b → w.heap.size ≤ b) ∧ (∀ b, (Value.slice a5 ib.length c5).ownBlock = some b → w.heap.size ≤ b)) ∧
   ((∀ b, (Value.slice a1 bb.length c1).ownBlock = some b → ¬ (Value.slice a2 ab.length c2).ownBlock = some b) ∧ (∀ b, (Value.slice a1 bb.length c1).ownBlock = some b → ¬ (Value.slice a5 ib.length c5).ownBlock = some b) ∧ (∀ b, (Value.slice a2 ab.length c2).ownBlock = some b → ¬ (Value.slice a5 ib.length c5).ownBlock = some b)) ∧ Same w w' := by
 have HRb := hid hrb
 have HRa := hid hra
 have HRi := hid hri
 clear hrb hra hri
 obtain ⟨HK0, HA0, HB0⟩ := new2 w [.int .i64 k, .int .i64 t, .int .i64 p, .int .i64 g, .int .i64 s, .bool bu, .slice ba bb.length bc, .bool au, .slice aa ab.length ac, .int .i64 u, .int .i64 n, .slice none 0 0, .slice none 0 0, .slice ia ib.length ic] 35 [.int .i64 0, .int .i64 0, .int .i64 0, .int .i64 0, .int .i64 0, .bool false, .slice none 0 0, .bool false, .slice none 0 0, .int .i64 0, .int .i64 0, .slice none 0 0, .slice none 0 0, .slice none 0 0] 35
 have A0 := HA0.out
 have B0 := HB0.out
 have hz0 := B0.lt
 clear HA0 HB0
 have hzA := A0.lt
 go_enter Try.func49, Try.ntmps49
 go_wp2_with fail
 refine (clone_any _ bb _ hlb (HRb.out.same HK0.out)).mono ?_
 rintro e w1 ⟨a1, n1, c1, rfl, hown, hf, hk⟩
 obtain rfl := hown.sized'
 have HO1_1 := (show Hid (Own 0 5 .u8 w1 (.slice a1 bb.length c1) bb) from hown)
 have HF1 := (show Hid (∀ b, (Value.slice a1 bb.length c1).ownBlock = some b → w.heap.size + 2 ≤ b ∧ ((w.alloc (.cells #[.int .i64 k, .int .i64 t, .int .i64 p, .int .i64 g, .int .i64 s, .bool bu, .slice ba bb.length bc, .bool au, .slice aa ab.length ac, .int .i64 u, .int .i64 n, .slice none 0 0, .slice none 0 0, .slice ia ib.length ic] 35)).alloc (.cells #[.int .i64 0, .int .i64 0, .int .i64 0, .int .i64 0, .int .i64 0, .bool false, .slice none 0 0, .bool false, .slice none 0 0, .int .i64 0, .int .i64 0, .slice none 0 0, .slice none 0 0, .slice none 0 0] 35)).heap.size ≤ b ∧ b < w1.heap.size) from fun b hb => ⟨by have := hf b hb; have h := hf b hb; simp only [World.size_alloc] at h; omega, hf b hb, (hown.lt b hb).2⟩)
 have A1 := A0.same hk
 have B1 := B0.same hk
 have HK1 := hid (HK0.out.trans hk)
 have hzk1 := hk.size
 obtain ⟨d1_0, d1_1, d1_2, d1_3, d1_4, d1_5, d1_6, d1_7, d1_8, d1_9, d1_10, d1_11, d1_12, d1_13⟩ := A1.all14
 have f1_6 := A1.frozen 6
 clear hk hown hf
 have A1S : Blk (w1.setCell ⟨w.heap.size, 6, none⟩ (.slice a1 bb.length c1)) w.heap.size 35 [.int .i64 k, .int .i64 t, .int .i64 p, .int .i64 g, .int .i64 s, .bool bu, .slice a1 bb.length c1, .bool au, .slice aa ab.length ac, .int .i64 u, .int .i64 n, .slice none 0 0, .slice none 0 0, .slice ia ib.length ic] := A1.stored 6 (.slice a1 bb.length c1)
 have B1S : Blk (w1.setCell ⟨w.heap.size, 6, none⟩ (.slice a1 bb.length c1)) (w.heap.size + 1) 35 [.int .i64 0, .int .i64 0, .int .i64 0, .int .i64 0, .int .i64 0, .bool false, .slice none 0 0, .bool false, .slice none 0 0, .int .i64 0, .int .i64 0, .slice none 0 0, .slice none 0 0, .slice none 0 0] := B1.other (by simp) _
 have HK1S := (show Hid (Same w (w1.setCell ⟨w.heap.size, 6, none⟩ (.slice a1 bb.length c1))) from HK1.out.setCell (p := ⟨w.heap.size, 6, none⟩) (.inl (Nat.le_refl _)) _)
 have hzs1 : w.heap.size + 2 ≤ (w1.setCell ⟨w.heap.size, 6, none⟩ (.slice a1 bb.length c1)).heap.size := by rw [size_setC]; simp only [World.size_alloc] at hzk1; omega
 have HO1_1S := (show Hid (Own 0 5 .u8 (w1.setCell ⟨w.heap.size, 6, none⟩ (.slice a1 bb.length c1)) (.slice a1 bb.length c1) bb) from HO1_1.out.kept (R := fun b => b = w.heap.size) ((Kept.refl (fun b => b = w.heap.size) _).setCell (p := ⟨w.heap.size, 6, none⟩) (.inr rfl) _) (fun b hb e => by have := HF1.out b hb; omega))
 go_wp2_with fail
 refine (clone_any _ ab _ hla (HRa.out.same HK1S.out)).mono ?_
 rintro e w2 ⟨a2, n2, c2, rfl, hown, hf, hk⟩
 obtain rfl := hown.sized'
 have HO2_2 := (show Hid (Own 0 5 .u8 w2 (.slice a2 ab.length c2) ab) from hown)
 have HF2 := (show Hid (∀ b, (Value.slice a2 ab.length c2).ownBlock = some b → w.heap.size + 2 ≤ b ∧ (w1.setCell ⟨w.heap.size, 6, none⟩ (.slice a1 bb.length c1)).heap.size ≤ b ∧ b < w2.heap.size) from fun b hb => ⟨by have := hf b hb; have := hzs1; omega, hf b hb, (hown.lt b hb).2⟩)
 have HO1_2 := (show Hid (Own 0 5 .u8 w2 (.slice a1 bb.length c1) bb) from HO1_1S.out.same hk)
 have A2 := A1S.same hk
 have B2 := B1S.same hk
 have HK2 := hid (HK1S.out.trans hk)
 have hzk2 := hk.size
 obtain ⟨d2_0, d2_1, d2_2, d2_3, d2_4, d2_5, d2_6, d2_7, d2_8, d2_9, d2_10, d2_11, d2_12, d2_13⟩ := A2.all14
 have f2_8 := A2.frozen 8
 clear hk hown hf
 have A2S : Blk (w2.setCell ⟨w.heap.size, 8, none⟩ (.slice a2 ab.length c2)) w.heap.size 35 [.int .i64 k, .int .i64 t, .int .i64 p, .int .i64 g, .int .i64 s, .bool bu, .slice a1 bb.length c1, .bool au, .slice a2 ab.length c2, .int .i64 u, .int .i64 n, .slice none 0 0, .slice none 0 0, .slice ia ib.length ic] := A2.stored 8 (.slice a2 ab.length c2)
 have B2S : Blk (w2.setCell ⟨w.heap.size, 8, none⟩ (.slice a2 ab.length c2)) (w.heap.size + 1) 35 [.int .i64 0, .int .i64 0, .int .i64 0, .int .i64 0, .int .i64 0, .bool false, .slice none 0 0, .bool false, .slice none 0 0, .int .i64 0, .int .i64 0, .slice none 0 0, .slice none 0 0, .slice none 0 0] := B2.other (by simp) _
 have HK2S := (show Hid (Same w (w2.setCell ⟨w.heap.size, 8, none⟩ (.slice a2 ab.length c2))) from HK2.out.setCell (p := ⟨w.heap.size, 8, none⟩) (.inl (Nat.le_refl _)) _)
 have hzs2 : w.heap.size + 2 ≤ (w2.setCell ⟨w.heap.size, 8, none⟩ (.slice a2 ab.length c2)).heap.size := by rw [size_setC]; omega
 have HO1_2S := (show Hid (Own 0 5 .u8 (w2.setCell ⟨w.heap.size, 8, none⟩ (.slice a2 ab.length c2)) (.slice a1 bb.length c1) bb) from HO1_2.out.kept (R := fun b => b = w.heap.size) ((Kept.refl (fun b => b = w.heap.size) _).setCell (p := ⟨w.heap.size, 8, none⟩) (.inr rfl) _) (fun b hb e => by have := HF1.out b hb; omega))
 have HO2_2S := (show Hid (Own 0 5 .u8 (w2.setCell ⟨w.heap.size, 8, none⟩ (.slice a2 ab.length c2)) (.slice a2 ab.length c2) ab) from HO2_2.out.kept (R := fun b => b = w.heap.size) ((Kept.refl (fun b => b = w.heap.size) _).setCell (p := ⟨w.heap.size, 8, none⟩) (.inr rfl) _) (fun b hb e => by have := HF2.out b hb; omega))
 go_wp2_with fail
 refine (cloneT_nil _).mono ?_
 rintro e w3 ⟨rfl, hk⟩
 have HO1_3 := (show Hid (Own 0 5 .u8 w3 (.slice a1 bb.length c1) bb) from HO1_2S.out.same hk)
 have HO2_3 := (show Hid (Own 0 5 .u8 w3 (.slice a2 ab.length c2) ab) from HO2_2S.out.same hk)
 have A3 := A2S.same hk
 have B3 := B2S.same hk
 have HK3 := hid (HK2S.out.trans hk)
 have hzk3 := hk.size
 obtain ⟨d3_0, d3_1, d3_2, d3_3, d3_4, d3_5, d3_6, d3_7, d3_8, d3_9, d3_10, d3_11, d3_12, d3_13⟩ := A3.all14
 have f3_11 := A3.frozen 11
 clear hk
 have A3S : Blk (w3.setCell ⟨w.heap.size, 11, none⟩ (.slice none 0 0)) w.heap.size 35 [.int .i64 k, .int .i64 t, .int .i64 p, .int .i64 g, .int .i64 s, .bool bu, .slice a1 bb.length c1, .bool au, .slice a2 ab.length c2, .int .i64 u, .int .i64 n, .slice none 0 0, .slice none 0 0, .slice ia ib.length ic] := A3.stored 11 (.slice none 0 0)
 have B3S : Blk (w3.setCell ⟨w.heap.size, 11, none⟩ (.slice none 0 0)) (w.heap.size + 1) 35 [.int .i64 0, .int .i64 0, .int .i64 0, .int .i64 0, .int .i64 0, .bool false, .slice none 0 0, .bool false, .slice none 0 0, .int .i64 0, .int .i64 0, .slice none 0 0, .slice none 0 0, .slice none 0 0] := B3.other (by simp) _
 have HK3S := (show Hid (Same w (w3.setCell ⟨w.heap.size, 11, none⟩ (.slice none 0 0))) from HK3.out.setCell (p := ⟨w.heap.size, 11, none⟩) (.inl (Nat.le_refl _)) _)
 have hzs3 : w.heap.size + 2 ≤ (w3.setCell ⟨w.heap.size, 11, none⟩ (.slice none 0 0)).heap.size := by rw [size_setC]; omega
 have HO1_3S := (show Hid (Own 0 5 .u8 (w3.setCell ⟨w.heap.size, 11, none⟩ (.slice none 0 0)) (.slice a1 bb.length c1) bb) from HO1_3.out.kept (R := fun b => b = w.heap.size) ((Kept.refl (fun b => b = w.heap.size) _).setCell (p := ⟨w.heap.size, 11, none⟩) (.inr rfl) _) (fun b hb e => by have := HF1.out b hb; omega))
 have HO2_3S := (show Hid (Own 0 5 .u8 (w3.setCell ⟨w.heap.size, 11, none⟩ (.slice none 0 0)) (.slice a2 ab.length c2) ab) from HO2_3.out.kept (R := fun b => b = w.heap.size) ((Kept.refl (fun b => b = w.heap.size) _).setCell (p := ⟨w.heap.size, 11, none⟩) (.inr rfl) _) (fun b hb e => by have := HF2.out b hb; omega))
 go_wp2_with fail
 refine (cloneD_nil _).mono ?_
 rintro e w4 ⟨rfl, hk⟩
 have HO1_4 := (show Hid (Own 0 5 .u8 w4 (.slice a1 bb.length c1) bb) from HO1_3S.out.same hk)
 have HO2_4 := (show Hid (Own 0 5 .u8 w4 (.slice a2 ab.length c2) ab) from HO2_3S.out.same hk)
 have A4 := A3S.same hk
 have B4 := B3S.same hk
 have HK4 := hid (HK3S.out.trans hk)
 have hzk4 := hk.size
 obtain ⟨d4_0, d4_1, d4_2, d4_3, d4_4, d4_5, d4_6, d4_7, d4_8, d4_9, d4_10, d4_11, d4_12, d4_13⟩ := A4.all14
 have f4_12 := A4.frozen 12
 clear hk
 have A4S : Blk (w4.setCell ⟨w.heap.size, 12, none⟩ (.slice none 0 0)) w.heap.size 35 [.int .i64 k, .int .i64 t, .int .i64 p, .int .i64 g, .int .i64 s, .bool bu, .slice a1 bb.length c1, .bool au, .slice a2 ab.length c2, .int .i64 u, .int .i64 n, .slice none 0 0, .slice none 0 0, .slice ia ib.length ic] := A4.stored 12 (.slice none 0 0)
 have B4S : Blk (w4.setCell ⟨w.heap.size, 12, none⟩ (.slice none 0 0)) (w.heap.size + 1) 35 [.int .i64 0, .int .i64 0, .int .i64 0, .int .i64 0, .int .i64 0, .bool false, .slice none 0 0, .bool false, .slice none 0 0, .int .i64 0, .int .i64 0, .slice none 0 0, .slice none 0 0, .slice none 0 0] := B4.other (by simp) _
 have HK4S := (show Hid (Same w (w4.setCell ⟨w.heap.size, 12, none⟩ (.slice none 0 0))) from HK4.out.setCell (p := ⟨w.heap.size, 12, none⟩) (.inl (Nat.le_refl _)) _)
 have hzs4 : w.heap.size + 2 ≤ (w4.setCell ⟨w.heap.size, 12, none⟩ (.slice none 0 0)).heap.size := by rw [size_setC]; omega
 have HO1_4S := (show Hid (Own 0 5 .u8 (w4.setCell ⟨w.heap.size, 12, none⟩ (.slice none 0 0)) (.slice a1 bb.length c1) bb) from HO1_4.out.kept (R := fun b => b = w.heap.size) ((Kept.refl (fun b => b = w.heap.size) _).setCell (p := ⟨w.heap.size, 12, none⟩) (.inr rfl) _) (fun b hb e => by have := HF1.out b hb; omega))
 have HO2_4S := (show Hid (Own 0 5 .u8 (w4.setCell ⟨w.heap.size, 12, none⟩ (.slice none 0 0)) (.slice a2 ab.length c2) ab) from HO2_4.out.kept (R := fun b => b = w.heap.size) ((Kept.refl (fun b => b = w.heap.size) _).setCell (p := ⟨w.heap.size, 12, none⟩) (.inr rfl) _) (fun b hb e => by have := HF2.out b hb; omega))
 go_wp2_with fail
 refine (clone_any _ ib _ hli (HRi.out.same HK4S.out)).mono ?_
 rintro e w5 ⟨a5, n5, c5, rfl, hown, hf, hk⟩
 obtain rfl := hown.sized'
 have HO5_5 := (show Hid (Own 0 5 .u8 w5 (.slice a5 ib.length c5) ib) from hown)
 have HF5 := (show Hid (∀ b, (Value.slice a5 ib.length c5).ownBlock = some b → w.heap.size + 2 ≤ b ∧ (w4.setCell ⟨w.heap.size, 12, none⟩ (.slice none 0 0)).heap.size ≤ b ∧ b < w5.heap.size) from fun b hb => ⟨by have := hf b hb; have := hzs4; omega, hf b hb, (hown.lt b hb).2⟩)
 have HO1_5 := (show Hid (Own 0 5 .u8 w5 (.slice a1 bb.length c1) bb) from HO1_4S.out.same hk)
 have HO2_5 := (show Hid (Own 0 5 .u8 w5 (.slice a2 ab.length c2) ab) from HO2_4S.out.same hk)
 have A5 := A4S.same hk
 have B5 := B4S.same hk
 have HK5 := hid (HK4S.out.trans hk)
 have hzk5 := hk.size
 obtain ⟨d5_0, d5_1, d5_2, d5_3, d5_4, d5_5, d5_6, d5_7, d5_8, d5_9, d5_10, d5_11, d5_12, d5_13⟩ := A5.all14
 have f5_13 := A5.frozen 13
 clear hk hown hf
 have A5S : Blk (w5.setCell ⟨w.heap.size, 13, none⟩ (.slice a5 ib.length c5)) w.heap.size 35 [.int .i64 k, .int .i64 t, .int .i64 p, .int .i64 g, .int .i64 s, .bool bu, .slice a1 bb.length c1, .bool au, .slice a2 ab.length c2, .int .i64 u, .int .i64 n, .slice none 0 0, .slice none 0 0, .slice a5 ib.length c5] := A5.stored 13 (.slice a5 ib.length c5)
 have B5S : Blk (w5.setCell ⟨w.heap.size, 13, none⟩ (.slice a5 ib.length c5)) (w.heap.size + 1) 35 [.int .i64 0, .int .i64 0, .int .i64 0, .int .i64 0, .int .i64 0, .bool false, .slice none 0 0, .bool false, .slice none 0 0, .int .i64 0, .int .i64 0, .slice none 0 0, .slice none 0 0, .slice none 0 0] := B5.other (by simp) _
 have HK5S := (show Hid (Same w (w5.setCell ⟨w.heap.size, 13, none⟩ (.slice a5 ib.length c5))) from HK5.out.setCell (p := ⟨w.heap.size, 13, none⟩) (.inl (Nat.le_refl _)) _)
 have hzs5 : w.heap.size + 2 ≤ (w5.setCell ⟨w.heap.size, 13, none⟩ (.slice a5 ib.length c5)).heap.size := by rw [size_setC]; omega
 have HO1_5S := (show Hid (Own 0 5 .u8 (w5.setCell ⟨w.heap.size, 13, none⟩ (.slice a5 ib.length c5)) (.slice a1 bb.length c1) bb) from HO1_5.out.kept (R := fun b => b = w.heap.size) ((Kept.refl (fun b => b = w.heap.size) _).setCell (p := ⟨w.heap.size, 13, none⟩) (.inr rfl) _) (fun b hb e => by have := HF1.out b hb; omega))
 have HO2_5S := (show Hid (Own 0 5 .u8 (w5.setCell ⟨w.heap.size, 13, none⟩ (.slice a5 ib.length c5)) (.slice a2 ab.length c2) ab) from HO2_5.out.kept (R := fun b => b = w.heap.size) ((Kept.refl (fun b => b = w.heap.size) _).setCell (p := ⟨w.heap.size, 13, none⟩) (.inr rfl) _) (fun b hb e => by have := HF2.out b hb; omega))
 have HO5_5S := (show Hid (Own 0 5 .u8 (w5.setCell ⟨w.heap.size, 13, none⟩ (.slice a5 ib.length c5)) (.slice a5 ib.length c5) ib) from HO5_5.out.kept (R := fun b => b = w.heap.size) ((Kept.refl (fun b => b = w.heap.size) _).setCell (p := ⟨w.heap.size, 13, none⟩) (.inr rfl) _) (fun b hb e => by have := HF5.out b hb; omega))
 obtain ⟨db0, db1, db2, db3, db4, db5, db6, db7, db8, db9, db10, db11, db12, db13⟩ := B5.all14
 have fb0 := B5.frozen 0
 have fb1 := B5.frozen 1
 have fb2 := B5.frozen 2
 have fb3 := B5.frozen 3
 have fb4 := B5.frozen 4
 have fb5 := B5.frozen 5
 have fb6 := B5.frozen 6
 have fb7 := B5.frozen 7
 have fb8 := B5.frozen 8
 have fb9 := B5.frozen 9
 have fb10 := B5.frozen 10
 have fb11 := B5.frozen 11
 have fb12 := B5.frozen 12
 have fb13 := B5.frozen 13
 go_wp2
 refine bodyPost_ret (v := .agg #[.int .i64 k, .int .i64 t, .int .i64 p, .int .i64 g, .int .i64 s, .bool bu, .slice a1 bb.length c1, .bool au, .slice a2 ab.length c2, .int .i64 u, .int .i64 n, .slice none 0 0, .slice none 0 0, .slice a5 ib.length c5]) (by simp [results, Try.results49, go_sem, db0, db1, db2, db3, db4, db5, db6, db7, db8, db9, db10, db11, db12, db13]) rfl ⟨a1, a2, a5, c1, c2, c5, rfl, ?_, ?_, ?_, ?_, ?_, ?_, ?_⟩
 ·exact HO1_5S.out.kept (((((((((((((((Kept.refl (fun b => b = w.heap.size + 1) _).setCell (p := ⟨w.heap.size + 1, 0, none⟩) (.inr rfl) _).setCell (p := ⟨w.heap.size + 1, 1, none⟩) (.inr rfl) _).setCell (p := ⟨w.heap.size + 1, 2, none⟩) (.inr rfl) _).setCell (p := ⟨w.heap.size + 1, 3, none⟩) (.inr rfl) _).setCell (p := ⟨w.heap.size + 1, 4, none⟩) (.inr rfl) _).setCell (p := ⟨w.heap.size + 1, 5, none⟩) (.inr rfl) _).setCell (p := ⟨w.heap.size + 1, 6, none⟩) (.inr rfl) _).setCell (p := ⟨w.heap.size + 1, 7, none⟩) (.inr rfl) _).setCell (p := ⟨w.heap.size + 1, 8, none⟩) (.inr rfl) _).setCell (p := ⟨w.heap.size + 1, 9, none⟩) (.inr rfl) _).setCell (p := ⟨w.heap.size + 1, 10, none⟩) (.inr rfl) _).setCell (p := ⟨w.heap.size + 1, 11, none⟩) (.inr rfl) _).setCell (p := ⟨w.heap.size + 1, 12, none⟩) (.inr rfl) _).setCell (p := ⟨w.heap.size + 1, 13, none⟩) (.inr rfl) _) (fun b hb e => by have := HF1.out b hb; omega)
 ·exact HO2_5S.out.kept (((((((((((((((Kept.refl (fun b => b = w.heap.size + 1) _).setCell (p := ⟨w.heap.size + 1, 0, none⟩) (.inr rfl) _).setCell (p := ⟨w.heap.size + 1, 1, none⟩) (.inr rfl) _).setCell (p := ⟨w.heap.size + 1, 2, none⟩) (.inr rfl) _).setCell (p := ⟨w.heap.size + 1, 3, none⟩) (.inr rfl) _).setCell (p := ⟨w.heap.size + 1, 4, none⟩) (.inr rfl) _).setCell (p := ⟨w.heap.size + 1, 5, none⟩) (.inr rfl) _).setCell (p := ⟨w.heap.size + 1, 6, none⟩) (.inr rfl) _).setCell (p := ⟨w.heap.size + 1, 7, none⟩) (.inr rfl) _).setCell (p := ⟨w.heap.size + 1, 8, none⟩) (.inr rfl) _).setCell (p := ⟨w.heap.size + 1, 9, none⟩) (.inr rfl) _).setCell (p := ⟨w.heap.size + 1, 10, none⟩) (.inr rfl) _).setCell (p := ⟨w.heap.size + 1, 11, none⟩) (.inr rfl) _).setCell (p := ⟨w.heap.size + 1, 12, none⟩) (.inr rfl) _).setCell (p := ⟨w.heap.size + 1, 13, none⟩) (.inr rfl) _) (fun b hb e => by have := HF2.out b hb; omega)
 ·exact HO5_5S.out.kept (((((((((((((((Kept.refl (fun b => b = w.heap.size + 1) _).setCell (p := ⟨w.heap.size + 1, 0, none⟩) (.inr rfl) _).setCell (p := ⟨w.heap.size + 1, 1, none⟩) (.inr rfl) _).setCell (p := ⟨w.heap.size + 1, 2, none⟩) (.inr rfl) _).setCell (p := ⟨w.heap.size + 1, 3, none⟩) (.inr rfl) _).setCell (p := ⟨w.heap.size + 1, 4, none⟩) (.inr rfl) _).setCell (p := ⟨w.heap.size + 1, 5, none⟩) (.inr rfl) _).setCell (p := ⟨w.heap.size + 1, 6, none⟩) (.inr rfl) _).setCell (p := ⟨w.heap.size + 1, 7, none⟩) (.inr rfl) _).setCell (p := ⟨w.heap.size + 1, 8, none⟩) (.inr rfl) _).setCell (p := ⟨w.heap.size + 1, 9, none⟩) (.inr rfl) _).setCell (p := ⟨w.heap.size + 1, 10, none⟩) (.inr rfl) _).setCell (p := ⟨w.heap.size + 1, 11, none⟩) (.inr rfl) _).setCell (p := ⟨w.heap.size + 1, 12, none⟩) (.inr rfl) _).setCell (p := ⟨w.heap.size + 1, 13, none⟩) (.inr rfl) _) (fun b hb e => by have := HF5.out b hb; omega)
 ·exact fun b hb => by have := HF1.out b hb; omega
 ·refine ⟨fun b hb => by have := HF2.out b hb; omega, fun b hb => by have := HF5.out b hb; omega⟩
 ·refine ⟨fun b h1 h2 => ?_, fun b h1 h2 => ?_, fun b h1 h2 => ?_⟩
  ·have := HF1.out b h1; have := HF2.out b h2; simp only [size_setC] at *; omega
  ·have := HF1.out b h1; have := HF5.out b h2; simp only [size_setC] at *; omega
  ·have := HF2.out b h1; have := HF5.out b h2; simp only [size_setC] at *; omega
 ·exact ((((((((((((((HK5S.out).setCell (p := ⟨w.heap.size + 1, 0, none⟩) (.inl (Nat.le_add_right _ _)) _).setCell (p := ⟨w.heap.size + 1, 1, none⟩) (.inl (Nat.le_add_right _ _)) _).setCell (p := ⟨w.heap.size + 1, 2, none⟩) (.inl (Nat.le_add_right _ _)) _).setCell (p := ⟨w.heap.size + 1, 3, none⟩) (.inl (Nat.le_add_right _ _)) _).setCell (p := ⟨w.heap.size + 1, 4, none⟩) (.inl (Nat.le_add_right _ _)) _).setCell (p := ⟨w.heap.size + 1, 5, none⟩) (.inl (Nat.le_add_right _ _)) _).setCell (p := ⟨w.heap.size + 1, 6, none⟩) (.inl (Nat.le_add_right _ _)) _).setCell (p := ⟨w.heap.size + 1, 7, none⟩) (.inl (Nat.le_add_right _ _)) _).setCell (p := ⟨w.heap.size + 1, 8, none⟩) (.inl (Nat.le_add_right _ _)) _).setCell (p := ⟨w.heap.size + 1, 9, none⟩) (.inl (Nat.le_add_right _ _)) _).setCell (p := ⟨w.heap.size + 1, 10, none⟩) (.inl (Nat.le_add_right _ _)) _).setCell (p := ⟨w.heap.size + 1, 11, none⟩) (.inl (Nat.le_add_right _ _)) _).setCell (p := ⟨w.heap.size + 1, 12, none⟩) (.inl (Nat.le_add_right _ _)) _).setCell (p := ⟨w.heap.size + 1, 13, none⟩) (.inl (Nat.le_add_right _ _)) _
theorem specUndo_nil (x : StLogRecord) (w : World) (hB : x.isB) (hn : x.szs ≤ 1073741824) (hv : StLogRecord.rd w x) : Calls Try.prog 20 #[x.val] w fun e w' => ∃ y : StLogRecord, e = .returned y.val ∧ y.dat = undoFd x.dat ∧ (∀ b, FootL y.rows b → w.heap.size ≤ b) ∧ OwnL w' y.rows ∧ Same w w' ∧ y.txns.a = none ∧ y.dirty.a = none ∧ y.image.a = none := by
 have HF := (show Hid (∀ wx, Same w wx → Calls Try.prog 8 #[x.val] wx fun e w' => e = .returned (.int .i64 (recFd x.dat)) ∧ Same wx w') from fun wx (h : Same w wx) => specRec_any x wx hB hn (StLogRecord.rd.same hv h))
 have hbl : x.before.data.bs.length ≤ 1099511627776 := by have h0 := hn; simp only [StLogRecord.szs, StPageRecord.szs] at h0; omega
 have hrb : Rd .u8 w x.before.data.v x.before.data.bs := hv.1
 clear hB hn hv
 by_cases hy : x.dat.1 = 1 ∧ recFd x.dat = 0
 ·obtain ⟨hk1, hz⟩ := hy
  rw [hz] at HF
  rw [undoFd_yes ⟨hk1, hz⟩]
  clear hz
  obtain ⟨kind, txn, prev, page, slot, ⟨bU, ⟨bDe, bDa, bDc, bDb⟩⟩, ⟨aU, ⟨aDe, aDa, aDc, aDb⟩⟩, uN, nT, ⟨tXe, tXa, tXn, tXc, tXb⟩, ⟨dYe, dYa, dYn, dYc, dYb⟩, ⟨iMe, iMa, iMc, iMb⟩⟩ := x
  replace hk1 : kind = 1 := hk1
  subst hk1
  dsimp only [StLogRecord.val, StPageRecord.val, BS.v, FR.v, StLogRecord.dat, StPageRecord.dat] at HF hrb ⊢
  have HRB := hid hrb
  clear hrb
  dsimp only at hbl
  obtain ⟨HK0, HA0, HB0⟩ := new2 w [.int .i64 1, .int .i64 txn, .int .i64 prev, .int .i64 page, .int .i64 slot, .bool bU, .slice bDa bDb.length bDc, .bool aU, .slice aDa aDb.length aDc, .int .i64 uN, .int .i64 nT, .slice tXa tXn tXc, .slice dYa dYn dYc, .slice iMa iMb.length iMc] 35 [.int .i64 0, .int .i64 0, .int .i64 0, .int .i64 0, .int .i64 0, .bool false, .slice none 0 0, .bool false, .slice none 0 0, .int .i64 0, .int .i64 0, .slice none 0 0, .slice none 0 0, .slice none 0 0] 35
  have A0 := HA0.out
  have B0 := HB0.out
  clear HA0 HB0
  go_enter Try.func20, Try.ntmps20
  go_wp2_with fail
  refine (HF.out _ HK0.out).mono ?_
  rintro e w1 ⟨rfl, hk1⟩
  have HK1 := hid (HK0.out.trans hk1)
  have A1 := A0.same hk1
  have B1 := B0.same hk1
  have hz1 := hk1.size
  simp only [World.size_alloc] at hz1
  clear hk1 HF
  obtain ⟨d1_0, d1_1, d1_2, d1_3, d1_4, d1_5, d1_6, d1_7, d1_8, d1_9, d1_10, d1_11, d1_12, d1_13⟩ := A1.all14
  go_wp2_with fail
  let Y1 : World → Prop := fun wx : World => wx.cell? ⟨w.heap.size, 1, none⟩ = some (.int .i64 txn) ∧ wx.cell? ⟨w.heap.size, 2, none⟩ = some (.int .i64 prev) ∧ wx.cell? ⟨w.heap.size, 3, none⟩ = some (.int .i64 page) ∧ wx.cell? ⟨w.heap.size, 4, none⟩ = some (.int .i64 slot) ∧ wx.cell? ⟨w.heap.size, 5, none⟩ = some (.bool bU) ∧ wx.cell? ⟨w.heap.size, 6, none⟩ = some (.slice bDa bDb.length bDc)
  have hS : Y1 w1.drew := by exact ⟨A1.cell 1, A1.cell 2, A1.cell 3, A1.cell 4, A1.cell 5, A1.cell 6⟩
  refine wp_region_V Y1 12 13 rfl (by kernel_rfl) ?_
  refine tk 0 12 hS ?_
  refine tk 1 13 hS ?_
  refine tk 2 14 hS ?_
  refine tk 3 15 hS ?_
  refine tk 4 16 hS ?_
  refine tk 5 17 hS ?_
  refine tk 6 18 hS ?_
  refine tk 7 19 hS ?_
  refine tk 9 21 hS ?_
  refine tk 10 22 hS ?_
  refine wpAnyV_one (i := 8) (by kernel_rfl) rfl (fun K hK => ?_)
  go_simp
  refine (l4CopySlot_any bU _ bDb _ hbl (HRB.out.same (HK1.out.drew))).mono ?_
  rintro e w2 ⟨a2, n2, c2, rfl, hown, hf, hk2⟩
  obtain rfl := hown.sized'
  have HO2 := (show Hid (Own 0 5 .u8 w2 (.slice a2 bDb.length c2) bDb) from hown)
  have HF2 := (show Hid (∀ b, (Value.slice a2 bDb.length c2).ownBlock = some b → w.heap.size + 2 ≤ b) from fun b hb => by have := hf b hb; simp only [World.size_drew] at this; omega)
  have HK2 := hid (HK1.out.drew.trans hk2)
  have A2 := A1.drew.same hk2
  have B2 := B1.drew.same hk2
  obtain ⟨db0, db1, db2, db3, db4, db5, db6, db7, db8, db9, db10, db11, db12, db13⟩ := B2.all14
  have fb0 := B2.frozen 0
  have fb1 := B2.frozen 1
  have fb2 := B2.frozen 2
  have fb3 := B2.frozen 3
  have fb4 := B2.frozen 4
  have fb5 := B2.frozen 5
  have fb6 := B2.frozen 6
  have fb7 := B2.frozen 7
  have fb8 := B2.frozen 8
  have fb9 := B2.frozen 9
  have fb10 := B2.frozen 10
  have fb11 := B2.frozen 11
  have fb12 := B2.frozen 12
  have fb13 := B2.frozen 13
  clear hown hf hk2
  have hS : Y1 w2 := by exact ⟨A2.cell 1, A2.cell 2, A2.cell 3, A2.cell 4, A2.cell 5, A2.cell 6⟩
  refine hK.out _ _ (fun _ => hS) ?_
  clear hK K
  try simp only [Act.put, sA, s0, sS]
  refine tk 11 23 hS ?_
  refine wpAnyV_one (i := 12) (by kernel_rfl) rfl (fun K hK => ?_)
  go_simp
  refine hK.out _ _ (fun h => absurd rfl h) ?_
  clear hK K
  refine wpAnyV_done (by kernel_rfl) ?_
  try simp only [Act.put, sA, s0, sS]
  go_wp2
  refine bodyPost_ret (v := .agg #[.int .i64 2, .int .i64 txn, .int .i64 0, .int .i64 page, .int .i64 slot, .bool false, .slice none 0 0, .bool bU, .slice a2 bDb.length c2, .int .i64 prev, .int .i64 0, .slice none 0 0, .slice none 0 0, .slice none 0 0]) (by simp [results, Try.results20, go_sem, db0, db1, db2, db3, db4, db5, db6, db7, db8, db9, db10, db11, db12, db13]) rfl ⟨⟨2, txn, 0, page, slot, ⟨false, ⟨0, none, 0, []⟩⟩, ⟨bU, ⟨5, a2, c2, bDb⟩⟩, prev, 0, ⟨0, none, 0, 0, []⟩, ⟨0, none, 0, 0, []⟩, ⟨0, none, 0, []⟩⟩, rfl, (by first | rfl | simp), ?_, ?_, ?_, rfl, rfl, rfl⟩
  ·intro b hb
   rcases recRows_foot hb with h | h | h
   ·simp [Value.ownBlock] at h
   ·have := HF2.out b h; omega
   ·simp [Value.ownBlock] at h
  ·exact recRows_own (Own.nil 0 0 .u8 _) (HO2.out.kept (((((((((((((((Kept.refl (fun b => b = w.heap.size + 1) _).setCell (p := ⟨w.heap.size + 1, 0, none⟩) (.inr rfl) _).setCell (p := ⟨w.heap.size + 1, 1, none⟩) (.inr rfl) _).setCell (p := ⟨w.heap.size + 1, 2, none⟩) (.inr rfl) _).setCell (p := ⟨w.heap.size + 1, 3, none⟩) (.inr rfl) _).setCell (p := ⟨w.heap.size + 1, 4, none⟩) (.inr rfl) _).setCell (p := ⟨w.heap.size + 1, 5, none⟩) (.inr rfl) _).setCell (p := ⟨w.heap.size + 1, 6, none⟩) (.inr rfl) _).setCell (p := ⟨w.heap.size + 1, 7, none⟩) (.inr rfl) _).setCell (p := ⟨w.heap.size + 1, 8, none⟩) (.inr rfl) _).setCell (p := ⟨w.heap.size + 1, 9, none⟩) (.inr rfl) _).setCell (p := ⟨w.heap.size + 1, 10, none⟩) (.inr rfl) _).setCell (p := ⟨w.heap.size + 1, 11, none⟩) (.inr rfl) _).setCell (p := ⟨w.heap.size + 1, 12, none⟩) (.inr rfl) _).setCell (p := ⟨w.heap.size + 1, 13, none⟩) (.inr rfl) _) (fun b hb e => by have := HF2.out b hb; omega)) (Own.nil 0 0 .u8 _) (fun b h => by simp [Value.ownBlock] at h) (fun b h => by simp [Value.ownBlock] at h) (fun b h h2 => by simp [Value.ownBlock] at h2)
  ·exact ((((((((((((((HK2.out).setCell (p := ⟨w.heap.size + 1, 0, none⟩) (.inl (Nat.le_add_right _ _)) _).setCell (p := ⟨w.heap.size + 1, 1, none⟩) (.inl (Nat.le_add_right _ _)) _).setCell (p := ⟨w.heap.size + 1, 2, none⟩) (.inl (Nat.le_add_right _ _)) _).setCell (p := ⟨w.heap.size + 1, 3, none⟩) (.inl (Nat.le_add_right _ _)) _).setCell (p := ⟨w.heap.size + 1, 4, none⟩) (.inl (Nat.le_add_right _ _)) _).setCell (p := ⟨w.heap.size + 1, 5, none⟩) (.inl (Nat.le_add_right _ _)) _).setCell (p := ⟨w.heap.size + 1, 6, none⟩) (.inl (Nat.le_add_right _ _)) _).setCell (p := ⟨w.heap.size + 1, 7, none⟩) (.inl (Nat.le_add_right _ _)) _).setCell (p := ⟨w.heap.size + 1, 8, none⟩) (.inl (Nat.le_add_right _ _)) _).setCell (p := ⟨w.heap.size + 1, 9, none⟩) (.inl (Nat.le_add_right _ _)) _).setCell (p := ⟨w.heap.size + 1, 10, none⟩) (.inl (Nat.le_add_right _ _)) _).setCell (p := ⟨w.heap.size + 1, 11, none⟩) (.inl (Nat.le_add_right _ _)) _).setCell (p := ⟨w.heap.size + 1, 12, none⟩) (.inl (Nat.le_add_right _ _)) _).setCell (p := ⟨w.heap.size + 1, 13, none⟩) (.inl (Nat.le_add_right _ _)) _
 ·rw [undoFd_no hy]
  have hor : recFd x.dat ≠ 0 ∨ (recFd x.dat = 0 ∧ x.kind ≠ 1) := by by_cases h : recFd x.dat = 0; exact .inr ⟨h, fun e => hy ⟨e, h⟩⟩; exact .inl h
  clear hy hbl hrb
  generalize recFd x.dat = r at *
  obtain ⟨kind, txn, prev, page, slot, ⟨bU, ⟨bDe, bDa, bDc, bDb⟩⟩, ⟨aU, ⟨aDe, aDa, aDc, aDb⟩⟩, uN, nT, ⟨tXe, tXa, tXn, tXc, tXb⟩, ⟨dYe, dYa, dYn, dYc, dYb⟩, ⟨iMe, iMa, iMc, iMb⟩⟩ := x
  dsimp only [StLogRecord.val, StPageRecord.val, BS.v, FR.v] at HF hor ⊢
  obtain ⟨HK0, HA0, HB0⟩ := new2 w [.int .i64 kind, .int .i64 txn, .int .i64 prev, .int .i64 page, .int .i64 slot, .bool bU, .slice bDa bDb.length bDc, .bool aU, .slice aDa aDb.length aDc, .int .i64 uN, .int .i64 nT, .slice tXa tXn tXc, .slice dYa dYn dYc, .slice iMa iMb.length iMc] 35 [.int .i64 0, .int .i64 0, .int .i64 0, .int .i64 0, .int .i64 0, .bool false, .slice none 0 0, .bool false, .slice none 0 0, .int .i64 0, .int .i64 0, .slice none 0 0, .slice none 0 0, .slice none 0 0] 35
  have A0 := HA0.out
  have B0 := HB0.out
  clear HA0 HB0
  rcases hor with hr | ⟨rfl, hkk⟩
  ·go_enter Try.func20, Try.ntmps20
   go_wp2_with fail
   refine (HF.out _ HK0.out).mono ?_
   rintro e w1 ⟨rfl, hk1⟩
   have HK1 := hid (HK0.out.trans hk1)
   have B1 := B0.same hk1
   clear hk1 HF
   obtain ⟨db0, db1, db2, db3, db4, db5, db6, db7, db8, db9, db10, db11, db12, db13⟩ := B1.all14
   have fb0 := B1.frozen 0
   have fb1 := B1.frozen 1
   have fb2 := B1.frozen 2
   have fb3 := B1.frozen 3
   have fb4 := B1.frozen 4
   have fb5 := B1.frozen 5
   have fb6 := B1.frozen 6
   have fb7 := B1.frozen 7
   have fb8 := B1.frozen 8
   have fb9 := B1.frozen 9
   have fb10 := B1.frozen 10
   have fb11 := B1.frozen 11
   have fb12 := B1.frozen 12
   have fb13 := B1.frozen 13
   go_wp2
   refine bodyPost_ret (v := .agg #[.int .i64 0, .int .i64 0, .int .i64 0, .int .i64 0, .int .i64 0, .bool false, .slice none 0 0, .bool false, .slice none 0 0, .int .i64 0, .int .i64 0, .slice none 0 0, .slice none 0 0, .slice none 0 0]) (by simp [results, Try.results20, go_sem, db0, db1, db2, db3, db4, db5, db6, db7, db8, db9, db10, db11, db12, db13]) rfl ⟨⟨0, 0, 0, 0, 0, ⟨false, ⟨0, none, 0, []⟩⟩, ⟨false, ⟨0, none, 0, []⟩⟩, 0, 0, ⟨0, none, 0, 0, []⟩, ⟨0, none, 0, 0, []⟩, ⟨0, none, 0, []⟩⟩, rfl, rfl, fun b hb => absurd hb (zeroLR_foot b), zeroLR_own _, ?_, rfl, rfl, rfl⟩
   exact ((((((((((((((HK1.out).setCell (p := ⟨w.heap.size + 1, 0, none⟩) (.inl (Nat.le_add_right _ _)) _).setCell (p := ⟨w.heap.size + 1, 1, none⟩) (.inl (Nat.le_add_right _ _)) _).setCell (p := ⟨w.heap.size + 1, 2, none⟩) (.inl (Nat.le_add_right _ _)) _).setCell (p := ⟨w.heap.size + 1, 3, none⟩) (.inl (Nat.le_add_right _ _)) _).setCell (p := ⟨w.heap.size + 1, 4, none⟩) (.inl (Nat.le_add_right _ _)) _).setCell (p := ⟨w.heap.size + 1, 5, none⟩) (.inl (Nat.le_add_right _ _)) _).setCell (p := ⟨w.heap.size + 1, 6, none⟩) (.inl (Nat.le_add_right _ _)) _).setCell (p := ⟨w.heap.size + 1, 7, none⟩) (.inl (Nat.le_add_right _ _)) _).setCell (p := ⟨w.heap.size + 1, 8, none⟩) (.inl (Nat.le_add_right _ _)) _).setCell (p := ⟨w.heap.size + 1, 9, none⟩) (.inl (Nat.le_add_right _ _)) _).setCell (p := ⟨w.heap.size + 1, 10, none⟩) (.inl (Nat.le_add_right _ _)) _).setCell (p := ⟨w.heap.size + 1, 11, none⟩) (.inl (Nat.le_add_right _ _)) _).setCell (p := ⟨w.heap.size + 1, 12, none⟩) (.inl (Nat.le_add_right _ _)) _).setCell (p := ⟨w.heap.size + 1, 13, none⟩) (.inl (Nat.le_add_right _ _)) _
  ·go_enter Try.func20, Try.ntmps20
   go_wp2_with fail
   refine (HF.out _ HK0.out).mono ?_
   rintro e w1 ⟨rfl, hk1⟩
   have HK1 := hid (HK0.out.trans hk1)
   have A1 := A0.same hk1
   have B1 := B0.same hk1
   have da0 := A1.c0
   clear hk1 HF
   obtain ⟨db0, db1, db2, db3, db4, db5, db6, db7, db8, db9, db10, db11, db12, db13⟩ := B1.all14
   have fb0 := B1.frozen 0
   have fb1 := B1.frozen 1
   have fb2 := B1.frozen 2
   have fb3 := B1.frozen 3
   have fb4 := B1.frozen 4
   have fb5 := B1.frozen 5
   have fb6 := B1.frozen 6
   have fb7 := B1.frozen 7
   have fb8 := B1.frozen 8
   have fb9 := B1.frozen 9
   have fb10 := B1.frozen 10
   have fb11 := B1.frozen 11
   have fb12 := B1.frozen 12
   have fb13 := B1.frozen 13
   go_wp2
   refine bodyPost_ret (v := .agg #[.int .i64 0, .int .i64 0, .int .i64 0, .int .i64 0, .int .i64 0, .bool false, .slice none 0 0, .bool false, .slice none 0 0, .int .i64 0, .int .i64 0, .slice none 0 0, .slice none 0 0, .slice none 0 0]) (by simp [results, Try.results20, go_sem, db0, db1, db2, db3, db4, db5, db6, db7, db8, db9, db10, db11, db12, db13]) rfl ⟨⟨0, 0, 0, 0, 0, ⟨false, ⟨0, none, 0, []⟩⟩, ⟨false, ⟨0, none, 0, []⟩⟩, 0, 0, ⟨0, none, 0, 0, []⟩, ⟨0, none, 0, 0, []⟩, ⟨0, none, 0, []⟩⟩, rfl, rfl, fun b hb => absurd hb (zeroLR_foot b), zeroLR_own _, ?_, rfl, rfl, rfl⟩
   exact ((((((((((((((HK1.out).setCell (p := ⟨w.heap.size + 1, 0, none⟩) (.inl (Nat.le_add_right _ _)) _).setCell (p := ⟨w.heap.size + 1, 1, none⟩) (.inl (Nat.le_add_right _ _)) _).setCell (p := ⟨w.heap.size + 1, 2, none⟩) (.inl (Nat.le_add_right _ _)) _).setCell (p := ⟨w.heap.size + 1, 3, none⟩) (.inl (Nat.le_add_right _ _)) _).setCell (p := ⟨w.heap.size + 1, 4, none⟩) (.inl (Nat.le_add_right _ _)) _).setCell (p := ⟨w.heap.size + 1, 5, none⟩) (.inl (Nat.le_add_right _ _)) _).setCell (p := ⟨w.heap.size + 1, 6, none⟩) (.inl (Nat.le_add_right _ _)) _).setCell (p := ⟨w.heap.size + 1, 7, none⟩) (.inl (Nat.le_add_right _ _)) _).setCell (p := ⟨w.heap.size + 1, 8, none⟩) (.inl (Nat.le_add_right _ _)) _).setCell (p := ⟨w.heap.size + 1, 9, none⟩) (.inl (Nat.le_add_right _ _)) _).setCell (p := ⟨w.heap.size + 1, 10, none⟩) (.inl (Nat.le_add_right _ _)) _).setCell (p := ⟨w.heap.size + 1, 11, none⟩) (.inl (Nat.le_add_right _ _)) _).setCell (p := ⟨w.heap.size + 1, 12, none⟩) (.inl (Nat.le_add_right _ _)) _).setCell (p := ⟨w.heap.size + 1, 13, none⟩) (.inl (Nat.le_add_right _ _)) _
theorem specUndo_any (x : StLogRecord) (w : World) (hB : x.isB) (hn : x.szs ≤ 1073741824) (hv : StLogRecord.rd w x) : Calls Try.prog 20 #[x.val] w fun e w' => ∃ y : StLogRecord, e = .returned y.val ∧ y.dat = undoFd x.dat ∧ (∀ b, FootL y.rows b → w.heap.size ≤ b) ∧ OwnL w' y.rows ∧ Same w w' := by
 refine (specUndo_nil x w hB hn hv).mono ?_
 rintro e w' ⟨y, h1, h2, h3, h4, h5, _⟩
 exact ⟨y, h1, h2, h3, h4, h5⟩
end Go.Proofs.Ytdgmecmkkddpeaa
