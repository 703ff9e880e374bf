import Derived.Test.YtcldagphkpkdpaaG22
namespace Go.Proofs.Ytcldagphkpkdpaa
set_option maxRecDepth 100000
set_option maxHeartbeats 8000000
set_option linter.unusedVariables false
set_option linter.unusedSimpArgs false
open Go.RowKit
def recFd (d : RcY) : Int := recF d.1 d.2.1 d.2.2.1 d.2.2.2.1 d.2.2.2.2.1 d.2.2.2.2.2.1.1 d.2.2.2.2.2.1.2 d.2.2.2.2.2.2.1.1 d.2.2.2.2.2.2.1.2 d.2.2.2.2.2.2.2.1 d.2.2.2.2.2.2.2.2.1 d.2.2.2.2.2.2.2.2.2.1 d.2.2.2.2.2.2.2.2.2.2.1 d.2.2.2.2.2.2.2.2.2.2.2
def StLogRecord.isB (x : StLogRecord) : Prop := IsB x.before.data.bs ∧ IsB x.after.data.bs ∧ IsB x.image.bs
theorem specRec_any (x : StLogRecord) (w : World) (hB : x.isB) (hn : x.szs ≤ 1073741824) (hv : StLogRecord.rd w x) :
  Calls Try.prog 66 #[x.val] w fun e w' => e = .returned (.int .i64 (recFd x.dat)) ∧ Same w w' := by
 have hs := hn
 simp only [StLogRecord.szs, StPageRecord.szs] at hs
 have hlt := hv.2.2.1.2.1
 have hld := hv.2.2.2.1.2.1
 obtain ⟨kind, txn, prev, page, slot, ⟨bU, ⟨bDe, bDa, bDc, bDb⟩⟩, ⟨aU, ⟨aDe, aDa, aDc, aDb⟩⟩, uN, nT, ⟨tXe, tXa, tXn, tXc, tXb⟩, ⟨dYe, dYa, dYn, dYc, dYb⟩, ⟨iMe, iMa, iMc, iMb⟩⟩ := x
 dsimp only [StLogRecord.val, StPageRecord.val, BS.v, FR.v, recFd, StLogRecord.dat, StPageRecord.dat, StLogRecord.isB, StLogRecord.rd, StPageRecord.rd] at *
 have e1 : tXb.length / 4 = tXn := by omega
 have e2 : dYb.length / 2 = dYn := by omega
 have hli : iMb.length ≤ 1099511627776 := by omega
 have hnt : tXn ≤ 1125899906842624 := by omega
 have hnd : dYn ≤ 1125899906842624 := by omega
 unfold recF
 by_cases h1 : kind = 1
 ·subst h1
  simp only [if_true]
  rw [← eqK_1 txn prev page slot uN nT bU aU bDb aDb iMb tXb dYb tXn dYn e1 e2]
  exact specT_1 txn prev page slot bU bDa bDc bDb aU aDa aDc aDb uN nT tXe tXa tXn tXc tXb dYe dYa dYn dYc dYb iMa iMc iMb w hB.1 hB.2.1 hB.2.2 hli hv.1 hv.2.1 hv.2.2.2.2 hv.2.2.1 hv.2.2.2.1 hnt hnd
 rw [if_neg h1]
 by_cases h2 : kind = 2
 ·subst h2
  rw [if_pos rfl]
  rw [← eqK_2 txn prev page slot uN nT bU aU bDb aDb iMb tXb dYb tXn dYn e1 e2]
  exact specT_2 txn prev page slot bU bDa bDc bDb aU aDa aDc aDb uN nT tXe tXa tXn tXc tXb dYe dYa dYn dYc dYb iMa iMc iMb w hB.1 hB.2.1 hB.2.2 hli hv.1 hv.2.1 hv.2.2.2.2 hv.2.2.1 hv.2.2.2.1 hnt hnd
 rw [if_neg h2]
 by_cases h3 : kind = 3
 ·subst h3
  rw [if_pos rfl]
  rw [← eqK_3 txn prev page slot uN nT bU aU bDb aDb iMb tXb dYb tXn dYn e1 e2]
  exact specT_3 txn prev page slot bU bDa bDc bDb aU aDa aDc aDb uN nT tXe tXa tXn tXc tXb dYe dYa dYn dYc dYb iMa iMc iMb w hB.1 hB.2.1 hB.2.2 hli hv.1 hv.2.1 hv.2.2.2.2 hv.2.2.1 hv.2.2.2.1 hnt hnd
 rw [if_neg h3]
 by_cases h4 : kind = 4
 ·subst h4
  rw [if_pos rfl]
  rw [← eqK_4 txn prev page slot uN nT bU aU bDb aDb iMb tXb dYb tXn dYn e1 e2]
  exact specT_4 txn prev page slot bU bDa bDc bDb aU aDa aDc aDb uN nT tXe tXa tXn tXc tXb dYe dYa dYn dYc dYb iMa iMc iMb w hB.1 hB.2.1 hB.2.2 hli hv.1 hv.2.1 hv.2.2.2.2 hv.2.2.1 hv.2.2.2.1 hnt hnd
 rw [if_neg h4]
 by_cases h5 : kind = 5
 ·subst h5
  rw [if_pos rfl]
  rw [← eqK_5 txn prev page slot uN nT bU aU bDb aDb iMb tXb dYb tXn dYn e1 e2]
  exact specT_5 txn prev page slot bU bDa bDc bDb aU aDa aDc aDb uN nT tXe tXa tXn tXc tXb dYe dYa dYn dYc dYb iMa iMc iMb w hB.1 hB.2.1 hB.2.2 hli hv.1 hv.2.1 hv.2.2.2.2 hv.2.2.1 hv.2.2.2.1 hnt hnd
 rw [if_neg h5]
 by_cases h6 : kind = 6
 ·subst h6
  rw [if_pos rfl]
  rw [← eqK_6 txn prev page slot uN nT bU aU bDb aDb iMb tXb dYb tXn dYn e1 e2]
  exact specT_6 txn prev page slot bU bDa bDc bDb aU aDa aDc aDb uN nT tXe tXa tXn tXc tXb dYe dYa dYn dYc dYb iMa iMc iMb w hB.1 hB.2.1 hB.2.2 hli hv.1 hv.2.1 hv.2.2.2.2 hv.2.2.1 hv.2.2.2.1 hnt hnd
 rw [if_neg h6]
 by_cases h7 : kind = 7
 ·subst h7
  rw [if_pos rfl]
  rw [← eqK_7 txn prev page slot uN nT bU aU bDb aDb iMb tXb dYb tXn dYn e1 e2]
  exact specT_7 txn prev page slot bU bDa bDc bDb aU aDa aDc aDb uN nT tXe tXa tXn tXc tXb dYe dYa dYn dYc dYb iMa iMc iMb w hB.1 hB.2.1 hB.2.2 hli hv.1 hv.2.1 hv.2.2.2.2 hv.2.2.1 hv.2.2.2.1 hnt hnd
 rw [if_neg h7]
 by_cases h8 : kind = 8
 ·subst h8
  rw [if_pos rfl]
  rw [← eqK_8 txn prev page slot uN nT bU aU bDb aDb iMb tXb dYb tXn dYn e1 e2]
  exact specT_8 txn prev page slot bU bDa bDc bDb aU aDa aDc aDb uN nT tXe tXa tXn tXc tXb dYe dYa dYn dYc dYb iMa iMc iMb w hB.1 hB.2.1 hB.2.2 hli hv.1 hv.2.1 hv.2.2.2.2 hv.2.2.1 hv.2.2.2.1 hnt hnd
 rw [if_neg h8]
 exact recS_0 kind txn prev page slot bU bDa bDc bDb aU aDa aDc aDb uN nT tXe tXa tXn tXc tXb dYe dYa dYn dYc dYb iMa iMc iMb w (by unfold inB; simp only [Bool.and_eq_false_iff, decide_eq_false_iff_not]; omega)
theorem l4CopySlot_any (u : Bool) (dv : Value) (d : List Int) (w : World) (hd : d.length ≤ 1099511627776) (hr : Rd .u8 w dv d) :
  Calls Try.prog 80 #[.agg #[.bool u, dv]] w fun e w' => ∃ a n c, e = .returned (.agg #[.bool u, .slice a n c]) ∧ Own 0 5 .u8 w' (.slice a n c) d ∧ (∀ b, (Value.slice a n c).ownBlock = some b → w.heap.size ≤ b) ∧ Same w w' := by
 obtain ⟨da, dc, rfl⟩ := hr.form
 have HR := hid hr
 clear hr
 obtain ⟨HK0, HA, HB⟩ := new2 w [.bool u, .slice da d.length dc] 44 [.bool false, .slice none 0 0] 44
 go_enter Try.func80, Try.ntmps80
 go_wp2_with fail
 let Y1 : World → Prop := fun wx : World => wx.cell? ⟨w.heap.size, 0, none⟩ = some (.bool u) ∧ wx.cell? ⟨w.heap.size, 1, none⟩ = some (.slice da d.length dc)
 have hS : Y1 ((w.alloc (.cells #[.bool u, .slice da d.length dc] 44)).alloc (.cells #[.bool false, .slice none 0 0] 44)).drew := by exact ⟨HA.out.cell 0, HA.out.cell 1⟩
 refine wp_region_V Y1 6 7 rfl (by kernel_rfl) ?_
 refine tk 0 3 hS ?_
 refine tk 1 4 hS ?_
 refine tk 2 5 hS ?_
 refine tk 3 6 hS ?_
 refine wpAnyV_one (i := 4) (by kernel_rfl) rfl (fun K hK => ?_)
 go_simp
 refine (l1Copy_any _ d _ hd (HR.out.same HK0.out.drew)).mono ?_
 rintro e w1 ⟨a1, n1, c1, rfl, hown, hf, hk1⟩
 have HO1 := hid hown
 have HF1 := hid hf
 have HK1 := hid hk1
 have A1 := HA.out.drew.same hk1
 have B1 := HB.out.drew.same hk1
 have d0 := B1.c0
 have d1 := B1.c1
 have f0 := B1.frozen 0
 have f1 := B1.frozen 1
 clear hown hf hk1
 have hS : Y1 w1 := by exact ⟨A1.cell 0, A1.cell 1⟩
 refine hK.out _ _ (fun _ => hS) ?_
 clear hK K
 try simp only [Act.put, sA, s0, sS]
 refine tk 5 8 hS ?_
 refine wpAnyV_one (i := 6) (by kernel_rfl) rfl (fun K hK => ?_)
 go_simp
 refine hK.out _ _ (fun h => absurd rfl h) ?_
 clear hK K
 refine wpAnyV_done (by kernel_rfl) ?_
 try simp only [Act.put, sA, s0, sS]
 go_wp2
 have hz0 := HK0.out.size
 have hz1 := HK1.out.size
 have hz2 := HB.out.lt
 simp only [World.size_drew] at hz1
 refine bodyPost_ret (v := .agg #[.bool u, .slice a1 n1 c1]) (by simp [results, Try.results80, go_sem, d0, d1]) rfl ⟨a1, n1, c1, rfl, HO1.out.kept (R := fun b => b = w.heap.size + 1) (((Kept.refl (fun b => b = w.heap.size + 1) _).setCell (p := ⟨w.heap.size + 1, 0, none⟩) (.inr rfl) _).setCell (p := ⟨w.heap.size + 1, 1, none⟩) (.inr rfl) _) (fun b hb e => ?_), fun b hb => ?_, ((HK0.out.drew.trans HK1.out).setCell (p := ⟨w.heap.size + 1, 0, none⟩) (.inl (Nat.le_add_right _ _)) _).setCell (p := ⟨w.heap.size + 1, 1, none⟩) (.inl (Nat.le_add_right _ _)) _⟩
 ·have := HF1.out b hb
  simp only [World.size_drew] at this
  omega
 ·have := HF1.out b hb
  simp only [World.size_drew] at this
  omega
theorem nilRow_own (w : World) (e : TypeId) (m : Nat) : OwnL w [⟨e, m, .slice none 0 0, 0, vals .i64 []⟩] := ⟨fun r hr => by rw [List.mem_singleton.1 hr]; exact World.ownsRow_nil _ _ _ _, List.pairwise_singleton _ _⟩
theorem nilRow_foot (e : TypeId) (m b : Nat) : ¬ FootL [⟨e, m, .slice none 0 0, 0, vals .i64 []⟩] b := fun h => by simp [FootL, Value.ownBlock] at h
theorem recRows_own {w : World} {bu au : Bool} {a1 a2 a3 : Option Addr} {c1 c2 c3 : Nat} {b1 b2 b3 : List Int} {e1 e2 e3 : TypeId} {k t p g s u n : Int}
  (h1 : Own 0 e1 .u8 w (.slice a1 b1.length c1) b1) (h2 : Own 0 e2 .u8 w (.slice a2 b2.length c2) b2) (h3 : Own 0 e3 .u8 w (.slice a3 b3.length c3) b3)
  (d12 : ∀ b, (Value.slice a1 b1.length c1).ownBlock = some b → ¬ (Value.slice a2 b2.length c2).ownBlock = some b) (d13 : ∀ b, (Value.slice a1 b1.length c1).ownBlock = some b → ¬ (Value.slice a3 b3.length c3).ownBlock = some b) (d23 : ∀ b, (Value.slice a2 b2.length c2).ownBlock = some b → ¬ (Value.slice a3 b3.length c3).ownBlock = some b) :
  OwnL w (StLogRecord.rows ⟨k, t, p, g, s, ⟨bu, ⟨e1, a1, c1, b1⟩⟩, ⟨au, ⟨e2, a2, c2, b2⟩⟩, u, n, ⟨0, none, 0, 0, []⟩, ⟨0, none, 0, 0, []⟩, ⟨e3, a3, c3, b3⟩⟩) := by
 have F1 : ∀ b, FootL (StPageRecord.rows ⟨bu, ⟨e1, a1, c1, b1⟩⟩) b → (Value.slice a1 b1.length c1).ownBlock = some b := fun b hb => (footL_ints _ _ _ _ _).1 hb
 have F2 : ∀ b, FootL (StPageRecord.rows ⟨au, ⟨e2, a2, c2, b2⟩⟩) b → (Value.slice a2 b2.length c2).ownBlock = some b := fun b hb => (footL_ints _ _ _ _ _).1 hb
 have F3 : ∀ b, FootL [ints e3 .u8 (.slice a3 b3.length c3) b3] b → (Value.slice a3 b3.length c3).ownBlock = some b := fun b hb => (footL_ints _ _ _ _ _).1 hb
 have H4 : OwnL w (FR.rows 2 ⟨0, none, 0, 0, []⟩ ++ [ints e3 .u8 (.slice a3 b3.length c3) b3]) := (nilRow_own w 0 2).append (OwnL.one h3) (fun b hb => absurd hb (nilRow_foot 0 2 b))
 have G4 : ∀ b, FootL (FR.rows 2 ⟨0, none, 0, 0, []⟩ ++ [ints e3 .u8 (.slice a3 b3.length c3) b3]) b → (Value.slice a3 b3.length c3).ownBlock = some b := fun b hb => ((FootL_append _ _ _).1 hb).elim (fun h => absurd h (nilRow_foot 0 2 b)) (F3 b)
 have H3 : OwnL w (FR.rows 4 ⟨0, none, 0, 0, []⟩ ++ (FR.rows 2 ⟨0, none, 0, 0, []⟩ ++ [ints e3 .u8 (.slice a3 b3.length c3) b3])) := (nilRow_own w 0 4).append H4 (fun b hb => absurd hb (nilRow_foot 0 4 b))
 have G3 : ∀ b, FootL (FR.rows 4 ⟨0, none, 0, 0, []⟩ ++ (FR.rows 2 ⟨0, none, 0, 0, []⟩ ++ [ints e3 .u8 (.slice a3 b3.length c3) b3])) b → (Value.slice a3 b3.length c3).ownBlock = some b := fun b hb => ((FootL_append _ _ _).1 hb).elim (fun h => absurd h (nilRow_foot 0 4 b)) (G4 b)
 refine OwnL.append (OwnL.one h1) (OwnL.append (OwnL.one h2) H3 (fun b hb hc => d23 b (F2 b hb) (G3 b hc))) (fun b hb hc => ?_)
 rcases (FootL_append _ _ _).1 hc with hc | hc
 ·exact d12 b (F1 b hb) (F2 b hc)
 ·exact d13 b (F1 b hb) (G3 b hc)
theorem recRows_foot {bu au : Bool} {a1 a2 a3 : Option Addr} {c1 c2 c3 : Nat} {b1 b2 b3 : List Int} {e1 e2 e3 : TypeId} {k t p g s u n : Int} {b : Nat}
  (h : FootL (StLogRecord.rows ⟨k, t, p, g, s, ⟨bu, ⟨e1, a1, c1, b1⟩⟩, ⟨au, ⟨e2, a2, c2, b2⟩⟩, u, n, ⟨0, none, 0, 0, []⟩, ⟨0, none, 0, 0, []⟩, ⟨e3, a3, c3, b3⟩⟩) b) :
  (Value.slice a1 b1.length c1).ownBlock = some b ∨ (Value.slice a2 b2.length c2).ownBlock = some b ∨ (Value.slice a3 b3.length c3).ownBlock = some b := by
 rcases (FootL_append _ _ _).1 h with h | h
 ·exact .inl ((footL_ints _ _ _ _ _).1 h)
 rcases (FootL_append _ _ _).1 h with h | h
 ·exact .inr (.inl ((footL_ints _ _ _ _ _).1 h))
 rcases (FootL_append _ _ _).1 h with h | h
 ·exact absurd h (nilRow_foot 0 4 b)
 rcases (FootL_append _ _ _).1 h with h | h
 ·exact absurd h (nilRow_foot 0 2 b)
 ·exact .inr (.inr ((footL_ints _ _ _ _ _).1 h))
def undoFd (d : RcY) : RcY := if d.1 = 1 ∧ recFd d = 0 then (2, d.2.1, 0, d.2.2.2.1, d.2.2.2.2.1, (false, []), d.2.2.2.2.2.1, d.2.2.1, 0, [], [], []) else (0, 0, 0, 0, 0, (false, []), (false, []), 0, 0, [], [], [])
theorem undoFd_yes {d : RcY} (h : d.1 = 1 ∧ recFd d = 0) : undoFd d = (2, d.2.1, 0, d.2.2.2.1, d.2.2.2.2.1, (false, []), d.2.2.2.2.2.1, d.2.2.1, 0, [], [], []) := if_pos h
theorem undoFd_no {d : RcY} (h : ¬ (d.1 = 1 ∧ recFd d = 0)) : undoFd d = (0, 0, 0, 0, 0, (false, []), (false, []), 0, 0, [], [], []) := if_neg h
theorem zeroLR_own (w : World) : OwnL w (StLogRecord.rows ⟨0, 0, 0, 0, 0, ⟨false, ⟨0, none, 0, []⟩⟩, ⟨false, ⟨0, none, 0, []⟩⟩, 0, 0, ⟨0, none, 0, 0, []⟩, ⟨0, none, 0, 0, []⟩, ⟨0, none, 0, []⟩⟩) := recRows_own (Own.nil 0 0 .u8 w) (Own.nil 0 0 .u8 w) (Own.nil 0 0 .u8 w) (fun b h => by simp [Value.ownBlock] at h) (fun b h => by simp [Value.ownBlock] at h) (fun b h => by simp [Value.ownBlock] at h)
theorem zeroLR_foot (b : Nat) : ¬ FootL (StLogRecord.rows ⟨0, 0, 0, 0, 0, ⟨false, ⟨0, none, 0, []⟩⟩, ⟨false, ⟨0, none, 0, []⟩⟩, 0, 0, ⟨0, none, 0, 0, []⟩, ⟨0, none, 0, 0, []⟩, ⟨0, none, 0, []⟩⟩) b := fun h => by rcases recRows_foot h with h | h | h <;> simp [Value.ownBlock] at h
structure Grew (w : World) (v : Value) (w' : World) (v' : Value) : Prop where
 kept : Kept (fun b => v.ownBlock = some b) w w'
 own : ∀ b, v'.ownBlock = some b → v.ownBlock = some b ∨ w.heap.size ≤ b
theorem Grew.trans {w w1 w2 : World} {v v1 v2 : Value} (h : Grew w v w1 v1) (k : Grew w1 v1 w2 v2) : Grew w v w2 v2 := by
 refine ⟨h.kept.next k.kept (fun i hi e => (h.own i e).resolve_right (by omega)), fun b hb => ?_⟩
 rcases k.own b hb with h1 | h1
 ·exact h.own b h1
 ·have := h.kept.size
  exact .inr (by omega)
theorem Grew.of_same {w w' : World} {v : Value} (h : Same w w') : Grew w v w' v := ⟨h.mono (fun _ _ e => absurd e id), fun b hb => .inl hb⟩
theorem Grew.refl (w : World) (v : Value) : Grew w v w v := Grew.of_same (Kept.refl _ _)
theorem Grew.size {w w' : World} {v v' : Value} (h : Grew w v w' v') : w.heap.size ≤ w'.heap.size := h.kept.size
theorem Grew.same {w0 w w' : World} {v v' : Value} (h : Grew w v w' v') (h0 : Same w0 w) (hv : ∀ b, v.ownBlock = some b → w0.heap.size ≤ b) : Same w0 w' :=
 h0.next h.kept (fun i hi e => by have := hv i e; omega)
theorem Grew.fresh {w0 w w' : World} {v v' : Value} (h : Grew w v w' v') (h0 : Same w0 w) (hv : ∀ b, v.ownBlock = some b → w0.heap.size ≤ b) : ∀ b, v'.ownBlock = some b → w0.heap.size ≤ b := fun b hb => by
 rcases h.own b hb with h1 | h1
 ·exact hv b h1
 ·have := h0.size
  omega
theorem run_app {ty : TypeId} {w : World} {v x : Value} {bs ys : List Int} (ho : Own 0 5 .u8 w v bs) (hx : Rd .u8 w x ys) (hl : bs.length + ys.length ≤ 1099511627776) :
  ∃ a n c w', (Builtin.append_ #[22, 22] ty #[v, x]).run Try.prog w = .ok (.slice a n c) w' ∧ Own 0 5 .u8 w' (.slice a n c) (bs ++ ys) ∧ Grew w v w' (.slice a n c) := by
 obtain ⟨i0, hi, hz0, hz1, hz2⟩ := info_parts Try.infoByte'
 have some_case : ∀ (ad : Addr) (c : Nat), (∀ j u, (vals .u8 ys)[j]? = some u → w.cell? (ad.add j) = some u) → ∃ a n c' w', (Builtin.append_ #[22, 22] ty #[v, .slice (some ad) ys.length c]).run Try.prog w = .ok (.slice a n c') w' ∧ Own 0 5 .u8 w' (.slice a n c') (bs ++ ys) ∧ Grew w v w' (.slice a n c') := fun ad c hn => by
  obtain ⟨v', w', hr, h2, h3, _, h5⟩ := run_append_own_at (P := Try.prog) w 0 22 ty 5 i0 (.int .u8 0) 1 1 Try.underlying22 hi hz0 hz1 hz2 rfl (by decide) v bs.length (vals .u8 bs) ho ad ys.length c (vals .u8 ys) (by simp [vals_length]) hn vals_one (by unfold maxLen; omega) (by omega) (Nat.zero_le _)
  have h2' : Own 0 5 .u8 w' v' (bs ++ ys) := by unfold Own; simpa [vals] using h2
  obtain ⟨a, n, c', rfl⟩ := slice_of_own h2'
  refine ⟨a, n, c', w', hr, h2', Kept.of_grown h3 (fun k e => e), fun b hb => ?_⟩
  rcases h5 with h5 | h5
  ·exact .inl (by rw [← h5]; exact hb)
  ·rw [h5] at hb
   exact .inr (by have := Option.some.inj hb; omega)
 rcases hx.2 with ⟨rfl, a, c, rfl, hac⟩ | ⟨b, off, c, rfl, _, hc⟩
 ·cases a with
  | none =>
   obtain rfl : c = 0 := hac rfl
   have hr := run_append_owned_none (P := Try.prog) (w := w) 0 22 ty 5 i0 1 Try.underlying22 hi v bs.length (vals .u8 bs) ho
   obtain ⟨a, n, c', rfl⟩ := slice_of_own ho
   exact ⟨a, n, c', w, hr, by rw [List.append_nil]; exact ho, Grew.refl _ _⟩
  | some ad => exact some_case ad c (fun j u h => by simp [vals] at h)
 ·exact some_case ⟨b, off, none⟩ c (news_of hc)
theorem wp_app {w : World} {o : Oper} {a : Act} {K : Act → World → Prop} {Q : Exit → Act → World → Prop} (s x : Operand)
  (ho : o.op = .call { callee := .builtin .append, args := #[s, x], argTypes := #[22, 22] })
  (v xv : Value) (bs ys : List Int) (hs : a.eval s = v) (hx : a.eval x = xv) (hown : Own 0 5 .u8 w v bs) (hrd : Rd .u8 w xv ys) (hl : bs.length + ys.length ≤ 1099511627776)
  (h : ∀ a' n' c' w', Own 0 5 .u8 w' (.slice a' n' c') (bs ++ ys) → Grew w v w' (.slice a' n' c') → K (a.put o.dst (.slice a' n' c')) w') : o.wp Try.prog a w K Q := by
 obtain ⟨a', n', c', w', hr, h2, h3⟩ := run_app (ty := o.type) hown hrd hl
 unfold Oper.wp execOp
 simp only [ho, resolve, invoke, builtin, Sem.run_bind, Sem.run_pure, Result.andThen_ok, List.map_toArray, List.map_cons, List.map_nil, hs, hx, hr]
 exact h a' n' c' w' h2 h3
theorem wpList_app {w : World} {ops : Array Oper} {rest : List Oper} {o : Oper} {a : Act} {Q : Exit → Act → World → Prop} (hgd : o.guard = none) (s x : Operand)
  (ho : o.op = .call { callee := .builtin .append, args := #[s, x], argTypes := #[22, 22] })
  (v xv : Value) (bs ys : List Int) (hs : a.eval s = v) (hx : a.eval x = xv) (hown : Own 0 5 .u8 w v bs) (hrd : Rd .u8 w xv ys) (hl : bs.length + ys.length ≤ 1099511627776)
  (h : ∀ a' n' c' w', Own 0 5 .u8 w' (.slice a' n' c') (bs ++ ys) → Grew w v w' (.slice a' n' c') → wpList Try.prog ops Q rest (a.put o.dst (.slice a' n' c')) w') : wpList Try.prog ops Q (o :: rest) a w :=
 wpList_plain hgd fun _ hK => wp_app s x ho v xv bs ys hs hx hown hrd hl fun a' n' c' w' h2 h3 => hK _ _ (h a' n' c' w' h2 h3)
theorem step_app {w : World} {ops : Array Oper} {o : Oper} {a : Act} {K : Act → World → Prop} {Q : Exit → Act → World → Prop} {E : Prop} (hgd : o.guard = none) (s x : Operand)
  (ho : o.op = .call { callee := .builtin .append, args := #[s, x], argTypes := #[22, 22] })
  (v xv : Value) (bs ys : List Int) (hs : a.eval s = v) (hx : a.eval x = xv) (hown : Own 0 5 .u8 w v bs) (hrd : Rd .u8 w xv ys) (hl : bs.length + ys.length ≤ 1099511627776)
  (h : ∀ a' n' c' w', Own 0 5 .u8 w' (.slice a' n' c') (bs ++ ys) → Grew w v w' (.slice a' n' c') → K (a.put o.dst (.slice a' n' c')) w') :
  if Region.wanted o (yielded ops a.tmps) = true then Oper.wp Try.prog o a w K Q else E := by
 have hw : Region.wanted o (yielded ops a.tmps) = true := by simp [Region.wanted, hgd]
 rw [if_pos hw]
 exact wp_app s x ho v xv bs ys hs hx hown hrd hl h
theorem rd_one (w : World) (x : Int) : Rd .u8 (w.alloc (.cells #[.int .u8 x] 5)) (.slice (some ⟨w.heap.size, 0, none⟩) 1 1) [x] := by
 have h : Blk (w.alloc (.cells #[.int .u8 x] 5)) w.heap.size 5 (vals .u8 [x]) := Blk.new w #[.int .u8 x] 5
 exact (h.own (by unfold maxLen; simp)).rd
theorem l4Put_own (v : Value) (bs : List Int) (x n : Int) (w : World) (hx : IsI x) (hn : IsI n) (hl : bs.length ≤ 1073741824) (ho : Own 0 5 .u8 w v bs) :
  Calls Try.prog 79 #[v, .int .i64 x, .int .i64 n] w fun e w' => ∃ aa nn cc, e = .returned (.slice aa nn cc) ∧ Own 0 5 .u8 w' (.slice aa nn cc) (bs ++ numB x n) ∧ Grew w v w' (.slice aa nn cc) := by
 have hP := specPut_any x n w hx hn
 have hnl := numB_length x n
 have HO := (show Hid (Own 0 5 .u8 w v bs) from ho)
 clear ho
 go_enter Try.func79, Try.ntmps79
 go_wp2_with (first
  | (go_at_call 33; refine hP.mono ?_; rintro e w1 ⟨a1, c1, rfl, hf1, ho1, hk1⟩; have HR1 := (show Hid (Rd .u8 w1 (.slice a1 (numB x n).length c1) (numB x n)) from ho1.rd); have HK1 := (show Hid (Same w w1) from hk1); clear hf1 ho1 hk1)
  | (at_builtin; refine wpList_app rfl (.tmp 7) (.tmp 10) rfl v (.slice a1 (numB x n).length c1) bs (numB x n) rfl rfl (HO.out.same HK1.out) HR1.out (by omega) ?_; intro a2 n2 c2 w2 hown2 hk2; have HF := (show Hid (Own 0 5 .u8 w2 (.slice a2 n2 c2) (bs ++ numB x n)) from hown2); have HK := (show Hid (Grew w v w2 (.slice a2 n2 c2)) from (Grew.of_same HK1.out).trans hk2); clear hown2 hk2))
 go_ret
 exact ⟨a2, n2, c2, rfl, HF.out, HK.out⟩
def partB (u : Bool) (d : List Int) : List Int := if u = true then 1 :: (numB d.length 2 ++ d) else [0]
theorem partB_length (u : Bool) (d : List Int) : (partB u d).length ≤ d.length + 9 := by
 unfold partB
 have := numB_length d.length 2
 split
 ·simp; omega
 ·simp
theorem l4PutSlot_own (v : Value) (bs : List Int) (u : Bool) (dv : Value) (d : List Int) (w : World) (hd : d.length ≤ 1073741824) (hl : bs.length ≤ 1073741000) (hR : ∀ wx, Kept (fun b => v.ownBlock = some b) w wx → Rd .u8 wx dv d) (ho : Own 0 5 .u8 w v bs) :
  Calls Try.prog 83 #[v, .agg #[.bool u, dv]] w fun e w' => ∃ aa nn cc, e = .returned (.slice aa nn cc) ∧ Own 0 5 .u8 w' (.slice aa nn cc) (bs ++ partB u d) ∧ Grew w v w' (.slice aa nn cc) := by
 obtain ⟨da, dc, rfl⟩ := (hR w (Kept.refl _ _)).form
 have HNB := (show Hid (¬ v.ownBlock = some w.heap.size) from fun e => by have := (ho.lt _ e).2; omega)
 have HO := (show Hid (Own 0 5 .u8 w v bs) from ho)
 have HR := (show Hid (∀ wx, Kept (fun b => v.ownBlock = some b) w wx → Rd .u8 wx (.slice da d.length dc) d) from hR)
 clear ho hR
 cases u with
 | false =>
  have HKB := hid (sameA2 w [.bool false, .slice da d.length dc] 44 [.int .u8 0] 5)
  have HX1 := (show Hid (Rd .u8 ((w.alloc (.cells #[.bool false, .slice da d.length dc] 44)).alloc (.cells #[.int .u8 0] 5)) (.slice (some ⟨w.heap.size + 1, 0, none⟩) 1 1) [0]) from by have h := rd_one (w.alloc (.cells #[.bool false, .slice da d.length dc] 44)) 0; simpa [Hid] using h)
  go_enter Try.func83, Try.ntmps83
  go_wp2_with (at_builtin; refine wpList_app rfl (.tmp 8) (.tmp 9) rfl v (.slice (some ⟨w.heap.size + 1, 0, none⟩) 1 1) bs [0] rfl rfl (HO.out.same HKB.out) HX1.out (by simp; omega) ?_; intro a2 n2 c2 w2 hown2 hk2; have HF := (show Hid (Own 0 5 .u8 w2 (.slice a2 n2 c2) (bs ++ [0])) from hown2); have HK := (show Hid (Grew w v w2 (.slice a2 n2 c2)) from (Grew.of_same HKB.out).trans hk2); clear hown2 hk2)
  go_ret
  exact ⟨a2, n2, c2, rfl, HF.out, HK.out⟩
 | true =>
  have HKB := (show Hid (Same w ((w.alloc (.cells #[.bool true, .slice da d.length dc] 44)).drew.alloc (.cells #[.int .u8 1] 5))) from ((Kept.refl _ _).alloc _).drew.alloc _)
  have HX1 := (show Hid (Rd .u8 ((w.alloc (.cells #[.bool true, .slice da d.length dc] 44)).drew.alloc (.cells #[.int .u8 1] 5)) (.slice (some ⟨w.heap.size + 1, 0, none⟩) 1 1) [1]) from by have h := rd_one (w.alloc (.cells #[.bool true, .slice da d.length dc] 44)).drew 1; simpa [Hid] using h)
  have HZB := (show Hid (w.heap.size + 1 ≤ ((w.alloc (.cells #[.bool true, .slice da d.length dc] 44)).drew.alloc (.cells #[.int .u8 1] 5)).heap.size) from by simp [Hid])
  have bA := Blk.newL w [.bool true, .slice da d.length dc] 44
  have bB : Blk ((w.alloc (.cells #[.bool true, .slice da d.length dc] 44)).drew.alloc (.cells #[.int .u8 1] 5)) w.heap.size 44 [.bool true, .slice da d.length dc] := bA.drew.alloc _
  have hnl := numB_length d.length 2
  go_enter Try.func83, Try.ntmps83
  go_wp2_with fail
  have hS : ((fun wx : World => wx.cell? ⟨w.heap.size, 0, none⟩ = some (.bool true) ∧ wx.cell? ⟨w.heap.size, 1, none⟩ = some (.slice da d.length dc))) (w.alloc (.cells #[.bool true, .slice da d.length dc] 44)).drew := by exact ⟨bA.cell 0, bA.cell 1⟩
  refine wp_region_V ((fun wx : World => wx.cell? ⟨w.heap.size, 0, none⟩ = some (.bool true) ∧ wx.cell? ⟨w.heap.size, 1, none⟩ = some (.slice da d.length dc))) 99 11 rfl (by kernel_rfl) ?_
  refine tk 0 11 hS ?_
  refine tk 3 14 hS ?_
  refine tk 4 15 hS ?_
  refine tk 5 16 hS ?_
  refine tk 7 18 hS ?_
  refine tk 8 19 hS ?_
  refine wpAnyV_one (i := 1) (by kernel_rfl) rfl (fun K hK => ?_)
  go_simp
  have hS : ((fun wx : World => wx.cell? ⟨w.heap.size, 0, none⟩ = some (.bool true) ∧ wx.cell? ⟨w.heap.size, 1, none⟩ = some (.slice da d.length dc))) ((w.alloc (.cells #[.bool true, .slice da d.length dc] 44)).drew.alloc (.cells #[.int .u8 1] 5)) := by exact ⟨bB.cell 0, bB.cell 1⟩
  refine hK.out _ _ (fun _ => hS) ?_
  clear hK K
  try simp only [Act.put, sA, s0, sS]
  refine wpAnyV_one (i := 2) (by kernel_rfl) rfl (fun K hK => ?_)
  refine step_app (by rfl) (.tmp 11) (.tmp 12) (by rfl) v (.slice (some ⟨w.heap.size + 1, 0, none⟩) 1 1) bs [1] (by rfl) (by rfl) (HO.out.same HKB.out) HX1.out (by simp; omega) ?_
  intro a2 n2 c2 w2 hown2 hk2
  have HO2 := (show Hid (Own 0 5 .u8 w2 (.slice a2 n2 c2) (bs ++ [1])) from hown2)
  have HG2 := (show Hid (Grew w v w2 (.slice a2 n2 c2)) from (Grew.of_same HKB.out).trans hk2)
  have b2 := bB.kept hk2.kept HNB.out
  have HN2 := (show Hid (¬ (Value.slice a2 n2 c2).ownBlock = some w.heap.size) from fun e => (hk2.own _ e).elim HNB.out (fun h => by have h := Nat.le_trans HZB.out h; omega))
  clear hown2 hk2
  have hS : ((fun wx : World => wx.cell? ⟨w.heap.size, 0, none⟩ = some (.bool true) ∧ wx.cell? ⟨w.heap.size, 1, none⟩ = some (.slice da d.length dc))) w2 := by exact ⟨b2.cell 0, b2.cell 1⟩
  refine hK.out _ _ (fun _ => hS) ?_
  clear hK K
  try simp only [Act.put, sA, s0, sS]
  refine wpAnyV_one (i := 6) (by kernel_rfl) rfl (fun K hK => ?_)
  go_simp
  refine (l4Put_own _ (bs ++ [1]) d.length 2 w2 (by unfold IsI; omega) (by unfold IsI; omega) (by simp; omega) HO2.out).mono ?_
  rintro e w3 ⟨a3, n3, c3, rfl, hown3, hk3⟩
  have HO3 := (show Hid (Own 0 5 .u8 w3 (.slice a3 n3 c3) ((bs ++ [1]) ++ numB d.length 2)) from hown3)
  have HG3 := (show Hid (Grew w v w3 (.slice a3 n3 c3)) from HG2.out.trans hk3)
  have b3 := b2.kept hk3.kept HN2.out
  have HN3 := (show Hid (¬ (Value.slice a3 n3 c3).ownBlock = some w.heap.size) from fun e => (hk3.own _ e).elim HN2.out (fun h => by have h := Nat.lt_of_lt_of_le b2.lt h; omega))
  clear hown3 hk3
  have hS : ((fun wx : World => wx.cell? ⟨w.heap.size, 0, none⟩ = some (.bool true) ∧ wx.cell? ⟨w.heap.size, 1, none⟩ = some (.slice da d.length dc))) w3 := by exact ⟨b3.cell 0, b3.cell 1⟩
  refine hK.out _ _ (fun _ => hS) ?_
  clear hK K
  try simp only [Act.put, sA, s0, sS]
  refine wpAnyV_one (i := 9) (by kernel_rfl) rfl (fun K hK => ?_)
  refine step_app (by rfl) (.tmp 17) (.tmp 19) (by rfl) (.slice a3 n3 c3) (.slice da d.length dc) _ d (by rfl) (by rfl) HO3.out (HR.out _ HG3.out.kept) (by simp; omega) ?_
  intro a4 n4 c4 w4 hown4 hk4
  have HO4 := (show Hid (Own 0 5 .u8 w4 (.slice a4 n4 c4) (((bs ++ [1]) ++ numB d.length 2) ++ d)) from hown4)
  have HG4 := (show Hid (Grew w v w4 (.slice a4 n4 c4)) from HG3.out.trans hk4)
  have b4 := b3.kept hk4.kept HN3.out
  clear hown4 hk4
  have hS : ((fun wx : World => wx.cell? ⟨w.heap.size, 0, none⟩ = some (.bool true) ∧ wx.cell? ⟨w.heap.size, 1, none⟩ = some (.slice da d.length dc))) w4 := by exact ⟨b4.cell 0, b4.cell 1⟩
  refine hK.out _ _ (fun _ => hS) ?_
  clear hK K
  try simp only [Act.put, sA, s0, sS]
  refine tk 10 4 hS ?_
  refine wpAnyV_done (by kernel_rfl) ?_
  go_wp2
  go_ret
  exact ⟨a4, n4, c4, rfl, by simpa [partB] using HO4.out, HG4.out⟩
def txB (bs : List Int) (i : Nat) : List Int := numB (bs.getD (i * 4) 0) 4 ++ numB (bs.getD (i * 4 + 1) 0) 1 ++ numB (bs.getD (i * 4 + 2) 0) 8 ++ numB (bs.getD (i * 4 + 3) 0) 8
def dyB (bs : List Int) (i : Nat) : List Int := numB (bs.getD (i * 2) 0) 2 ++ numB (bs.getD (i * 2 + 1) 0) 8
def txsB (bs : List Int) (n : Nat) : List Int := (List.range n).flatMap (txB bs)
def dysB (bs : List Int) (n : Nat) : List Int := (List.range n).flatMap (dyB bs)
theorem txsB_succ (bs : List Int) (n : Nat) : txsB bs (n + 1) = txsB bs n ++ txB bs n := by simp [txsB, List.range_succ]
theorem dysB_succ (bs : List Int) (n : Nat) : dysB bs (n + 1) = dysB bs n ++ dyB bs n := by simp [dysB, List.range_succ]
theorem txsB_zero (bs : List Int) : txsB bs 0 = [] := rfl
theorem dysB_zero (bs : List Int) : dysB bs 0 = [] := rfl
theorem txsB_length (bs : List Int) (n : Nat) : (txsB bs n).length ≤ 32 * n := by
 induction n with
 | zero => simp [txsB]
 | succ n ih =>
  rw [txsB_succ, List.length_append]
  have h0 := numB_length (bs.getD (n * 4) 0) 4
  have h1 := numB_length (bs.getD (n * 4 + 1) 0) 1
  have h2 := numB_length (bs.getD (n * 4 + 2) 0) 8
  have h3 := numB_length (bs.getD (n * 4 + 3) 0) 8
  simp only [txB, List.length_append]
  omega
theorem dysB_length (bs : List Int) (n : Nat) : (dysB bs n).length ≤ 16 * n := by
 induction n with
 | zero => simp [dysB]
 | succ n ih =>
  rw [dysB_succ, List.length_append]
  have h0 := numB_length (bs.getD (n * 2) 0) 2
  have h1 := numB_length (bs.getD (n * 2 + 1) 0) 8
  simp only [dyB, List.length_append]
  omega
def headR (kind txn prev : Int) : List Int := ([kind] ++ numB txn 4) ++ numB prev 8
def recBy (kind txn prev page slot : Int) (bu : Bool) (bb : List Int) (au : Bool) (ab : List Int) (un nt : Int) (tx dy im : List Int) : List Int :=
 if kind = 1 then (((headR kind txn prev ++ numB page 2) ++ numB slot 2) ++ partB bu bb) ++ partB au ab
 else if kind = 2 then (((headR kind txn prev ++ numB page 2) ++ numB slot 2) ++ partB au ab) ++ numB un 8
 else if kind = 7 then (((((headR kind txn prev ++ numB nt 4) ++ numB (tx.length / 4 : Nat) 1) ++ txsB tx (tx.length / 4)) ++ numB (dy.length / 2 : Nat) 1) ++ dysB dy (dy.length / 2))
 else if kind = 8 then (headR kind txn prev ++ numB page 2) ++ im
 else headR kind txn prev
def recBd (d : RcY) : List Int := recBy d.1 d.2.1 d.2.2.1 d.2.2.2.1 d.2.2.2.2.1 d.2.2.2.2.2.1.1 d.2.2.2.2.2.1.2 d.2.2.2.2.2.2.1.1 d.2.2.2.2.2.2.1.2 d.2.2.2.2.2.2.2.1 d.2.2.2.2.2.2.2.2.1 d.2.2.2.2.2.2.2.2.2.1 d.2.2.2.2.2.2.2.2.2.2.1 d.2.2.2.2.2.2.2.2.2.2.2
theorem headR_length (kind txn prev : Int) : (headR kind txn prev).length ≤ 17 := by
 have h0 := numB_length txn 4
 have h1 := numB_length prev 8
 simp only [headR, List.length_append, List.length_singleton]
 omega
theorem orF_zero {a b c : Int} (h : orF a b c = 0) : a = 0 ∧ b = 0 ∧ c = 0 := by
 unfold orF at h
 split at h
 ·omega
 ·split at h
  ·omega
  ·omega
theorem headF_zero {t p : Int} (h : headF t p = 0) : (1 ≤ t ∧ t ≤ 2147483647) ∧ (0 ≤ p ∧ p ≤ 1099511627776) := by
 unfold headF at h
 split at h
 ·omega
 ·split at h
  ·omega
  ·rename_i h1 h2
   simp [isTxnB, isLSN] at h1 h2
   omega
theorem placeF_zero {p s : Int} (h : placeF p s = 0) : (0 ≤ p ∧ p < 16) ∧ (0 ≤ s ∧ s < 32) := by
 unfold placeF at h
 split at h
 ·rename_i h1
  simp [isPageB, isSlotB] at h1
  omega
 ·omega
theorem updF_zero {bu au : Bool} {bn an : Nat} (h : updF bu au bn an = 0) : bn ≤ 1000 ∧ an ≤ 1000 := by
 unfold updF at h
 split at h
 ·rename_i h1
  simp [fitsB] at h1
  omega
 ·omega
theorem undF_zero {au : Bool} {an : Nat} {un : Int} (h : undF au an un = 0) : an ≤ 1000 ∧ (0 ≤ un ∧ un ≤ 1099511627776) := by
 unfold undF at h
 split at h
 ·omega
 ·split at h
  ·omega
  ·rename_i h1 h2
   simp [fitsB, isLSN] at h1 h2
   omega
theorem good1 {txn prev page slot un nt : Int} {bu au : Bool} {bb ab tx dy im : List Int} (h : recF 1 txn prev page slot bu bb au ab un nt tx dy im = 0) : ((1 ≤ txn ∧ txn ≤ 2147483647) ∧ (0 ≤ prev ∧ prev ≤ 1099511627776)) ∧ ((0 ≤ page ∧ page < 16) ∧ (0 ≤ slot ∧ slot < 32)) ∧ bb.length ≤ 1000 ∧ ab.length ≤ 1000 := by
 unfold recF at h
 rw [if_pos rfl] at h
 split at h
 ·rename_i ha
  obtain ⟨h1, h2, h3⟩ := orF_zero h
  exact ⟨headF_zero h1, placeF_zero h2, updF_zero h3⟩
 ·omega
theorem good2 {txn prev page slot un nt : Int} {bu au : Bool} {bb ab tx dy im : List Int} (h : recF 2 txn prev page slot bu bb au ab un nt tx dy im = 0) : ((1 ≤ txn ∧ txn ≤ 2147483647) ∧ (0 ≤ prev ∧ prev ≤ 1099511627776)) ∧ ((0 ≤ page ∧ page < 16) ∧ (0 ≤ slot ∧ slot < 32)) ∧ ab.length ≤ 1000 ∧ (0 ≤ un ∧ un ≤ 1099511627776) := by
 unfold recF at h
 rw [if_neg (by decide)] at h
 rw [if_pos rfl] at h
 split at h
 ·rename_i ha
  obtain ⟨h1, h2, h3⟩ := orF_zero h
  exact ⟨headF_zero h1, placeF_zero h2, undF_zero h3⟩
 ·omega
theorem good3 {txn prev page slot un nt : Int} {bu au : Bool} {bb ab tx dy im : List Int} (h : recF 3 txn prev page slot bu bb au ab un nt tx dy im = 0) : ((1 ≤ txn ∧ txn ≤ 2147483647) ∧ (0 ≤ prev ∧ prev ≤ 1099511627776)) := by
 unfold recF at h
 rw [if_neg (by decide)] at h
 rw [if_neg (by decide)] at h
 rw [if_pos rfl] at h
 split at h
 ·rename_i ha
  exact headF_zero h
 ·omega
theorem good4 {txn prev page slot un nt : Int} {bu au : Bool} {bb ab tx dy im : List Int} (h : recF 4 txn prev page slot bu bb au ab un nt tx dy im = 0) : ((1 ≤ txn ∧ txn ≤ 2147483647) ∧ (0 ≤ prev ∧ prev ≤ 1099511627776)) := by
 unfold recF at h
 rw [if_neg (by decide)] at h
 rw [if_neg (by decide)] at h
 rw [if_neg (by decide)] at h
 rw [if_pos rfl] at h
 split at h
 ·rename_i ha
  exact headF_zero h
 ·omega
theorem good5 {txn prev page slot un nt : Int} {bu au : Bool} {bb ab tx dy im : List Int} (h : recF 5 txn prev page slot bu bb au ab un nt tx dy im = 0) : ((1 ≤ txn ∧ txn ≤ 2147483647) ∧ (0 ≤ prev ∧ prev ≤ 1099511627776)) := by
 unfold recF at h
 rw [if_neg (by decide)] at h
 rw [if_neg (by decide)] at h
 rw [if_neg (by decide)] at h
 rw [if_neg (by decide)] at h
 rw [if_pos rfl] at h
 split at h
 ·rename_i ha
  exact headF_zero h
 ·omega
theorem good6 {txn prev page slot un nt : Int} {bu au : Bool} {bb ab tx dy im : List Int} (h : recF 6 txn prev page slot bu bb au ab un nt tx dy im = 0) : txn = 0 ∧ prev = 0 := by
 unfold recF at h
 rw [if_neg (by decide)] at h
 rw [if_neg (by decide)] at h
 rw [if_neg (by decide)] at h
 rw [if_neg (by decide)] at h
 rw [if_neg (by decide)] at h
 rw [if_pos rfl] at h
 split at h
 ·rename_i ha
  simp [alone6] at ha
  omega
 ·omega
theorem good7 {txn prev page slot un nt : Int} {bu au : Bool} {bb ab tx dy im : List Int} (h : recF 7 txn prev page slot bu bb au ab un nt tx dy im = 0) : txn = 0 ∧ prev = 0 ∧ (1 ≤ nt ∧ nt ≤ 2147483648) ∧ allTxns tx (tx.length / 4) = true ∧ allDirty dy (dy.length / 2) = true := by
 unfold recF at h
 rw [if_neg (by decide)] at h
 rw [if_neg (by decide)] at h
 rw [if_neg (by decide)] at h
 rw [if_neg (by decide)] at h
 rw [if_neg (by decide)] at h
 rw [if_neg (by decide)] at h
 rw [if_pos rfl] at h
 split at h
 ·rename_i ha
  simp [alone7] at ha
  unfold tabF at h
  split at h
  ·rename_i h1
   simp at h1
   exact ⟨by omega, by omega, by omega, h1.1.2, h1.2⟩
  ·omega
 ·omega
theorem good8 {txn prev page slot un nt : Int} {bu au : Bool} {bb ab tx dy im : List Int} (h : recF 8 txn prev page slot bu bb au ab un nt tx dy im = 0) : txn = 0 ∧ prev = 0 ∧ (0 ≤ page ∧ page < 16) ∧ im.length = 4096 := by
 unfold recF at h
 rw [if_neg (by decide)] at h
 rw [if_neg (by decide)] at h
 rw [if_neg (by decide)] at h
 rw [if_neg (by decide)] at h
 rw [if_neg (by decide)] at h
 rw [if_neg (by decide)] at h
 rw [if_neg (by decide)] at h
 rw [if_pos rfl] at h
 split at h
 ·rename_i ha
  simp [alone8] at ha
  unfold imgF at h
  split at h
  ·omega
  ·split at h
   ·omega
   ·rename_i h1 h2
    have h3 : pageFault im page = 0 := by omega
    simp [isPageB] at h1
    refine ⟨by omega, by omega, by omega, ?_⟩
    unfold pageFault at h3
    split at h3
    ·omega
    ·omega
 ·omega
theorem kind_good {kind : Int} {txn prev page slot un nt : Int} {bu au : Bool} {bb ab tx dy im : List Int} (h : recF kind txn prev page slot bu bb au ab un nt tx dy im = 0) : 1 ≤ kind ∧ kind ≤ 8 := by
 unfold recF at h
 repeat (split at h; · omega)
 omega
theorem tXgood {bs : List Int} {n : Nat} (h : allTxns bs n = true) : n ≤ 8 ∧ ∀ i, i < n → (1 ≤ bs.getD (i * 4) 0 ∧ bs.getD (i * 4) 0 ≤ 2147483647) ∧ (1 ≤ bs.getD (i * 4 + 1) 0 ∧ bs.getD (i * 4 + 1) 0 ≤ 3) ∧ (1 ≤ bs.getD (i * 4 + 2) 0 ∧ bs.getD (i * 4 + 2) 0 ≤ 1099511627776) ∧ (0 ≤ bs.getD (i * 4 + 3) 0 ∧ bs.getD (i * 4 + 3) 0 ≤ bs.getD (i * 4 + 2) 0) := by
 unfold allTxns at h
 simp only [Bool.and_eq_true, decide_eq_true_eq, List.all_eq_true, List.mem_range] at h
 refine ⟨h.1, fun i hi => ?_⟩
 have := h.2 i hi
 simp only [atTxns, oneTxns, isTxnB, Bool.and_eq_true, decide_eq_true_eq] at this
 omega
theorem dYgood {bs : List Int} {n : Nat} (h : allDirty bs n = true) : n ≤ 16 ∧ ∀ i, i < n → (0 ≤ bs.getD (i * 2) 0 ∧ bs.getD (i * 2) 0 < 16) ∧ (1 ≤ bs.getD (i * 2 + 1) 0 ∧ bs.getD (i * 2 + 1) 0 ≤ 1099511627776) := by
 unfold allDirty at h
 simp only [Bool.and_eq_true, decide_eq_true_eq, List.all_eq_true, List.mem_range] at h
 refine ⟨h.1, fun i hi => ?_⟩
 have := h.2 i hi
 simp only [atDirty, oneDirty, isPageB, Bool.and_eq_true, decide_eq_true_eq] at this
 omega
def encFd (d : RcY) : List Int := if recFd d ≠ 0 then [] else recBd d
theorem encS_1 (x : StLogRecord) (w : World) (hB : x.isB) (hn : x.szs ≤ 1073741824) (hv : StLogRecord.rd w x) (hk : x.kind = 1) (hz : recFd x.dat = 0) :
  Calls Try.prog 78 #[x.val] w fun e w' => ∃ aa nn cc, e = .returned (.slice aa nn cc) ∧ Own 0 5 .u8 w' (.slice aa nn cc) (recBd x.dat) ∧ (∀ b, (Value.slice aa nn cc).ownBlock = some b → w.heap.size ≤ b) ∧ Same w w' := by
 have hF := fun wx (h : Same w wx) => specRec_any x wx hB hn (StLogRecord.rd.same hv h)
 rw [hz] at hF
 obtain ⟨kind, txn, prev, page, slot, ⟨bU, ⟨bDe, bDa, bDc, bDb⟩⟩, ⟨aU, ⟨aDe, aDa, aDc, aDb⟩⟩, uN, nT, ⟨tXe, tXa, tXn, tXc, tXb⟩, ⟨dYe, dYa, dYn, dYc, dYb⟩, ⟨iMe, iMa, iMc, iMb⟩⟩ := x
 obtain ⟨hvb, hva, hvt, hvd, hvi⟩ := hv
 have HRB := (show Hid (Rd .u8 w (.slice bDa bDb.length bDc) bDb) from hvb)
 have HRA := (show Hid (Rd .u8 w (.slice aDa aDb.length aDc) aDb) from hva)
 have HRI := (show Hid (Rd .u8 w (.slice iMa iMb.length iMc) iMb) from hvi)
 dsimp only at hk
 subst hk
 have hg := (show recF 1 txn prev page slot bU bDb aU aDb uN nT tXb dYb iMb = 0 from hz)
 obtain ⟨⟨hh1, hh2⟩, ⟨hp1, hp2⟩, hb1, hb2⟩ := good1 hg
 simp only [StLogRecord.szs, StPageRecord.szs] at hn
 clear hz hB hvb hva hvt hvd hvi hg
 dsimp only [StLogRecord.val, StPageRecord.val, BS.v, FR.v, recBd, StLogRecord.dat, StPageRecord.dat, recBy] at hF ⊢
 have b0 := Blk.newL w [.int .i64 1, .int .i64 txn, .int .i64 prev, .int .i64 page, .int .i64 slot, .bool bU, .slice bDa bDb.length bDc, .bool aU, .slice aDa aDb.length aDc, .int .i64 uN, .int .i64 nT, .slice tXa tXn tXc, .slice dYa dYn dYc, .slice iMa iMb.length iMc] 48
 have hF := hF _ ((Kept.refl _ _).alloc (.cells #[.int .i64 1, .int .i64 txn, .int .i64 prev, .int .i64 page, .int .i64 slot, .bool bU, .slice bDa bDb.length bDc, .bool aU, .slice aDa aDb.length aDc, .int .i64 uN, .int .i64 nT, .slice tXa tXn tXc, .slice dYa dYn dYc, .slice iMa iMb.length iMc] 48))
 have hwz := (show w.heap.size + 1 = (w.alloc (.cells #[.int .i64 1, .int .i64 txn, .int .i64 prev, .int .i64 page, .int .i64 slot, .bool bU, .slice bDa bDb.length bDc, .bool aU, .slice aDa aDb.length aDc, .int .i64 uN, .int .i64 nT, .slice tXa tXn tXc, .slice dYa dYn dYc, .slice iMa iMb.length iMc] 48)).heap.size from by simp)
 go_enter Try.func78, Try.ntmps78
 go_wp2_with (go_at_call 66; refine hF.mono ?_; rintro e w1 ⟨rfl, hk1⟩; have HK1 := (show Hid (Same (w.alloc (.cells #[.int .i64 1, .int .i64 txn, .int .i64 prev, .int .i64 page, .int .i64 slot, .bool bU, .slice bDa bDb.length bDc, .bool aU, .slice aDa aDb.length aDc, .int .i64 uN, .int .i64 nT, .slice tXa tXn tXc, .slice dYa dYn dYc, .slice iMa iMb.length iMc] 48)) w1) from hk1); have b1 := b0.same HK1.out; clear hk1)
 have hzz := HK1.out.size
 have HK2 := (show Hid (Same (w.alloc (.cells #[.int .i64 1, .int .i64 txn, .int .i64 prev, .int .i64 page, .int .i64 slot, .bool bU, .slice bDa bDb.length bDc, .bool aU, .slice aDa aDb.length aDc, .int .i64 uN, .int .i64 nT, .slice tXa tXn tXc, .slice dYa dYn dYc, .slice iMa iMb.length iMc] 48)) (w1.drew.alloc (.cells #[.int .u8 1] 5))) from HK1.out.drew.alloc _)
 have HO2 := (show Hid (Own 0 5 .u8 (w1.drew.alloc (.cells #[.int .u8 1] 5)) (.slice (some ⟨w1.heap.size, 0, none⟩) 1 1) [1]) from (show Blk (w1.drew.alloc (.cells #[.int .u8 1] 5)) w1.heap.size 5 (vals .u8 [1]) from Blk.new w1.drew #[.int .u8 1] 5).own (by unfold maxLen; simp))
 have HF2 := (show Hid (∀ b, (Value.slice (some ⟨w1.heap.size, 0, none⟩) 1 1).ownBlock = some b → (w.alloc (.cells #[.int .i64 1, .int .i64 txn, .int .i64 prev, .int .i64 page, .int .i64 slot, .bool bU, .slice bDa bDb.length bDc, .bool aU, .slice aDa aDb.length aDc, .int .i64 uN, .int .i64 nT, .slice tXa tXn tXc, .slice dYa dYn dYc, .slice iMa iMb.length iMc] 48)).heap.size ≤ b) from fun b hb => by have hb : w1.heap.size = b := Option.some.inj hb; omega)
 have b2 := b0.same HK2.out
 have hl2 : ([1] : List Int).length ≤ 1 := by simp
 let Y2 : World → Prop := fun wx : World => wx.cell? ⟨w.heap.size, 0, none⟩ = some (.int .i64 1) ∧ wx.cell? ⟨w.heap.size, 1, none⟩ = some (.int .i64 txn) ∧ wx.cell? ⟨w.heap.size, 2, none⟩ = some (.int .i64 prev)
 have hS : Y2 w1.drew := by exact ⟨b1.cell 0, b1.cell 1, b1.cell 2⟩
 refine wp_region_V Y2 99 11 rfl (by kernel_rfl) ?_
 refine tk 0 11 hS ?_
 refine tk 1 12 hS ?_
 refine tk 2 13 hS ?_
 refine tk 4 15 hS ?_
 refine tk 5 16 hS ?_
 refine tk 7 18 hS ?_
 refine tk 8 19 hS ?_
 refine wpAnyV_one (i := 3) (by kernel_rfl) rfl (fun K hK => ?_)
 go_simp
 have hS : Y2 (w1.drew.alloc (.cells #[.int .u8 1] 5)) := by exact ⟨b2.cell 0, b2.cell 1, b2.cell 2⟩
 refine hK.out _ _ (fun _ => hS) ?_
 clear hK K
 try simp only [Act.put, sA, s0, sS]
 refine wpAnyV_one (i := 6) (by kernel_rfl) rfl (fun K hK => ?_)
 go_simp
 refine (l4Put_own _ ([1]) (txn) 4 _ (by unfold IsI; omega) (by unfold IsI; omega) (by omega) HO2.out).mono ?_
 rintro e wq1 ⟨aq1, nq1, cq1, rfl, hown, hg⟩
 have HOq1 := (show Hid (Own 0 5 .u8 wq1 (.slice aq1 nq1 cq1) (([1]) ++ numB (txn) 4)) from hown)
 have HKq1 := hid (hg.same HK2.out HF2.out)
 have HFq1 := hid (hg.fresh HK2.out HF2.out)
 have bq1 := b0.same HKq1.out
 have hlq1 : (([1]) ++ numB (txn) 4).length ≤ 9 := by rw [List.length_append]; have := numB_length (txn) 4; omega
 clear hown hg
 have hS : Y2 wq1 := by exact ⟨bq1.cell 0, bq1.cell 1, bq1.cell 2⟩
 refine hK.out _ _ (fun _ => hS) ?_
 clear hK K
 try simp only [Act.put, sA, s0, sS]
 refine wpAnyV_one (i := 9) (by kernel_rfl) rfl (fun K hK => ?_)
 go_simp
 refine (l4Put_own _ (([1]) ++ numB (txn) 4) (prev) 8 _ (by unfold IsI; omega) (by unfold IsI; omega) (by omega) HOq1.out).mono ?_
 rintro e wq2 ⟨aq2, nq2, cq2, rfl, hown, hg⟩
 have HOq2 := (show Hid (Own 0 5 .u8 wq2 (.slice aq2 nq2 cq2) ((([1]) ++ numB (txn) 4) ++ numB (prev) 8)) from hown)
 have HKq2 := hid (hg.same HKq1.out HFq1.out)
 have HFq2 := hid (hg.fresh HKq1.out HFq1.out)
 have bq2 := b0.same HKq2.out
 have hlq2 : ((([1]) ++ numB (txn) 4) ++ numB (prev) 8).length ≤ 17 := by rw [List.length_append]; have := numB_length (prev) 8; omega
 clear hown hg
 have hS : Y2 wq2 := by exact ⟨bq2.cell 0, bq2.cell 1, bq2.cell 2⟩
 refine hK.out _ _ (fun _ => hS) ?_
 clear hK K
 try simp only [Act.put, sA, s0, sS]
 refine tk 10 3 hS ?_
 refine wpAnyV_done (by kernel_rfl) ?_
 have dq2_0 := bq2.c0
 go_wp2_with fail
 let Y3 : World → Prop := fun wx : World => wx.cell? ⟨w.heap.size, 3, none⟩ = some (.int .i64 page) ∧ wx.cell? ⟨w.heap.size, 4, none⟩ = some (.int .i64 slot)
 have hS : Y3 wq2.drew := by exact ⟨bq2.cell 3, bq2.cell 4⟩
 refine wp_region_V Y3 99 8 rfl (by kernel_rfl) ?_
 refine tk 0 25 hS ?_
 refine tk 1 26 hS ?_
 refine tk 2 27 hS ?_
 refine tk 4 29 hS ?_
 refine tk 5 30 hS ?_
 refine wpAnyV_one (i := 3) (by kernel_rfl) rfl (fun K hK => ?_)
 go_simp
 refine (l4Put_own _ ((([1]) ++ numB (txn) 4) ++ numB (prev) 8) (page) 2 _ (by unfold IsI; omega) (by unfold IsI; omega) (by omega) (HOq2.out.same (Kept.refl _ _).drew)).mono ?_
 rintro e wq3 ⟨aq3, nq3, cq3, rfl, hown, hg⟩
 have HOq3 := (show Hid (Own 0 5 .u8 wq3 (.slice aq3 nq3 cq3) (((([1]) ++ numB (txn) 4) ++ numB (prev) 8) ++ numB (page) 2)) from hown)
 have HKq3 := hid (hg.same HKq2.out.drew HFq2.out)
 have HFq3 := hid (hg.fresh HKq2.out.drew HFq2.out)
 have bq3 := b0.same HKq3.out
 have hlq3 : (((([1]) ++ numB (txn) 4) ++ numB (prev) 8) ++ numB (page) 2).length ≤ 25 := by rw [List.length_append]; have := numB_length (page) 2; omega
 clear hown hg
 have hS : Y3 wq3 := by exact ⟨bq3.cell 3, bq3.cell 4⟩
 refine hK.out _ _ (fun _ => hS) ?_
 clear hK K
 try simp only [Act.put, sA, s0, sS]
 refine wpAnyV_one (i := 6) (by kernel_rfl) rfl (fun K hK => ?_)
 go_simp
 refine (l4Put_own _ (((([1]) ++ numB (txn) 4) ++ numB (prev) 8) ++ numB (page) 2) (slot) 2 _ (by unfold IsI; omega) (by unfold IsI; omega) (by omega) HOq3.out).mono ?_
 rintro e wq4 ⟨aq4, nq4, cq4, rfl, hown, hg⟩
 have HOq4 := (show Hid (Own 0 5 .u8 wq4 (.slice aq4 nq4 cq4) ((((([1]) ++ numB (txn) 4) ++ numB (prev) 8) ++ numB (page) 2) ++ numB (slot) 2)) from hown)
 have HKq4 := hid (hg.same HKq3.out HFq3.out)
 have HFq4 := hid (hg.fresh HKq3.out HFq3.out)
 have bq4 := b0.same HKq4.out
 have hlq4 : ((((([1]) ++ numB (txn) 4) ++ numB (prev) 8) ++ numB (page) 2) ++ numB (slot) 2).length ≤ 33 := by rw [List.length_append]; have := numB_length (slot) 2; omega
 clear hown hg
 have hS : Y3 wq4 := by exact ⟨bq4.cell 3, bq4.cell 4⟩
 refine hK.out _ _ (fun _ => hS) ?_
 clear hK K
 try simp only [Act.put, sA, s0, sS]
 refine tk 7 3 hS ?_
 refine wpAnyV_done (by kernel_rfl) ?_
 go_wp2_with fail
 let Y1 : World → Prop := fun wx : World => wx.cell? ⟨w.heap.size, 5, none⟩ = some (.bool bU) ∧ wx.cell? ⟨w.heap.size, 6, none⟩ = some (.slice bDa bDb.length bDc) ∧ wx.cell? ⟨w.heap.size, 7, none⟩ = some (.bool aU) ∧ wx.cell? ⟨w.heap.size, 8, none⟩ = some (.slice aDa aDb.length aDc)
 have hS : Y1 wq4.drew := by exact ⟨bq4.cell 5, bq4.cell 6, bq4.cell 7, bq4.cell 8⟩
 refine wp_region_V Y1 99 8 rfl (by kernel_rfl) ?_
 refine tk 0 32 hS ?_
 refine tk 1 33 hS ?_
 refine tk 2 34 hS ?_
 refine tk 4 36 hS ?_
 refine tk 5 37 hS ?_
 refine wpAnyV_one (i := 3) (by kernel_rfl) rfl (fun K hK => ?_)
 go_simp
 refine (l4PutSlot_own _ ((((([1]) ++ numB (txn) 4) ++ numB (prev) 8) ++ numB (page) 2) ++ numB (slot) 2) bU (.slice bDa bDb.length bDc) (bDb) _ (by omega) (by omega) (fun wx hkx => (fun h => (HRB.out.same ((Kept.refl _ _).alloc _)).same h) (HKq4.out.drew.next hkx (fun i hi e => by have := HFq4.out i e; omega))) (HOq4.out.same (Kept.refl _ _).drew)).mono ?_
 rintro e wq5 ⟨aq5, nq5, cq5, rfl, hown, hg⟩
 have HOq5 := (show Hid (Own 0 5 .u8 wq5 (.slice aq5 nq5 cq5) (((((([1]) ++ numB (txn) 4) ++ numB (prev) 8) ++ numB (page) 2) ++ numB (slot) 2) ++ partB bU (bDb))) from hown)
 have HKq5 := hid (hg.same HKq4.out.drew HFq4.out)
 have HFq5 := hid (hg.fresh HKq4.out.drew HFq4.out)
 have bq5 := b0.same HKq5.out
 have hlq5 : (((((([1]) ++ numB (txn) 4) ++ numB (prev) 8) ++ numB (page) 2) ++ numB (slot) 2) ++ partB bU (bDb)).length ≤ 1133 := by rw [List.length_append]; have := partB_length bU (bDb); omega
 clear hown hg
 have hS : Y1 wq5 := by exact ⟨bq5.cell 5, bq5.cell 6, bq5.cell 7, bq5.cell 8⟩
 refine hK.out _ _ (fun _ => hS) ?_
 clear hK K
 try simp only [Act.put, sA, s0, sS]
 refine wpAnyV_one (i := 6) (by kernel_rfl) rfl (fun K hK => ?_)
 go_simp
 refine (l4PutSlot_own _ (((((([1]) ++ numB (txn) 4) ++ numB (prev) 8) ++ numB (page) 2) ++ numB (slot) 2) ++ partB bU (bDb)) aU (.slice aDa aDb.length aDc) (aDb) _ (by omega) (by omega) (fun wx hkx => (fun h => (HRA.out.same ((Kept.refl _ _).alloc _)).same h) (HKq5.out.next hkx (fun i hi e => by have := HFq5.out i e; omega))) HOq5.out).mono ?_
 rintro e wq6 ⟨aq6, nq6, cq6, rfl, hown, hg⟩
 have HOq6 := (show Hid (Own 0 5 .u8 wq6 (.slice aq6 nq6 cq6) ((((((([1]) ++ numB (txn) 4) ++ numB (prev) 8) ++ numB (page) 2) ++ numB (slot) 2) ++ partB bU (bDb)) ++ partB aU (aDb))) from hown)
 have HKq6 := hid (hg.same HKq5.out HFq5.out)
 have HFq6 := hid (hg.fresh HKq5.out HFq5.out)
 have bq6 := b0.same HKq6.out
 have hlq6 : ((((((([1]) ++ numB (txn) 4) ++ numB (prev) 8) ++ numB (page) 2) ++ numB (slot) 2) ++ partB bU (bDb)) ++ partB aU (aDb)).length ≤ 2233 := by rw [List.length_append]; have := partB_length aU (aDb); omega
 clear hown hg
 have hS : Y1 wq6 := by exact ⟨bq6.cell 5, bq6.cell 6, bq6.cell 7, bq6.cell 8⟩
 refine hK.out _ _ (fun _ => hS) ?_
 clear hK K
 try simp only [Act.put, sA, s0, sS]
 refine tk 7 3 hS ?_
 refine wpAnyV_done (by kernel_rfl) ?_
 go_wp2
 go_ret
 exact ⟨_, _, _, rfl, by simpa [headR] using HOq6.out, fun b hb => by have := HFq6.out b hb; simp at this; omega, ((Kept.refl _ _).alloc _).trans HKq6.out⟩
end Go.Proofs.Ytcldagphkpkdpaa
