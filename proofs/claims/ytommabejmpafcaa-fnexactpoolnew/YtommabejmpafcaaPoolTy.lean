/-
  Pool and PoolResult of the laws: eq, mark, held, to, sz.
-/
import Derived.Test.YtommabejmpafcaaRowFrame
namespace Go.Proofs.Ytommabejmpafcaa
set_option maxRecDepth 100000
set_option maxHeartbeats 4000000
open Go.RowKit
set_option linter.unusedVariables false
set_option linter.unusedSimpArgs false

theorem OwnR.slice {E : Type} {K : RowK E} {base : Nat} {tw tb : TypeId} {w : World} {v : Value} {ps : List E} (h : OwnR K base tw tb w v ps) : ∃ a n c, v = .slice a n c := by
  rcases h.form with ⟨rfl, _⟩ | ⟨g, cap, rfl, _⟩ <;> exact ⟨_, _, _, rfl⟩
theorem eqPool_own {ta tb : TypeId} (base : Nat) (hand : Int) (va vb : Value) (ps qs : List EFrame) (w : World) (hn : ps.length ≤ 1125899906842624) (hs : datFrameS ps = datFrameS qs) (hsm : ∀ p ∈ ps, p.bs.length ≤ 1125899906842624)
    (ha : OwnR kFrame base 36 ta w va ps) (hb : OwnR kFrame base 36 tb w vb qs) :
    Calls Try.prog 24 #[.agg #[va, .int .i64 hand], .agg #[vb, .int .i64 hand]] w fun e w' => e = .returned (.bool true) ∧ Same w w' := by
  obtain ⟨aa, na, ca, rfl⟩ := ha.slice
  obtain ⟨ab, nb, cb, rfl⟩ := hb.slice
  have HA := (show Hid (OwnR kFrame base 36 ta w (.slice aa na ca) ps) from ha)
  have HB := (show Hid (OwnR kFrame base 36 tb w (.slice ab nb cb) qs) from hb)
  have b0 := (Blk.newL w [.slice aa na ca, .int .i64 hand] 25).same ((Kept.refl _ _).alloc (.cells #[.slice ab nb cb, .int .i64 hand] 25))
  have b1 := Blk.newB w [.slice aa na ca, .int .i64 hand] 25 [.slice ab nb cb, .int .i64 hand] 25
  clear ha hb
  go_enter Try.func24, Try.ntmps24
  go_wp2_with fail
  refine (eqFrameS_own base _ _ ps qs _ hn hs hsm (HA.out.same (((Kept.refl _ _).alloc _).alloc _)) (HB.out.same (((Kept.refl _ _).alloc _).alloc _))).mono ?_
  rintro e w1 ⟨rfl, hk⟩
  have p1 : w1.cell? ⟨w.heap.size, 1, none⟩ = some (.int .i64 hand) := (b0.same hk).cell 1
  have q1 : w1.cell? ⟨w.heap.size + 1, 1, none⟩ = some (.int .i64 hand) := (b1.same hk).cell 1
  go_wp2
  go_ret
  exact ⟨rfl, (((Kept.refl _ _).alloc _).alloc _).trans hk⟩
theorem markPool_own {tb : TypeId} (hand : Int) (va : Value) (ps : List EFrame) (k0 : Int) (w : World) (h0 : 0 ≤ k0) (h1 : endR mFrame k0 ps ≤ 1125899906842624) (hn : ps.length ≤ 1125899906842624) (ha : OwnR kFrame 0 36 tb w va ps) :
    Calls Try.prog 26 #[.agg #[va, .int .i64 hand], .int .i64 k0] w fun e w' => e = .returned (.int .i64 (endR mFrame k0 ps)) ∧ OwnR kFrame 0 36 tb w' va (markR mFrame k0 ps) ∧ Kept (footR kFrame va ps) w w' := by
  obtain ⟨aa, na, ca, rfl⟩ := ha.slice
  have hm := markFrameS_own 0 (.slice aa na ca) ps k0 (w.alloc (.cells #[.slice aa na ca, .int .i64 hand] 25)) h0 h1 hn (ha.same ((Kept.refl _ _).alloc _))
  obtain ⟨En, hE⟩ : ∃ En, endR mFrame k0 ps = En := ⟨_, rfl⟩
  rw [hE] at hm ⊢
  clear ha h1 hE
  go_enter Try.func26, Try.ntmps26
  go_wp2_with fail
  refine hm.mono ?_
  clear hm
  rintro e w1 ⟨rfl, ho, hk⟩
  have HO := (show Hid (OwnR kFrame 0 36 tb w1 (.slice aa na ca) (markR mFrame k0 ps)) from ho)
  have HK := (show Hid (Kept (footR kFrame (.slice aa na ca) ps) w w1) from ((Kept.refl _ _).alloc _).trans hk)
  clear ho hk
  go_wp2
  go_ret
  exact ⟨rfl, HO.out, HK.out⟩
theorem heldPool_own {tb : TypeId} (hand : Int) (va : Value) (ps : List EFrame) (k0 : Int) (w : World) (h0 : 0 ≤ k0) (h1 : endR mFrame k0 ps ≤ 1125899906842624) (hn : ps.length ≤ 1125899906842624) (ha : OwnR kFrame 0 36 tb w va (markR mFrame k0 ps)) :
    Calls Try.prog 27 #[.agg #[va, .int .i64 hand], .int .i64 k0] w fun e w' => e = .returned (.int .i64 (endR mFrame k0 ps)) ∧ Same w w' := by
  obtain ⟨aa, na, ca, rfl⟩ := ha.slice
  have hm := heldFrameS_own 0 (.slice aa na ca) ps k0 (w.alloc (.cells #[.slice aa na ca, .int .i64 hand] 25)) h0 h1 hn (ha.same ((Kept.refl _ _).alloc _))
  have hl := endR_le mFrame k0 ps
  obtain ⟨En, hE⟩ : ∃ En, endR mFrame k0 ps = En := ⟨_, rfl⟩
  rw [hE] at hm hl ⊢
  have hp : ¬ En < 0 := by omega
  clear ha h1 hE
  go_enter Try.func27, Try.ntmps27
  go_wp2_with fail
  refine hm.mono ?_
  clear hm
  rintro e w1 ⟨rfl, rfl⟩
  go_wp2
  go_ret
  exact ⟨rfl, (Kept.refl _ _).alloc _⟩
theorem szPool_any (hand : Int) (v : Value) (ps : List EFrame) (left : Int) (w : World) (h0 : 0 ≤ left) (h1 : left ≤ 1048576) (hp : RdR kFrame w v ps) :
    Calls Try.prog 21 #[.agg #[v, .int .i64 hand], .int .i64 left] w fun e w' => ∃ r : Int, e = .returned (.int .i64 r) ∧ (r = -1 ∨ (r = left - ps.length - sizeFrameS ps ∧ 0 ≤ r)) ∧ Same w w' := by
  obtain ⟨a, c, rfl⟩ := hp.form
  have hm := szFrameS_any (.slice a ps.length c) ps left (w.alloc (.cells #[.slice a ps.length c, .int .i64 hand] 43)) h0 h1 (hp.same ((Kept.refl _ _).alloc _))
  clear hp
  go_enter Try.func21, Try.ntmps21
  go_wp2_with fail
  refine hm.mono ?_
  clear hm
  rintro e w1 ⟨r, rfl, hr, hk⟩
  have HK := (show Hid (Same w w1) from ((Kept.refl _ _).alloc _).trans hk)
  clear hk
  rcases hr with rfl | ⟨hr, hr0⟩
  · go_wp2
    go_ret
    exact ⟨_, rfl, .inl rfl, HK.out⟩
  · have HR : Hid (r = left - ps.length - sizeFrameS ps) := hr
    clear hr
    go_wp2
    go_ret
    exact ⟨_, rfl, .inr ⟨HR.out, hr0⟩, HK.out⟩
theorem toPool_any (hand : Int) (v : Value) (ps : List EFrame) (w : World) (hn : ps.length ≤ 1073741824) (hs : ∀ p ∈ ps, p.bs.length ≤ 1099511627776) (hv : RdR kFrame w v ps) :
    Calls Try.prog 23 #[.agg #[v, .int .i64 hand]] w fun e w' => ∃ g qs, e = .returned (.agg #[.slice (some ⟨g, 0, none⟩) ps.length ps.length, .int .i64 hand]) ∧ datFrameS qs = datFrameS ps ∧ (∀ b, footR kFrame (.slice (some ⟨g, 0, none⟩) ps.length ps.length) qs b → w.heap.size ≤ b) ∧
      OwnR kFrame 0 36 5 w' (.slice (some ⟨g, 0, none⟩) ps.length ps.length) qs ∧ Same w w' := by
  obtain ⟨a, c, rfl⟩ := hv.form
  have hk0 : Same w (((w.alloc (.cells #[.slice a ps.length c, .int .i64 hand] 43)).alloc (.cells #[.slice none 0 0, .int .i64 0] 25)).alloc (.cells #[.slice none 0 0, .int .i64 0] 25)) := (((Kept.refl _ _).alloc _).alloc _).alloc _
  have hm := toFrameS_any (.slice a ps.length c) ps _ hn hs (hv.same hk0)
  have b0 : Blk (((w.alloc (.cells #[.slice a ps.length c, .int .i64 hand] 43)).alloc (.cells #[.slice none 0 0, .int .i64 0] 25)).alloc (.cells #[.slice none 0 0, .int .i64 0] 25)) w.heap.size 43 [.slice a ps.length c, .int .i64 hand] := ((Blk.newL w [.slice a ps.length c, .int .i64 hand] 43).same ((Kept.refl _ _).alloc _)).same ((Kept.refl _ _).alloc _)
  have b1 : Blk (((w.alloc (.cells #[.slice a ps.length c, .int .i64 hand] 43)).alloc (.cells #[.slice none 0 0, .int .i64 0] 25)).alloc (.cells #[.slice none 0 0, .int .i64 0] 25)) (w.heap.size + 1) 25 [.slice none 0 0, .int .i64 0] := (Blk.newB w [.slice a ps.length c, .int .i64 hand] 43 [.slice none 0 0, .int .i64 0] 25).same ((Kept.refl _ _).alloc _)
  have b2 : Blk (((w.alloc (.cells #[.slice a ps.length c, .int .i64 hand] 43)).alloc (.cells #[.slice none 0 0, .int .i64 0] 25)).alloc (.cells #[.slice none 0 0, .int .i64 0] 25)) (w.heap.size + 1 + 1) 25 [.slice none 0 0, .int .i64 0] := by have h := Blk.newL ((w.alloc (.cells #[.slice a ps.length c, .int .i64 hand] 43)).alloc (.cells #[.slice none 0 0, .int .i64 0] 25)) [.slice none 0 0, .int .i64 0] 25; rwa [World.size_alloc, World.size_alloc] at h
  have HK0 := (show Hid (Same w _) from hk0)
  clear hv hs hn hk0
  go_enter Try.func23, Try.ntmps23
  go_wp2_with fail
  refine hm.mono ?_
  clear hm
  rintro e w1 ⟨g, qs, rfl, hd, hf, ho, hk⟩
  have HF : Hid (∀ b, footR kFrame (.slice (some ⟨g, 0, none⟩) ps.length ps.length) qs b → w.heap.size + 1 + 1 + 1 ≤ b) := fun b hb => by have h := hf b hb; simp only [World.size_alloc] at h; exact h
  have HO : Hid (OwnR kFrame 0 36 5 w1 (.slice (some ⟨g, 0, none⟩) ps.length ps.length) qs) := ho
  have HK : Hid (Same w w1) := HK0.out.trans hk
  have HD : Hid (datFrameS qs = datFrameS ps) := hd
  have p1 : w1.cell? ⟨w.heap.size, 1, none⟩ = some (.int .i64 hand) := (b0.same hk).cell 1
  have z0 : w1.cell? ⟨w.heap.size + 1, 0, none⟩ = some (.slice none 0 0) := (b1.same hk).cell 0
  have z1 : w1.cell? ⟨w.heap.size + 1, 1, none⟩ = some (.int .i64 0) := (b1.same hk).cell 1
  have o0 : w1.cell? ⟨w.heap.size + 1 + 1, 0, none⟩ = some (.slice none 0 0) := (b2.same hk).cell 0
  have o1 : w1.cell? ⟨w.heap.size + 1 + 1, 1, none⟩ = some (.int .i64 0) := (b2.same hk).cell 1
  have f1 := (b1.same hk).frozen
  have f2 := (b2.same hk).frozen
  have hz1 : w.heap.size + 1 + 1 < w1.heap.size := (b2.same hk).lt
  clear ho hk b0 b1 b2 hf hd HK0
  go_wp2
  refine bodyPost_ret (v := .agg #[.slice (some ⟨g, 0, none⟩) ps.length ps.length, .int .i64 hand]) (by simp [results, Try.results23, go_sem, z0, z1]) rfl ⟨g, qs, rfl, HD.out, fun b hb => by have := HF.out b hb; omega, ?_, ?_⟩
  · refine HO.out.kept (R := fun b => b = w.heap.size + 1 ∨ b = w.heap.size + 1 + 1) ?_ (fun b hb e => by have := HF.out b hb; omega)
    (iterate 4 refine Kept.setCell (R := fun b => b = w.heap.size + 1 ∨ b = w.heap.size + 1 + 1) ?_ (by first | exact .inr (.inl rfl) | exact .inr (.inr rfl)) _)
    exact Kept.refl _ _
  · (iterate 4 refine Kept.setCell ?_ (by first | exact .inl (Nat.le_succ _) | exact .inl (Nat.le_succ_of_le (Nat.le_succ _))) _)
    exact HK.out
theorem eqPoolResult_own {ta tb : TypeId} (base : Nat) (code fr hand : Int) (va vb : Value) (ps qs : List EFrame) (w : World) (hn : ps.length ≤ 1125899906842624) (hs : datFrameS ps = datFrameS qs) (hsm : ∀ p ∈ ps, p.bs.length ≤ 1125899906842624)
    (ha : OwnR kFrame base 36 ta w va ps) (hb : OwnR kFrame base 36 tb w vb qs) :
    Calls Try.prog 30 #[.agg #[.int .i64 code, .int .i64 fr, va, .int .i64 hand], .agg #[.int .i64 code, .int .i64 fr, vb, .int .i64 hand]] w fun e w' => e = .returned (.bool true) ∧ Same w w' := by
  obtain ⟨aa, na, ca, rfl⟩ := ha.slice
  obtain ⟨ab, nb, cb, rfl⟩ := hb.slice
  have hm := fun wx (hk : Same w wx) => eqPool_own base hand (.slice aa na ca) (.slice ab nb cb) ps qs wx hn hs hsm (ha.same hk) (hb.same hk)
  clear ha hb hn hs hsm
  have hk0 : Same w ((w.alloc (.cells #[.int .i64 code, .int .i64 fr, .slice aa na ca, .int .i64 hand] 33)).alloc (.cells #[.int .i64 code, .int .i64 fr, .slice ab nb cb, .int .i64 hand] 33)) := ((Kept.refl _ _).alloc _).alloc _
  go_enter Try.func30, Try.ntmps30
  go_wp2_with fail
  refine (hm _ hk0).mono ?_
  rintro e w1 ⟨rfl, hk⟩
  go_wp2
  go_ret
  exact ⟨rfl, hk0.trans hk⟩
theorem markPoolResult_own {tb : TypeId} (code fr hand : Int) (va : Value) (ps : List EFrame) (k0 : Int) (w : World) (h0 : 0 ≤ k0) (h1 : endR mFrame k0 ps ≤ 1125899906842624) (hn : ps.length ≤ 1125899906842624) (ha : OwnR kFrame 0 36 tb w va ps) :
    Calls Try.prog 31 #[.agg #[.int .i64 code, .int .i64 fr, va, .int .i64 hand], .int .i64 k0] w fun e w' => e = .returned (.int .i64 (endR mFrame k0 ps)) ∧ OwnR kFrame 0 36 tb w' va (markR mFrame k0 ps) ∧ Kept (footR kFrame va ps) w w' := by
  obtain ⟨aa, na, ca, rfl⟩ := ha.slice
  have hm := markPool_own hand (.slice aa na ca) ps k0 (w.alloc (.cells #[.int .i64 code, .int .i64 fr, .slice aa na ca, .int .i64 hand] 33)) h0 h1 hn (ha.same ((Kept.refl _ _).alloc _))
  obtain ⟨En, hE⟩ : ∃ En, endR mFrame k0 ps = En := ⟨_, rfl⟩
  rw [hE] at hm ⊢
  clear ha h1 hE
  go_enter Try.func31, Try.ntmps31
  go_wp2_with fail
  refine hm.mono ?_
  clear hm
  rintro e w1 ⟨rfl, ho, hk⟩
  have HO := (show Hid (OwnR kFrame 0 36 tb w1 (.slice aa na ca) (markR mFrame k0 ps)) from ho)
  have HK := (show Hid (Kept (footR kFrame (.slice aa na ca) ps) w w1) from ((Kept.refl _ _).alloc _).trans hk)
  clear ho hk
  go_wp2
  go_ret
  exact ⟨rfl, HO.out, HK.out⟩
theorem heldPoolResult_own {tb : TypeId} (code fr hand : Int) (va : Value) (ps : List EFrame) (k0 : Int) (w : World) (h0 : 0 ≤ k0) (h1 : endR mFrame k0 ps ≤ 1125899906842624) (hn : ps.length ≤ 1125899906842624) (ha : OwnR kFrame 0 36 tb w va (markR mFrame k0 ps)) :
    Calls Try.prog 32 #[.agg #[.int .i64 code, .int .i64 fr, va, .int .i64 hand], .int .i64 k0] w fun e w' => e = .returned (.int .i64 (endR mFrame k0 ps)) ∧ Same w w' := by
  obtain ⟨aa, na, ca, rfl⟩ := ha.slice
  have hm := heldPool_own hand (.slice aa na ca) ps k0 (w.alloc (.cells #[.int .i64 code, .int .i64 fr, .slice aa na ca, .int .i64 hand] 33)) h0 h1 hn (ha.same ((Kept.refl _ _).alloc _))
  have hl := endR_le mFrame k0 ps
  obtain ⟨En, hE⟩ : ∃ En, endR mFrame k0 ps = En := ⟨_, rfl⟩
  rw [hE] at hm hl ⊢
  have hp : ¬ En < 0 := by omega
  clear ha h1 hE
  go_enter Try.func32, Try.ntmps32
  go_wp2_with fail
  refine hm.mono ?_
  clear hm
  rintro e w1 ⟨rfl, hk⟩
  go_wp2
  go_ret
  exact ⟨rfl, ((Kept.refl _ _).alloc _).trans hk⟩
theorem sizeFrameS_le {m : Nat} (ps : List EFrame) (h : ∀ p ∈ ps, p.bs.length ≤ m) : sizeFrameS ps ≤ ps.length * m := by
  induction ps with
  | nil => simp [sizeFrameS]
  | cons p ps ih =>
    have h1 := h p (by simp)
    have h2 := ih (fun q hq => h q (by simp [hq]))
    simp only [sizeFrameS, List.length_cons, Nat.add_mul, Nat.one_mul]
    omega
/-- A pool's frames are few and small. -/
def SmallF (L : List (Int × List Int × Int × Bool × Int × Bool)) : Prop := L.length ≤ 1048576 ∧ ∀ x ∈ L, x.2.1.length ≤ 1048576
theorem SmallF.of {L : List (Int × List Int × Int × Bool × Int × Bool)} (h : SmallF L) (qs : List EFrame) (hq : datFrameS qs = L) : qs.length ≤ 1048576 ∧ (∀ p ∈ qs, p.bs.length ≤ 1048576) ∧ 0 ≤ endR mFrame 1 qs ∧ endR mFrame 1 qs ≤ 1125899906842624 := by
  subst hq
  have h1 : qs.length ≤ 1048576 := by have := h.1; rwa [datFrameS_length] at this
  have h2 : ∀ p ∈ qs, p.bs.length ≤ 1048576 := fun p hp => h.2 p.dat (List.mem_map.2 ⟨p, hp, rfl⟩)
  have h3 := sizeFrameS_le qs h2
  rw [endFrameS_size]
  exact ⟨h1, h2, by omega, by omega⟩
end Go.Proofs.Ytommabejmpafcaa
