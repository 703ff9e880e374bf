import Derived.Test.YtabmhcdldfehnaaRowFrame
import Derived.Test.YtabmhcdldfehnaaG00
import Derived.WalkKit
import Derived.OrdersHeld
import Derived.Deep.RegionHeld3
namespace Go.Proofs.Ytabmhcdldfehnaa
set_option maxRecDepth 100000
set_option maxHeartbeats 4000000
open Go.RowKit
set_option linter.unusedVariables false
set_option linter.unusedSimpArgs false
theorem OwnR.slice {E : Type} {K : RowK E} {base : Nat} {tw tb : TypeId} {w : World} {v : Value} {ps : List E} (h : OwnR K base tw tb w v ps) : ∃ a n c, v = .slice a n c := by
  rcases h.form with ⟨rfl, _⟩ | ⟨g, cap, rfl, _⟩ <;> exact ⟨_, _, _, rfl⟩
theorem eqPool_own {ta tb : TypeId} (base : Nat) (hand : Int) (va vb : Value) (ps qs : List EFrame) (w : World) (hn : ps.length ≤ 1125899906842624) (hs : datFrameS ps = datFrameS qs) (hsm : ∀ p ∈ ps, p.bs.length ≤ 1125899906842624)
    (ha : OwnR kFrame base 51 ta w va ps) (hb : OwnR kFrame base 51 tb w vb qs) :
    Calls Try.prog 13 #[.agg #[va, .int .i64 hand], .agg #[vb, .int .i64 hand]] w fun e w' => e = .returned (.bool true) ∧ Same w w' := by
  obtain ⟨aa, na, ca, rfl⟩ := ha.slice
  obtain ⟨ab, nb, cb, rfl⟩ := hb.slice
  have HA := (show Hid (OwnR kFrame base 51 ta w (.slice aa na ca) ps) from ha)
  have HB := (show Hid (OwnR kFrame base 51 tb w (.slice ab nb cb) qs) from hb)
  have b0 := (Blk.newL w [.slice aa na ca, .int .i64 hand] 29).same ((Kept.refl _ _).alloc (.cells #[.slice ab nb cb, .int .i64 hand] 29))
  have b1 := Blk.newB w [.slice aa na ca, .int .i64 hand] 29 [.slice ab nb cb, .int .i64 hand] 29
  clear ha hb
  go_enter Try.func13, Try.ntmps13
  go_wp2_with fail
  refine (eqFrameS_own base _ _ ps qs _ hn hs hsm (HA.out.same (((Kept.refl _ _).alloc _).alloc _)) (HB.out.same (((Kept.refl _ _).alloc _).alloc _))).mono ?_
  rintro e w1 ⟨rfl, hk⟩
  have p1 := (b0.same hk).c1
  have q1 := (b1.same hk).c1
  go_wp2
  go_ret
  exact ⟨rfl, (((Kept.refl _ _).alloc _).alloc _).trans hk⟩
theorem markPool_own {tb : TypeId} (hand : Int) (va : Value) (ps : List EFrame) (k0 : Int) (w : World) (h0 : 0 ≤ k0) (h1 : endR mFrame k0 ps ≤ 1125899906842624) (hn : ps.length ≤ 1125899906842624) (ha : OwnR kFrame 0 51 tb w va ps) :
    Calls Try.prog 21 #[.agg #[va, .int .i64 hand], .int .i64 k0] w fun e w' => e = .returned (.int .i64 (endR mFrame k0 ps)) ∧ OwnR kFrame 0 51 tb w' va (markR mFrame k0 ps) ∧ Kept (footR kFrame va ps) w w' := by
  obtain ⟨aa, na, ca, rfl⟩ := ha.slice
  have hm := markFrameS_own 0 (.slice aa na ca) ps k0 (w.alloc (.cells #[.slice aa na ca, .int .i64 hand] 29)) h0 h1 hn (ha.same ((Kept.refl _ _).alloc _))
  obtain ⟨En, hE⟩ : ∃ En, endR mFrame k0 ps = En := ⟨_, rfl⟩
  rw [hE] at hm ⊢
  clear ha h1 hE
  go_enter Try.func21, Try.ntmps21
  go_wp2_with fail
  refine hm.mono ?_
  clear hm
  rintro e w1 ⟨rfl, ho, hk⟩
  have HO := (show Hid (OwnR kFrame 0 51 tb w1 (.slice aa na ca) (markR mFrame k0 ps)) from ho)
  have HK := (show Hid (Kept (footR kFrame (.slice aa na ca) ps) w w1) from ((Kept.refl _ _).alloc _).trans hk)
  clear ho hk
  go_wp2
  go_ret
  exact ⟨rfl, HO.out, HK.out⟩
theorem heldPool_own {tb : TypeId} (hand : Int) (va : Value) (ps : List EFrame) (k0 : Int) (w : World) (h0 : 0 ≤ k0) (h1 : endR mFrame k0 ps ≤ 1125899906842624) (hn : ps.length ≤ 1125899906842624) (ha : OwnR kFrame 0 51 tb w va (markR mFrame k0 ps)) :
    Calls Try.prog 48 #[.agg #[va, .int .i64 hand], .int .i64 k0] w fun e w' => e = .returned (.int .i64 (endR mFrame k0 ps)) ∧ Same w w' := by
  obtain ⟨aa, na, ca, rfl⟩ := ha.slice
  have hm := heldFrameS_own 0 (.slice aa na ca) ps k0 (w.alloc (.cells #[.slice aa na ca, .int .i64 hand] 29)) h0 h1 hn (ha.same ((Kept.refl _ _).alloc _))
  have hl := endR_le mFrame k0 ps
  obtain ⟨En, hE⟩ : ∃ En, endR mFrame k0 ps = En := ⟨_, rfl⟩
  rw [hE] at hm hl ⊢
  have hp : ¬ En < 0 := by omega
  clear ha h1 hE
  go_enter Try.func48, Try.ntmps48
  go_wp2_with fail
  refine hm.mono ?_
  clear hm
  rintro e w1 ⟨rfl, rfl⟩
  go_wp2
  go_ret
  exact ⟨rfl, (Kept.refl _ _).alloc _⟩
theorem szPool_any (hand : Int) (v : Value) (ps : List EFrame) (left : Int) (w : World) (h0 : 0 ≤ left) (h1 : left ≤ 1048576) (hp : RdR kFrame w v ps) :
    Calls Try.prog 9 #[.agg #[v, .int .i64 hand], .int .i64 left] w fun e w' => ∃ r : Int, e = .returned (.int .i64 r) ∧ (r = -1 ∨ (r = left - ps.length - sizeFrameS ps ∧ 0 ≤ r)) ∧ Same w w' := by
  obtain ⟨a, c, rfl⟩ := hp.form
  have hm := szFrameS_any (.slice a ps.length c) ps left (w.alloc (.cells #[.slice a ps.length c, .int .i64 hand] 24)) h0 h1 (hp.same ((Kept.refl _ _).alloc _))
  clear hp
  go_enter Try.func9, Try.ntmps9
  go_wp2_with fail
  refine hm.mono ?_
  clear hm
  rintro e w1 ⟨r, rfl, hr, hk⟩
  have HK := (show Hid (Same w w1) from ((Kept.refl _ _).alloc _).trans hk)
  clear hk
  rcases hr with rfl | ⟨hr, hr0⟩
  · go_wp2
    go_ret
    exact ⟨_, rfl, .inl rfl, HK.out⟩
  · have HR : Hid (r = left - ps.length - sizeFrameS ps) := hr
    clear hr
    go_wp2
    go_ret
    exact ⟨_, rfl, .inr ⟨HR.out, hr0⟩, HK.out⟩
theorem toPool_any (hand : Int) (v : Value) (ps : List EFrame) (w : World) (hn : ps.length ≤ 1073741824) (hs : ∀ p ∈ ps, p.bs.length ≤ 1099511627776) (hv : RdR kFrame w v ps) :
    Calls Try.prog 11 #[.agg #[v, .int .i64 hand]] w fun e w' => ∃ g qs, e = .returned (.agg #[.slice (some ⟨g, 0, none⟩) ps.length ps.length, .int .i64 hand]) ∧ datFrameS qs = datFrameS ps ∧ (∀ b, footR kFrame (.slice (some ⟨g, 0, none⟩) ps.length ps.length) qs b → w.heap.size ≤ b) ∧
      OwnR kFrame 0 51 5 w' (.slice (some ⟨g, 0, none⟩) ps.length ps.length) qs ∧ Same w w' := by
  obtain ⟨a, c, rfl⟩ := hv.form
  have hk0 : Same w (((w.alloc (.cells #[.slice a ps.length c, .int .i64 hand] 24)).alloc (.cells #[.slice none 0 0, .int .i64 0] 29)).alloc (.cells #[.slice none 0 0, .int .i64 0] 29)) := (((Kept.refl _ _).alloc _).alloc _).alloc _
  have hm := toFrameS_any (.slice a ps.length c) ps _ hn hs (hv.same hk0)
  have b0 : Blk (((w.alloc (.cells #[.slice a ps.length c, .int .i64 hand] 24)).alloc (.cells #[.slice none 0 0, .int .i64 0] 29)).alloc (.cells #[.slice none 0 0, .int .i64 0] 29)) w.heap.size 24 [.slice a ps.length c, .int .i64 hand] := ((Blk.newL w [.slice a ps.length c, .int .i64 hand] 24).same ((Kept.refl _ _).alloc _)).same ((Kept.refl _ _).alloc _)
  have b1 : Blk (((w.alloc (.cells #[.slice a ps.length c, .int .i64 hand] 24)).alloc (.cells #[.slice none 0 0, .int .i64 0] 29)).alloc (.cells #[.slice none 0 0, .int .i64 0] 29)) (w.heap.size + 1) 29 [.slice none 0 0, .int .i64 0] := (Blk.newB w [.slice a ps.length c, .int .i64 hand] 24 [.slice none 0 0, .int .i64 0] 29).same ((Kept.refl _ _).alloc _)
  have b2 : Blk (((w.alloc (.cells #[.slice a ps.length c, .int .i64 hand] 24)).alloc (.cells #[.slice none 0 0, .int .i64 0] 29)).alloc (.cells #[.slice none 0 0, .int .i64 0] 29)) (w.heap.size + 1 + 1) 29 [.slice none 0 0, .int .i64 0] := by have h := Blk.newL ((w.alloc (.cells #[.slice a ps.length c, .int .i64 hand] 24)).alloc (.cells #[.slice none 0 0, .int .i64 0] 29)) [.slice none 0 0, .int .i64 0] 29; rwa [World.size_alloc, World.size_alloc] at h
  have HK0 := (show Hid (Same w _) from hk0)
  clear hv hs hn hk0
  go_enter Try.func11, Try.ntmps11
  go_wp2_with fail
  refine hm.mono ?_
  clear hm
  rintro e w1 ⟨g, qs, rfl, hd, hf, ho, hk⟩
  have HF : Hid (∀ b, footR kFrame (.slice (some ⟨g, 0, none⟩) ps.length ps.length) qs b → w.heap.size + 1 + 1 + 1 ≤ b) := fun b hb => by have h := hf b hb; simp only [World.size_alloc] at h; exact h
  have HO : Hid (OwnR kFrame 0 51 5 w1 (.slice (some ⟨g, 0, none⟩) ps.length ps.length) qs) := ho
  have HK : Hid (Same w w1) := HK0.out.trans hk
  have HD : Hid (datFrameS qs = datFrameS ps) := hd
  have p1 := (b0.same hk).c1
  have z0 := (b1.same hk).c0
  have z1 := (b1.same hk).c1
  have o0 := (b2.same hk).c0
  have o1 := (b2.same hk).c1
  have f1 := (b1.same hk).frozen
  have f2 := (b2.same hk).frozen
  have hz1 : w.heap.size + 1 + 1 < w1.heap.size := (b2.same hk).lt
  clear ho hk b0 b1 b2 hf hd HK0
  go_wp2
  refine bodyPost_ret (v := .agg #[.slice (some ⟨g, 0, none⟩) ps.length ps.length, .int .i64 hand]) (by simp [results, Try.results11, go_sem, z0, z1]) rfl ⟨g, qs, rfl, HD.out, fun b hb => by have := HF.out b hb; omega, ?_, ?_⟩
  · refine HO.out.kept (R := fun b => b = w.heap.size + 1 ∨ b = w.heap.size + 1 + 1) ?_ (fun b hb e => by have := HF.out b hb; omega)
    (iterate 4 refine Kept.setCell (R := fun b => b = w.heap.size + 1 ∨ b = w.heap.size + 1 + 1) ?_ (by first | exact .inr (.inl rfl) | exact .inr (.inr rfl)) _)
    exact Kept.refl _ _
  · (iterate 4 refine Kept.setCell ?_ (by first | exact .inl (Nat.le_succ _) | exact .inl (Nat.le_succ_of_le (Nat.le_succ _))) _)
    exact HK.out
theorem eqPoolResult_own {ta tb : TypeId} (base : Nat) (code fr hand : Int) (va vb : Value) (ps qs : List EFrame) (w : World) (hn : ps.length ≤ 1125899906842624) (hs : datFrameS ps = datFrameS qs) (hsm : ∀ p ∈ ps, p.bs.length ≤ 1125899906842624)
    (ha : OwnR kFrame base 51 ta w va ps) (hb : OwnR kFrame base 51 tb w vb qs) :
    Calls Try.prog 19 #[.agg #[.int .i64 code, .int .i64 fr, va, .int .i64 hand], .agg #[.int .i64 code, .int .i64 fr, vb, .int .i64 hand]] w fun e w' => e = .returned (.bool true) ∧ Same w w' := by
  obtain ⟨aa, na, ca, rfl⟩ := ha.slice
  obtain ⟨ab, nb, cb, rfl⟩ := hb.slice
  have hm := fun wx (hk : Same w wx) => eqPool_own base hand (.slice aa na ca) (.slice ab nb cb) ps qs wx hn hs hsm (ha.same hk) (hb.same hk)
  clear ha hb hn hs hsm
  have hk0 : Same w ((w.alloc (.cells #[.int .i64 code, .int .i64 fr, .slice aa na ca, .int .i64 hand] 37)).alloc (.cells #[.int .i64 code, .int .i64 fr, .slice ab nb cb, .int .i64 hand] 37)) := ((Kept.refl _ _).alloc _).alloc _
  go_enter Try.func19, Try.ntmps19
  go_wp2_with fail
  refine (hm _ hk0).mono ?_
  rintro e w1 ⟨rfl, hk⟩
  go_wp2
  go_ret
  exact ⟨rfl, hk0.trans hk⟩
theorem markPoolResult_own {tb : TypeId} (code fr hand : Int) (va : Value) (ps : List EFrame) (k0 : Int) (w : World) (h0 : 0 ≤ k0) (h1 : endR mFrame k0 ps ≤ 1125899906842624) (hn : ps.length ≤ 1125899906842624) (ha : OwnR kFrame 0 51 tb w va ps) :
    Calls Try.prog 23 #[.agg #[.int .i64 code, .int .i64 fr, va, .int .i64 hand], .int .i64 k0] w fun e w' => e = .returned (.int .i64 (endR mFrame k0 ps)) ∧ OwnR kFrame 0 51 tb w' va (markR mFrame k0 ps) ∧ Kept (footR kFrame va ps) w w' := by
  obtain ⟨aa, na, ca, rfl⟩ := ha.slice
  have hm := markPool_own hand (.slice aa na ca) ps k0 (w.alloc (.cells #[.int .i64 code, .int .i64 fr, .slice aa na ca, .int .i64 hand] 37)) h0 h1 hn (ha.same ((Kept.refl _ _).alloc _))
  obtain ⟨En, hE⟩ : ∃ En, endR mFrame k0 ps = En := ⟨_, rfl⟩
  rw [hE] at hm ⊢
  clear ha h1 hE
  go_enter Try.func23, Try.ntmps23
  go_wp2_with fail
  refine hm.mono ?_
  clear hm
  rintro e w1 ⟨rfl, ho, hk⟩
  have HO := (show Hid (OwnR kFrame 0 51 tb w1 (.slice aa na ca) (markR mFrame k0 ps)) from ho)
  have HK := (show Hid (Kept (footR kFrame (.slice aa na ca) ps) w w1) from ((Kept.refl _ _).alloc _).trans hk)
  clear ho hk
  go_wp2
  go_ret
  exact ⟨rfl, HO.out, HK.out⟩
theorem heldPoolResult_own {tb : TypeId} (code fr hand : Int) (va : Value) (ps : List EFrame) (k0 : Int) (w : World) (h0 : 0 ≤ k0) (h1 : endR mFrame k0 ps ≤ 1125899906842624) (hn : ps.length ≤ 1125899906842624) (ha : OwnR kFrame 0 51 tb w va (markR mFrame k0 ps)) :
    Calls Try.prog 24 #[.agg #[.int .i64 code, .int .i64 fr, va, .int .i64 hand], .int .i64 k0] w fun e w' => e = .returned (.int .i64 (endR mFrame k0 ps)) ∧ Same w w' := by
  obtain ⟨aa, na, ca, rfl⟩ := ha.slice
  have hm := heldPool_own hand (.slice aa na ca) ps k0 (w.alloc (.cells #[.int .i64 code, .int .i64 fr, .slice aa na ca, .int .i64 hand] 37)) h0 h1 hn (ha.same ((Kept.refl _ _).alloc _))
  have hl := endR_le mFrame k0 ps
  obtain ⟨En, hE⟩ : ∃ En, endR mFrame k0 ps = En := ⟨_, rfl⟩
  rw [hE] at hm hl ⊢
  have hp : ¬ En < 0 := by omega
  clear ha h1 hE
  go_enter Try.func24, Try.ntmps24
  go_wp2_with fail
  refine hm.mono ?_
  clear hm
  rintro e w1 ⟨rfl, hk⟩
  go_wp2
  go_ret
  exact ⟨rfl, ((Kept.refl _ _).alloc _).trans hk⟩
theorem sizeFrameS_le {m : Nat} (ps : List EFrame) (h : ∀ p ∈ ps, p.bs.length ≤ m) : sizeFrameS ps ≤ ps.length * m := by
  induction ps with
  | nil => simp [sizeFrameS]
  | cons p ps ih =>
    have h1 := h p (by simp)
    have h2 := ih (fun q hq => h q (by simp [hq]))
    simp only [sizeFrameS, List.length_cons, Nat.add_mul, Nat.one_mul]
    omega
def SmallF (L : List (Int × List Int × Int × Bool × Int × Bool)) : Prop := L.length ≤ 1048576 ∧ ∀ x ∈ L, x.2.1.length ≤ 1048576
theorem SmallF.of {L : List (Int × List Int × Int × Bool × Int × Bool)} (h : SmallF L) (qs : List EFrame) (hq : datFrameS qs = L) : qs.length ≤ 1048576 ∧ (∀ p ∈ qs, p.bs.length ≤ 1048576) ∧ 0 ≤ endR mFrame 1 qs ∧ endR mFrame 1 qs ≤ 1125899906842624 := by
  subst hq
  have h1 : qs.length ≤ 1048576 := by have := h.1; rwa [datFrameS_length] at this
  have h2 : ∀ p ∈ qs, p.bs.length ≤ 1048576 := fun p hp => h.2 p.dat (List.mem_map.2 ⟨p, hp, rfl⟩)
  have h3 := sizeFrameS_le qs h2
  rw [endFrameS_size]
  exact ⟨h1, h2, by omega, by omega⟩
end Go.Proofs.Ytabmhcdldfehnaa

namespace Go.Proofs.Ytabmhcdldfehnaa
set_option maxRecDepth 100000
set_option maxHeartbeats 2000000
open Go.ChangeShapes Go.WideShapes Go.ChangeAt Go.RowKit
set_option linter.unusedVariables false
set_option linter.unusedSimpArgs false
section
variable {H : Type} {enc : TypeId × Value → H} {w : World} {base : Nat} {spare : Nat → Bool} {held : Bool}
theorem read_rows {E : Type} [Inhabited E] (K : RowK E) (Q : E → Prop) {t e : TypeId} (hm0 : 0 < K.m) (ht : Try.prog.underlying t = some (.slice e)) (hc : Try.prog.cellsOf e = K.m)
    (he : ∀ (n : Nat) (cs : List Value) (x : DataW H × List MemPlace), cs.length = K.m → DataW.trod enc Try.prog w base spare held n e cs = some x → ∃ p : E, cs = K.cells p ∧ Rd .u8 w (K.v p) (K.bs p) ∧ Q p)
    {fuel : Nat} {v : Value} {x : DataW H × List MemPlace} (h : DataW.trod enc Try.prog w base spare held fuel t [v] = some x) : ∃ ps : List E, RdR K w v ps ∧ ∀ p ∈ ps, Q p := by
  rcases Deep.open_slice ht h with ⟨hcs, _⟩ | ⟨a, len, cap, m', n, D, Pl, hcs, hb, hl, hm, hmm, _, hx⟩
  · simp at hcs
    subst hcs
    exact ⟨[], ⟨Nat.zero_le _, .inl ⟨rfl, _, _, rfl⟩, fun p hp => by simp at hp⟩, fun p hp => by simp at hp⟩
  · simp at hcs
    subst hcs
    have hlm : len ≤ m' := by rw [hmm]; split <;> omega
    have each : ∀ i, i < len → ∃ p : E, (∀ j, j < K.m → w.cell? ((a.add (i * K.m)).add j) = (K.cells p)[j]?) ∧ Rd .u8 w (K.v p) (K.bs p) ∧ Q p := fun i hi => by
      obtain ⟨cs', h1, h2⟩ := hx i (by omega)
      rw [hc] at h1
      obtain ⟨_, hlen, hcell⟩ := World.cells?_some h1
      obtain ⟨p, rfl, hr, hq⟩ := he _ _ _ (by omega) h2
      exact ⟨p, fun j hj => hcell j (by omega), hr, hq⟩
    obtain ⟨f, hf⟩ := Deep.choose_lt each
    refine ⟨(List.range len).map f, ⟨by simp; omega, ?_, fun p hp => ?_⟩, fun p hp => ?_⟩
    · by_cases h0 : len = 0
      · subst h0
        exact .inl ⟨by simp, _, _, rfl⟩
      · have ha : ∃ b off, a = ⟨b, off, none⟩ := by
          have h1 := (hf 0 (by omega)).1 0 hm0
          rw [Nat.zero_mul, List.getElem?_eq_getElem (by rw [K.len]; exact hm0)] at h1
          have e0 : a.add 0 = a := by cases a; simp [Addr.add]
          rw [e0] at h1
          exact addr_form (a := a) h1
        obtain ⟨b, off, rfl⟩ := ha
        refine .inr ⟨b, off, cap, by simp, fun j i hj hi => ?_⟩
        have hj' : j < len := by simpa using hj
        have h1 := (hf j hj').1 i hi
        rw [add_none, add_none, Nat.add_assoc] at h1
        simpa using h1
    · obtain ⟨i, hi, rfl⟩ := List.mem_map.1 hp
      exact (hf i (List.mem_range.1 hi)).2.1
    · obtain ⟨i, hi, rfl⟩ := List.mem_map.1 hp
      exact (hf i (List.mem_range.1 hi)).2.2
def EFrame.isB (p : EFrame) : Prop := IsB p.bs ∧ IsI p.page ∧ IsI p.pins ∧ IsI p.rl
theorem list6 {cs : List Value} (h : cs.length = 6) : ∃ c0 c1 c2 c3 c4 c5, cs = [c0, c1, c2, c3, c4, c5] := by
  match cs, h with
  | [c0, c1, c2, c3, c4, c5], _ => exact ⟨c0, c1, c2, c3, c4, c5, rfl⟩
theorem read_frame (n : Nat) (cs : List Value) (x : DataW H × List MemPlace) (hl : cs.length = 6) (h : DataW.trod enc Try.prog w base spare held n 72 cs = some x) :
    ∃ p : EFrame, cs = kFrame.cells p ∧ Rd .u8 w (kFrame.v p) (kFrame.bs p) ∧ p.isB := by
  obtain ⟨c0, c1, c2, c3, c4, c5, rfl⟩ := list6 hl
  obtain ⟨xs, n, _, _, _, hxl, hg⟩ := DataW.trod_struct Try.underlying72 h
  have g0 : ∃ x, DataW.trod enc Try.prog w base spare held n 2 [c0] = some x := ⟨xs[0]'(by rw [hxl]; decide), by have h := hg 0 _ rfl; rw [List.getElem?_eq_getElem (by rw [hxl]; decide)] at h; exact h⟩
  have g1 : ∃ x, DataW.trod enc Try.prog w base spare held n 35 [c1] = some x := ⟨xs[1]'(by rw [hxl]; decide), by have h := hg 1 _ rfl; rw [List.getElem?_eq_getElem (by rw [hxl]; decide)] at h; exact h⟩
  have g2 : ∃ x, DataW.trod enc Try.prog w base spare held n 2 [c2] = some x := ⟨xs[2]'(by rw [hxl]; decide), by have h := hg 2 _ rfl; rw [List.getElem?_eq_getElem (by rw [hxl]; decide)] at h; exact h⟩
  have g3 : ∃ x, DataW.trod enc Try.prog w base spare held n 4 [c3] = some x := ⟨xs[3]'(by rw [hxl]; decide), by have h := hg 3 _ rfl; rw [List.getElem?_eq_getElem (by rw [hxl]; decide)] at h; exact h⟩
  have g4 : ∃ x, DataW.trod enc Try.prog w base spare held n 2 [c4] = some x := ⟨xs[4]'(by rw [hxl]; decide), by have h := hg 4 _ rfl; rw [List.getElem?_eq_getElem (by rw [hxl]; decide)] at h; exact h⟩
  have g5 : ∃ x, DataW.trod enc Try.prog w base spare held n 4 [c5] = some x := ⟨xs[5]'(by rw [hxl]; decide), by have h := hg 5 _ rfl; rw [List.getElem?_eq_getElem (by rw [hxl]; decide)] at h; exact h⟩
  obtain ⟨x0, g0⟩ := g0
  obtain ⟨x1, g1⟩ := g1
  obtain ⟨x2, g2⟩ := g2
  obtain ⟨x3, g3⟩ := g3
  obtain ⟨x4, g4⟩ := g4
  obtain ⟨x5, g5⟩ := g5
  obtain ⟨z0, e0, _, b0⟩ := DataW.trod_int Try.underlying2 g0
  obtain ⟨z2, e2, _, b2⟩ := DataW.trod_int Try.underlying2 g2
  obtain ⟨z4, e4, _, b4⟩ := DataW.trod_int Try.underlying2 g4
  obtain ⟨z3, e3, _⟩ := DataW.trod_bool Try.underlying4 g3
  obtain ⟨z5, e5, _⟩ := DataW.trod_bool Try.underlying4 g5
  obtain ⟨bs, hbs, hB⟩ := read_intsB Try.underlying35 Try.underlying5 (by kernel_rfl) g1
  simp at e0 e2 e3 e4 e5
  subst e0 e2 e3 e4 e5
  exact ⟨⟨z0, c1, bs, z2, z3, z4, z5⟩, rfl, hbs, fun x hx => by have := hB x hx; exact ⟨this.1, this.2⟩, int_bounds b0, int_bounds b2, int_bounds b4⟩
theorem open_pool {r : Reach} {b0 : Nat} {v : Value} {d : DataW H} {p : List MemPlace} (hv : Value.okWide Try.prog w r b0 24 v) (h : DataW.Trod enc Try.prog w base spare held 24 v d p) :
    ∃ v0 ps hand, v = .agg #[v0, .int .i64 hand] ∧ RdR kFrame w v0 ps ∧ (∀ p ∈ ps, p.isB) ∧ IsI hand := by
  obtain ⟨v0, v1, y0, y1, n, rfl, _, _, h0, h1⟩ := Joins.open_agg2 Try.underlying24 (by kernel_rfl) (by kernel_rfl) hv h
  have iE : Inhabited EFrame := ⟨⟨0, .slice none 0 0, [], 0, false, 0, false⟩⟩
  obtain ⟨ps, hr, hq⟩ := read_rows kFrame EFrame.isB (by decide) Try.underlying22 (by kernel_rfl) (fun n cs x hl h => read_frame n cs x hl h) h0
  obtain ⟨hand, e, _, b⟩ := DataW.trod_int Try.underlying2 h1
  simp at e
  subst e
  exact ⟨v0, ps, hand, rfl, hr, hq, int_bounds b⟩
end
end Go.Proofs.Ytabmhcdldfehnaa

namespace Go.Proofs.Ytabmhcdldfehnaa
open Go.RowKit
set_option linter.unusedVariables false
set_option linter.unusedSimpArgs false
def inB (v a b : Int) : Bool := decide (a ≤ v) && decide (v ≤ b)
set_option maxRecDepth 100000 in
theorem l4In_any (v a b : Int) (w : World) : Calls Try.prog 32 #[.int .i64 v, .int .i64 a, .int .i64 b] w fun e w' => e = .returned (.bool (inB v a b)) ∧ Same w w' := by
  unfold inB
  by_cases h : a ≤ v
  · by_cases h2 : v ≤ b
    · go_enter Try.func32, Try.ntmps32
      go_wp2
      go_ret
      exact ⟨by simp [h, h2], Kept.refl _ _⟩
    · go_enter Try.func32, Try.ntmps32
      go_wp2
      go_ret
      exact ⟨by simp [h]; try omega, Kept.refl _ _⟩
  · go_enter Try.func32, Try.ntmps32
    go_wp2
    go_ret
    exact ⟨by rw [show decide (a ≤ v) = false from by simp; omega]; rfl, Kept.refl _ _⟩
end Go.Proofs.Ytabmhcdldfehnaa

namespace Go.Proofs.Ytabmhcdldfehnaa
open Go
section
variable {P : Program} {ops : Array Oper} {Q : Exit → Act → World → Prop} {md : Region.Mode} {S : World → Prop} {s : Nat}
def wpAnyV (P : Program) (md : Region.Mode) (ops : Array Oper) (Q : Exit → Act → World → Prop) (S : World → Prop) (s : Nat) : Nat → Array Bool → Act → World → Prop
  | 0, listed, a, w => Region.ready md ops listed = [] ∧ Q .normal a w
  | fuel + 1, listed, a, w =>
    (Region.ready md ops listed = [] → Q .normal a w) ∧
    ∀ i ∈ Region.ready md ops listed, wpOp P ops Q i (fun a' w' => (i ≠ s → S w') ∧ wpAnyV P md ops Q S s fuel (listed.setIfInBounds i true) a' w') a w
theorem wpAny_of_V : ∀ (fuel : Nat) (listed : Array Bool) (a : Act) (w : World), wpAnyV P md ops Q S s fuel listed a w → wpAny P md ops Q fuel listed a w
  | 0, _, _, _, h => h
  | fuel + 1, _, _, _, h => ⟨h.1, fun i hi => wpOp_mono (fun a' w' h' => wpAny_of_V fuel _ a' w' h'.2) (h.2 i hi)⟩
def waits (md : Region.Mode) (ops : Array Oper) (s i : Nat) : Bool :=
  match ops[s]? with
  | some o => o.after.any fun e => Region.binds md e && e.on == i
  | none => true
theorem waits_spec {i : Nat} (h : waits md ops s i = true) {os : Oper} (ho : ops[s]? = some os) (hn : ∀ e ∈ os.after, Region.binds md e = true → e.on ≠ i) : False := by
  unfold waits at h
  rw [ho] at h
  obtain ⟨e, he, hb⟩ := Array.any_eq_true'.1 h
  simp only [Bool.and_eq_true, beq_iff_eq] at hb
  exact hn e he hb.1 hb.2
theorem ready_apart {listed : Array Bool} {i j : Nat} (hi : i ∈ Region.ready md ops listed) (hj : j ∈ Region.ready md ops listed) {oj : Oper} (hoj : ops[j]? = some oj) :
    ∀ e ∈ oj.after, Region.binds md e = true → e.on ≠ i := by
  rintro e he hb rfl
  obtain ⟨_, o, ho, hall⟩ := mem_ready.1 hj
  obtain rfl : o = oj := by rw [hoj] at ho; exact (Option.some.inj ho).symm
  have hyes := hall e he hb
  have hno := (mem_ready.1 hi).1
  by_cases hl : e.on < listed.size <;> simp_all
def Loose (md : Region.Mode) (ops : Array Oper) (i : Nat) (oi : Oper) (listed : Array Bool) : Prop :=
  ∀ j oj, ops[j]? = some oj → j ≠ i → listed.getD j true = false → (∀ e ∈ oj.after, Region.binds md e = true → e.on ≠ i) → oi.apart ops oj = true
theorem Loose.on {i j : Nat} {oi : Oper} {listed : Array Bool} (h : Loose md ops i oi listed) (hj : listed.getD j true = false) : Loose md ops i oi (listed.setIfInBounds j true) := fun k ok hk hki hun hno =>
  h k ok hk hki (if e : j = k then e ▸ hj else (getD_set_ne true e) ▸ hun) hno
theorem wpAnyV_first {i : Nat} {oi : Oper} {v : Value} (hi : ops[i]? = some oi) (hsel : ∀ (j : Nat) (o : Oper) cs b, ops[j]? = some o → o.op ≠ .select cs b) (hs : waits md ops s i = true)
    (hQ : ∀ c a w, Q (.panic c) (a.put oi.dst v) w → Q (.panic c) a w) (fuel : Nat) : ∀ (listed : Array Bool) (a : Act) (w : World), Loose md ops i oi listed → i ∈ Region.ready md ops listed → YieldsIf P ops S oi v a → S w →
      wpAnyV P md ops Q S s fuel (listed.setIfInBounds i true) (a.put oi.dst v) w → wpAnyV P md ops Q S s (fuel + 1) listed a w := by
  induction fuel with
  | zero =>
    intro listed a w _ hr hy hS H
    constructor
    · intro h0; simp [h0] at hr
    · intro j hj
      by_cases e : j = i
      · exact e ▸ hy.wpOp hi hS ⟨fun _ => hS, H⟩
      · have := ready_mono hj e
        simp [H.1] at this
  | succ fuel ih =>
    intro listed a w hl hr hy hS H
    constructor
    · intro h0; simp [h0] at hr
    · intro j hj
      by_cases e : j = i
      · exact e ▸ hy.wpOp hi hS ⟨fun _ => hS, H⟩
      · obtain ⟨hun, oj, hoj, _⟩ := mem_ready.1 hj
        have hap := ready_apart hr hj hoj
        have hjs : j ≠ s := fun es => waits_spec hs (es ▸ hoj) hap
        refine wpOp_mono ?_ (wpOp_putIf hoj (hl j oj hoj e hun hap) (fun cs b => hsel i oi cs b hi) (fun cs b => hsel j oj cs b hoj) hQ hy (H.2 j (ready_mono hj e)))
        rintro a' w' ⟨hy', hS', hw'⟩
        exact ⟨hS', ih _ a' w' (hl.on hun) (ready_mono hr (Ne.symm e)) hy' (hS' hjs) (by rw [Array.setIfInBounds_comm _ _ e]; exact hw')⟩
theorem wpAnyV_take {i : Nat} {oi : Oper} {v : Value} {fuel : Nat} {listed : Array Bool} {a : Act} {w : World} (d : Option Tmp) (hi : ops[i]? = some oi) (hd : oi.dst = d)
    (hsl : Region.noSelect ops = true) (hf : Region.free md ops listed i = true) (hr : (Region.ready md ops listed).contains i = true) (hs : waits md ops s i = true)
    (hQ : ∀ c a w, Q (.panic c) (a.put d v) w → Q (.panic c) a w) (hy : YieldsIf P ops S oi v a) (hS : S w)
    (h : wpAnyV P md ops Q S s fuel (listed.setIfInBounds i true) (a.put d v) w) : wpAnyV P md ops Q S s (fuel + 1) listed a w := by
  subst hd
  exact wpAnyV_first hi (Region.noSelect_spec hsl) hs hQ fuel listed a w (Region.free_spec hi hf) (by simpa using hr) hy hS h
theorem sA {α : Type} {l : List α} {i : Nat} {a : α} : l.toArray.setIfInBounds i a = (l.set i a).toArray := List.setIfInBounds_toArray ..
theorem s0 {α : Type} {x : α} {xs : List α} {a : α} : (x :: xs).set 0 a = a :: xs := List.set_cons_zero
theorem sS {α : Type} {x : α} {xs : List α} {i : Nat} {a : α} : (x :: xs).set (i + 1) a = x :: xs.set i a := List.set_cons_succ
theorem tk (i d : Nat) {oi : Oper} {v : Value} {fuel : Nat} {listed : Array Bool} {a a' : Act} {w : World} (hS : S w)
    (h : wpAnyV P md ops Q S s fuel (listed.setIfInBounds i true) a' w) (hi : ops[i]? = some oi := by rfl) (hg : Region.wanted oi (yielded ops a.tmps) = true := by rfl) (hd : oi.dst = some d := by rfl)
    (hy : ∀ w, S w → (execOp a.eval oi).run P w = .ok (.value v) w := by intro w hSw; (try dsimp only at hSw); go_simp; (try with_reducible rfl))
    (hsl : Region.noSelect ops = true := by kernel_rfl) (hf : Region.free md ops listed i = true := by kernel_rfl) (hr : (Region.ready md ops listed).contains i = true := by kernel_rfl) (hs : waits md ops s i = true := by kernel_rfl)
    (hQ : ∀ c a w, Q (.panic c) (a.put (some d) v) w → Q (.panic c) a w := by exact fun _ _ _ h => h)
    (ha : a.put (some d) v = a' := by first | (simp only [Act.put, sA, s0, sS]; done) | (simp only [Act.put, sA, s0, sS]; rfl) | rfl) : wpAnyV P md ops Q S s (fuel + 1) listed a w :=
  wpAnyV_take (some d) hi hd hsl hf hr hs hQ (Or.inl ⟨hg, hy⟩) hS (ha ▸ h)
theorem tkV (i d : Nat) (v : Value) {oi : Oper} {fuel : Nat} {listed : Array Bool} {a a' : Act} {w : World} (hS : S w)
    (h : wpAnyV P md ops Q S s fuel (listed.setIfInBounds i true) a' w) (hi : ops[i]? = some oi := by rfl) (hg : Region.wanted oi (yielded ops a.tmps) = true := by rfl) (hd : oi.dst = some d := by rfl)
    (hy : ∀ w, S w → (execOp a.eval oi).run P w = .ok (.value v) w := by intro w hSw; (try dsimp only at hSw); go_simp; (try omega))
    (hsl : Region.noSelect ops = true := by kernel_rfl) (hf : Region.free md ops listed i = true := by kernel_rfl) (hr : (Region.ready md ops listed).contains i = true := by kernel_rfl) (hs : waits md ops s i = true := by kernel_rfl)
    (hQ : ∀ c a w, Q (.panic c) (a.put (some d) v) w → Q (.panic c) a w := by exact fun _ _ _ h => h)
    (ha : a.put (some d) v = a' := by first | (simp only [Act.put, sA, s0, sS]; done) | (simp only [Act.put, sA, s0, sS]; rfl) | rfl) : wpAnyV P md ops Q S s (fuel + 1) listed a w :=
  wpAnyV_take (some d) hi hd hsl hf hr hs hQ (Or.inl ⟨hg, hy⟩) hS (ha ▸ h)
theorem tkS (i d : Nat) {oi : Oper} {fuel : Nat} {listed : Array Bool} {a a' : Act} {w : World} (hS : S w)
    (h : wpAnyV P md ops Q S s fuel (listed.setIfInBounds i true) a' w) (hi : ops[i]? = some oi := by rfl) (hg : Region.wanted oi (yielded ops a.tmps) = false := by rfl) (hd : oi.dst = some d := by rfl)
    (hsl : Region.noSelect ops = true := by kernel_rfl) (hf : Region.free md ops listed i = true := by kernel_rfl) (hr : (Region.ready md ops listed).contains i = true := by kernel_rfl) (hs : waits md ops s i = true := by kernel_rfl)
    (hQ : ∀ c a w, Q (.panic c) (a.put (some d) undef) w → Q (.panic c) a w := by exact fun _ _ _ h => h)
    (ha : a.put (some d) undef = a' := by first | (simp only [Act.put, sA, s0, sS]; done) | (simp only [Act.put, sA, s0, sS]; rfl) | rfl) : wpAnyV P md ops Q S s (fuel + 1) listed a w :=
  wpAnyV_take (some d) hi hd hsl hf hr hs hQ (Or.inr ⟨hg, rfl⟩) hS (ha ▸ h)
theorem wpAnyV_one {i : Nat} {o : Oper} {fuel : Nat} {listed : Array Bool} {a : Act} {w : World} (hr : Region.ready md ops listed = [i]) (ho : ops[i]? = some o)
    (h : ∀ K' : Act → World → Prop, Shut (∀ a w, (i ≠ s → S w) → wpAnyV P md ops Q S s fuel (listed.setIfInBounds i true) a w → K' a w) → if Region.wanted o (yielded ops a.tmps) = true then Oper.wp P o a w K' Q else K' (a.put o.dst undef) w) :
    wpAnyV P md ops Q S s (fuel + 1) listed a w := by
  constructor
  · intro h0; simp [hr] at h0
  · intro j hj
    rw [hr] at hj
    obtain rfl : j = i := by simpa using hj
    exact wpOp_step ho (fun K' hK => h K' (fun a w hS hW => hK a w ⟨hS, hW⟩))
theorem wpAnyV_two {i j : Nat} {o o' : Oper} {fuel : Nat} {listed : Array Bool} {a : Act} {w : World} (hr : Region.ready md ops listed = [i, j]) (ho : ops[i]? = some o) (ho' : ops[j]? = some o')
    (h : ∀ K' : Act → World → Prop, Shut (∀ a w, (i ≠ s → S w) → wpAnyV P md ops Q S s fuel (listed.setIfInBounds i true) a w → K' a w) → if Region.wanted o (yielded ops a.tmps) = true then Oper.wp P o a w K' Q else K' (a.put o.dst undef) w)
    (h' : ∀ K' : Act → World → Prop, Shut (∀ a w, (j ≠ s → S w) → wpAnyV P md ops Q S s fuel (listed.setIfInBounds j true) a w → K' a w) → if Region.wanted o' (yielded ops a.tmps) = true then Oper.wp P o' a w K' Q else K' (a.put o'.dst undef) w) :
    wpAnyV P md ops Q S s (fuel + 1) listed a w := by
  constructor
  · intro h0; simp [hr] at h0
  · intro k hk
    rw [hr] at hk
    simp only [List.mem_cons, List.not_mem_nil, or_false] at hk
    rcases hk with rfl | rfl
    · exact wpOp_step ho (fun K' hK => h K' (fun a w hS hW => hK a w ⟨hS, hW⟩))
    · exact wpOp_step ho' (fun K' hK => h' K' (fun a w hS hW => hK a w ⟨hS, hW⟩))
theorem wpAnyV_done {fuel : Nat} {listed : Array Bool} {a : Act} {w : World} (hr : Region.ready md ops listed = []) (h : Q .normal a w) : wpAnyV P md ops Q S s fuel listed a w := by
  cases fuel with
  | zero => exact ⟨hr, h⟩
  | succ n => exact ⟨fun _ => h, by rw [hr]; simp⟩
theorem wp_region_V {id : Nat} {a : Act} {w : World} (S : World → Prop) (s n : Nat) (hn : ops.size = n) (hm : P.follows .mixedOrders = true) (h : wpAnyV P .any ops Q S s n (Array.replicate n false) a w.drew) : (Code.region id ops true).wp P Q a w := by
  subst hn
  exact wp_region_any hm (wpAny_of_V _ _ _ _ h)
end
end Go.Proofs.Ytabmhcdldfehnaa

namespace Go.Proofs.Ytabmhcdldfehnaa
set_option maxRecDepth 100000
set_option maxHeartbeats 4000000
open Go.RowKit
set_option linter.unusedVariables false
set_option linter.unusedSimpArgs false
def bad3 (f : EFrame) : Bool := if f.page = -1 then (decide (0 < f.bs.length) || f.pins != 0 || f.dirty || f.rl != 0 || f.rf) else (!inB f.page 0 15 || f.bs.length != 4096 || !inB f.pins 0 2147483647)
def bad4 (f : EFrame) : Bool := (f.dirty && !inB f.rl 1 1099511627776) || (!f.dirty && f.rl != 0)
def dupAt (ps : List EFrame) (i : Nat) : Bool := match ps[i]? with
  | some p => p.page != -1 && (ps.take i).any (fun q => p.page == q.page)
  | none => false
def dup (ps : List EFrame) : Bool := (List.range ps.length).any (dupAt ps)
def poolF (ps : List EFrame) (hand : Int) : Int :=
  if ps.length < 1 ∨ 16 < ps.length then 1 else if hand < 0 ∨ (ps.length : Int) ≤ hand then 2 else if ps.any bad3 then 3 else if ps.any bad4 then 4 else if dup ps then 5 else 0
theorem any_take {ps : List EFrame} {f : EFrame → Bool} {k : Nat} (h : (ps.take k).any f = false) (hk : k < ps.length) (hf : f ps[k] = false) : (ps.take (k + 1)).any f = false := by
  rw [List.take_succ_eq_append_getElem hk, List.any_append, h]
  simp [hf]
theorem any_yes {ps : List EFrame} {f : EFrame → Bool} {k : Nat} (hk : k < ps.length) (hf : f ps[k] = true) : ps.any f = true := List.any_eq_true.2 ⟨_, List.getElem_mem hk, hf⟩
theorem specPoolFault_any (v : Value) (hand : Int) (ps : List EFrame) (w : World) (hv : RdR kFrame w v ps) :
    Calls Try.prog 10 #[.agg #[v, .int .i64 hand]] w fun e w' => e = .returned (.int .i64 (poolF ps hand)) ∧ Same w w' := by
  obtain ⟨a, c, rfl⟩ := hv.form
  have hmax := hv.max
  unfold maxLen at hmax
  have HV := (show Hid (RdR kFrame w (.slice a ps.length c) ps) from hv)
  clear hv
  have HB0 := (show Hid (Blk (w.alloc (.cells #[.slice a ps.length c, .int .i64 hand] 29)) w.heap.size 29 [.slice a ps.length c, .int .i64 hand]) from Blk.newL w [.slice a ps.length c, .int .i64 hand] 29)
  have HK0 := hid (sameA w [.slice a ps.length c, .int .i64 hand] 29)
  obtain ⟨len, hl⟩ : ∃ n, ps.length = n := ⟨_, rfl⟩
  have HL : Hid (ps.length = len) := hl
  obtain ⟨R, hR⟩ : ∃ R, poolF ps hand = R := ⟨_, rfl⟩
  rw [hR]
  unfold poolF at hR
  rw [hl] at HV HB0 HK0 hmax hR ⊢
  clear hl
  by_cases h1 : len < 1 ∨ 16 < len
  · rw [if_pos h1] at hR
    subst hR
    by_cases h1a : len < 1
    · have q : ((len : Int) < 1) := by omega
      clear h1
      go_enter Try.func10, Try.ntmps10
      go_wp2
      go_ret
      exact ⟨rfl, HK0.out⟩
    · have q : ¬ ((len : Int) < 1) := by omega
      have q2 : (16 : Int) < (len : Int) := by omega
      clear h1
      go_enter Try.func10, Try.ntmps10
      go_wp2
      go_ret
      exact ⟨rfl, HK0.out⟩
  rw [if_neg h1] at hR
  have q1 : ¬ ((len : Int) < 1) := by omega
  have q2 : ¬ ((16 : Int) < (len : Int)) := by omega
  have hl16 : len ≤ 16 := by omega
  clear h1
  by_cases h2 : hand < 0 ∨ (len : Int) ≤ hand
  · rw [if_pos h2] at hR
    subst hR
    by_cases h2a : hand < 0
    · clear h2
      go_enter Try.func10, Try.ntmps10
      go_wp2
      go_ret
      exact ⟨rfl, HK0.out⟩
    · have q3 : (len : Int) ≤ hand := by omega
      clear h2
      go_enter Try.func10, Try.ntmps10
      go_wp2
      go_ret
      exact ⟨rfl, HK0.out⟩
  rw [if_neg h2] at hR
  have q3 : ¬ hand < 0 := by omega
  have q4 : ¬ (len : Int) ≤ hand := by omega
  clear h2
  rcases HV.out.row with ⟨hps, _⟩ | ⟨b, off, c', he, hc⟩
  · have := HL.out
    rw [hps] at this
    simp at this
    omega
  injection he with he1 he2 he3
  subst he1 he3
  have HC : Hid (∀ j i, (h : j < ps.length) → i < 6 → w.cell? ⟨b, off + (j * 6 + i), none⟩ = (kFrame.cells ps[j])[i]?) := hc
  have HR : Hid ((if ps.any bad3 then 3 else if ps.any bad4 then 4 else if dup ps then 5 else 0) = R) := hR
  clear hc hR he2
  go_enter Try.func10, Try.ntmps10
  go_wp2_with fail
  go_loopw [3] (fun i wr => ∃ k : Nat, k ≤ len ∧ i = .int .i64 k ∧ Hid ((ps.take k).any bad3 = false) ∧ Hid (Same w wr) ∧ Hid (Blk wr w.heap.size 29 [.slice (some ⟨b, off, none⟩) len c, .int .i64 hand])) (fun i _ => len - (intOf i).toNat)
  case atStart => exact ⟨0, Nat.zero_le _, rfl, by simp [Hid], HK0, HB0⟩
  case round =>
    obtain ⟨k, hk, rfl, HA, HK, HB⟩ := hrel
    obtain ⟨g0, g1⟩ := HB.out.all2
    by_cases hlt : k < len
    · have hlp : k < ps.length := by rw [HL.out]; exact hlt
      obtain ⟨p, hp⟩ : ∃ p, ps[k] = p := ⟨_, rfl⟩
      have hform := (show Rd .u8 w ps[k].v ps[k].bs from HV.out.data _ (List.getElem_mem hlp)).form
      have hm1 := (show Rd .u8 w ps[k].v ps[k].bs from HV.out.data _ (List.getElem_mem hlp)).1
      have hcc : ∀ i, i < 6 → wr.cell? ⟨b, off + (k * 6 + i), none⟩ = (kFrame.cells ps[k])[i]? := fun i hi => by
        have h := HC.out k i hlp hi
        have hlen : (kFrame.cells ps[k]).length = 6 := kFrame.len _
        rw [List.getElem?_eq_getElem (by omega)] at h ⊢
        exact HK.out.cellOf h id
      rw [hp] at hform hm1 hcc
      have HP : Hid (ps[k] = p) := hp
      clear hp
      obtain ⟨pg, pv, fb, pn, dt, rl, rf⟩ := p
      obtain ⟨a1, c1, e1⟩ := hform
      dsimp only at e1 hm1
      subst e1
      obtain ⟨n1, hn1⟩ : ∃ n, fb.length = n := ⟨_, rfl⟩
      have HN : Hid (fb.length = n1) := hn1
      rw [hn1] at hcc hm1
      unfold maxLen at hm1
      have d0 : wr.cell? ⟨b, off + k * 6, none⟩ = some (.int .i64 pg) := by have h := hcc 0 (by decide); exact h
      have d1 : wr.cell? ⟨b, off + k * 6 + 1, none⟩ = some (.slice a1 n1 c1) := by have h := hcc 1 (by decide); rw [← Nat.add_assoc] at h; exact h
      have d2 : wr.cell? ⟨b, off + k * 6 + 2, none⟩ = some (.int .i64 pn) := by have h := hcc 2 (by decide); rw [← Nat.add_assoc] at h; exact h
      have d3 : wr.cell? ⟨b, off + k * 6 + 3, none⟩ = some (.bool dt) := by have h := hcc 3 (by decide); rw [← Nat.add_assoc] at h; exact h
      have d4 : wr.cell? ⟨b, off + k * 6 + 4, none⟩ = some (.int .i64 rl) := by have h := hcc 4 (by decide); rw [← Nat.add_assoc] at h; exact h
      have d5 : wr.cell? ⟨b, off + k * 6 + 5, none⟩ = some (.bool rf) := by have h := hcc 5 (by decide); rw [← Nat.add_assoc] at h; exact h
      have HKa := (show Hid (Same w (wr.alloc (.cells #[.int .i64 pg, .slice a1 n1 c1, .int .i64 pn, .bool dt, .int .i64 rl, .bool rf] 51))) from HK.out.alloc _)
      have HBa := (show Hid (Blk (wr.alloc (.cells #[.int .i64 pg, .slice a1 n1 c1, .int .i64 pn, .bool dt, .int .i64 rl, .bool rf] 51)) w.heap.size 29 [.slice (some ⟨b, off, none⟩) len c, .int .i64 hand]) from HB.out.same ((Kept.refl _ _).alloc _))
      have ba := Blk.newL wr [.int .i64 pg, .slice a1 n1 c1, .int .i64 pn, .bool dt, .int .i64 rl, .bool rf] 51
      clear hcc hn1
      by_cases h1 : pg = -1
      · subst h1
        by_cases e1 : 0 < n1
        · have e1' : (0 : Int) < (n1 : Int) := by omega
          go_wp2
          go_ret
          have hb3 : bad3 ps[k] = true := by rw [HP.out]; simp [bad3, HN.out, e1]
          exact ⟨by have h := HR.out; rw [if_pos (any_yes hlp hb3)] at h; subst h; rfl, HKa.out⟩
        obtain rfl : n1 = 0 := by omega
        by_cases e2 : pn = 0
        · subst e2
          cases dt with
          | true =>
            go_wp2
            go_ret
            have hb3 : bad3 ps[k] = true := by rw [HP.out]; simp [bad3, HN.out, ]
            exact ⟨by have h := HR.out; rw [if_pos (any_yes hlp hb3)] at h; subst h; rfl, HKa.out⟩
          | false =>
            by_cases e3 : rl = 0
            · subst e3
              cases rf with
              | true =>
                go_wp2
                go_ret
                have hb3 : bad3 ps[k] = true := by rw [HP.out]; simp [bad3, HN.out, ]
                exact ⟨by have h := HR.out; rw [if_pos (any_yes hlp hb3)] at h; subst h; rfl, HKa.out⟩
              | false =>
                go_wp2
                go_roundw
                case rel => exact ⟨k + 1, by omega, by go_num, any_take HA.out hlp (by rw [HP.out]; simp [bad3, HN.out, ]), HKa, HBa⟩
                case measure => simp [intOf]; omega
            · go_wp2
              go_ret
              have hb3 : bad3 ps[k] = true := by rw [HP.out]; simp [bad3, HN.out, e3]
              exact ⟨by have h := HR.out; rw [if_pos (any_yes hlp hb3)] at h; subst h; rfl, HKa.out⟩
        · go_wp2
          go_ret
          have hb3 : bad3 ps[k] = true := by rw [HP.out]; simp [bad3, HN.out, e2]
          exact ⟨by have h := HR.out; rw [if_pos (any_yes hlp hb3)] at h; subst h; rfl, HKa.out⟩
      · have k1 := fun wx => l4In_any pg 0 15 wx
        have k2 := fun wx => l4In_any pn 0 2147483647 wx
        cases f1 : inB pg 0 15 with
        | false =>
          rw [f1] at k1
          go_wp2_with fail
          refine (k1 _).mono ?_
          rintro e w1 ⟨rfl, hk1⟩
          have HK1 := (show Hid (Same w w1) from HKa.out.trans hk1)
          go_wp2
          go_ret
          have hb3 : bad3 ps[k] = true := by rw [HP.out]; simp [bad3, HN.out, h1, f1]
          exact ⟨by have h := HR.out; rw [if_pos (any_yes hlp hb3)] at h; subst h; rfl, HK1.out⟩
        | true =>
          rw [f1] at k1
          go_wp2_with fail
          refine (k1 _).mono ?_
          rintro e w1 ⟨rfl, hk1⟩
          have HK1 := (show Hid (Same w w1) from HKa.out.trans hk1)
          have HB1 := hid (HBa.out.same hk1)
          have b1 := ba.same hk1
          obtain ⟨c0, c1', c2, c3, c4, c5⟩ := b1.all6
          clear hk1
          by_cases e1 : n1 = 4096
          · subst e1
            cases f2 : inB pn 0 2147483647 with
            | false =>
              rw [f2] at k2
              go_wp2_with fail
              refine (k2 _).mono ?_
              rintro e w2 ⟨rfl, hk2⟩
              have HK2 := (show Hid (Same w w2) from HK1.out.trans hk2)
              go_wp2
              go_ret
              have hb3 : bad3 ps[k] = true := by rw [HP.out]; simp [bad3, HN.out, h1, f1, f2]
              exact ⟨by have h := HR.out; rw [if_pos (any_yes hlp hb3)] at h; subst h; rfl, HK2.out⟩
            | true =>
              rw [f2] at k2
              go_wp2_with fail
              refine (k2 _).mono ?_
              rintro e w2 ⟨rfl, hk2⟩
              have HK2 := (show Hid (Same w w2) from HK1.out.trans hk2)
              have HB2 := hid (HB1.out.same hk2)
              go_wp2
              go_roundw
              case rel => exact ⟨k + 1, by omega, by go_num, any_take HA.out hlp (by rw [HP.out]; simp [bad3, HN.out, h1, f1, f2]), HK2, HB2⟩
              case measure => simp [intOf]; omega
          · have e1' : ¬ (n1 : Int) = 4096 := by omega
            go_wp2
            go_ret
            have hb3 : bad3 ps[k] = true := by rw [HP.out]; simp [bad3, HN.out, h1, f1, e1]
            exact ⟨by have h := HR.out; rw [if_pos (any_yes hlp hb3)] at h; subst h; rfl, HK1.out⟩
    · obtain rfl : len = k := by omega
      have HA3 : Hid (ps.any bad3 = false) := by have h := HA.out; rw [← HL.out, List.take_length] at h; exact h
      have HR4 : Hid ((if ps.any bad4 then 4 else if dup ps then 5 else 0) = R) := by have h := HR.out; rw [HA3.out] at h; exact h
      clear HA HR HA3
      go_wp2_with fail
      go_loopw [5] (fun i wr2 => ∃ k : Nat, k ≤ len ∧ i = .int .i64 k ∧ Hid ((ps.take k).any bad4 = false) ∧ Hid (Same w wr2) ∧ Hid (Blk wr2 w.heap.size 29 [.slice (some ⟨b, off, none⟩) len c, .int .i64 hand])) (fun i _ => len - (intOf i).toNat)
      case atStart => exact ⟨0, Nat.zero_le _, rfl, by simp [Hid], HK, HB⟩
      case round =>
        obtain ⟨k, hk, rfl, HA, HK2, HB2⟩ := hrel
        obtain ⟨g0, g1⟩ := HB2.out.all2
        by_cases hlt : k < len
        · have hlp : k < ps.length := by rw [HL.out]; exact hlt
          obtain ⟨p, hp⟩ : ∃ p, ps[k] = p := ⟨_, rfl⟩
          have hform := (show Rd .u8 w ps[k].v ps[k].bs from HV.out.data _ (List.getElem_mem hlp)).form
          have hm1 := (show Rd .u8 w ps[k].v ps[k].bs from HV.out.data _ (List.getElem_mem hlp)).1
          have hcc : ∀ i, i < 6 → wr.cell? ⟨b, off + (k * 6 + i), none⟩ = (kFrame.cells ps[k])[i]? := fun i hi => by
            have h := HC.out k i hlp hi
            have hlen : (kFrame.cells ps[k]).length = 6 := kFrame.len _
            rw [List.getElem?_eq_getElem (by omega)] at h ⊢
            exact HK2.out.cellOf h id
          rw [hp] at hform hm1 hcc
          have HP : Hid (ps[k] = p) := hp
          clear hp
          obtain ⟨pg, pv, fb, pn, dt, rl, rf⟩ := p
          obtain ⟨a1, c1, e1⟩ := hform
          dsimp only at e1 hm1
          subst e1
          obtain ⟨n1, hn1⟩ : ∃ n, fb.length = n := ⟨_, rfl⟩
          have HN : Hid (fb.length = n1) := hn1
          rw [hn1] at hcc hm1
          unfold maxLen at hm1
          have d0 : wr.cell? ⟨b, off + k * 6, none⟩ = some (.int .i64 pg) := by have h := hcc 0 (by decide); exact h
          have d1 : wr.cell? ⟨b, off + k * 6 + 1, none⟩ = some (.slice a1 n1 c1) := by have h := hcc 1 (by decide); rw [← Nat.add_assoc] at h; exact h
          have d2 : wr.cell? ⟨b, off + k * 6 + 2, none⟩ = some (.int .i64 pn) := by have h := hcc 2 (by decide); rw [← Nat.add_assoc] at h; exact h
          have d3 : wr.cell? ⟨b, off + k * 6 + 3, none⟩ = some (.bool dt) := by have h := hcc 3 (by decide); rw [← Nat.add_assoc] at h; exact h
          have d4 : wr.cell? ⟨b, off + k * 6 + 4, none⟩ = some (.int .i64 rl) := by have h := hcc 4 (by decide); rw [← Nat.add_assoc] at h; exact h
          have d5 : wr.cell? ⟨b, off + k * 6 + 5, none⟩ = some (.bool rf) := by have h := hcc 5 (by decide); rw [← Nat.add_assoc] at h; exact h
          have HKa := (show Hid (Same w (wr.alloc (.cells #[.int .i64 pg, .slice a1 n1 c1, .int .i64 pn, .bool dt, .int .i64 rl, .bool rf] 51))) from HK2.out.alloc _)
          have HBa := (show Hid (Blk (wr.alloc (.cells #[.int .i64 pg, .slice a1 n1 c1, .int .i64 pn, .bool dt, .int .i64 rl, .bool rf] 51)) w.heap.size 29 [.slice (some ⟨b, off, none⟩) len c, .int .i64 hand]) from HB2.out.same ((Kept.refl _ _).alloc _))
          have ba := Blk.newL wr [.int .i64 pg, .slice a1 n1 c1, .int .i64 pn, .bool dt, .int .i64 rl, .bool rf] 51
          clear hcc hn1
          have k1 := fun wx => l4In_any rl 1 1099511627776 wx
          cases dt with
          | true =>
            cases f1 : inB rl 1 1099511627776 with
            | false =>
              rw [f1] at k1
              go_wp2_with fail
              refine (k1 _).mono ?_
              rintro e w1 ⟨rfl, hk1⟩
              have HK1 := (show Hid (Same w w1) from HKa.out.trans hk1)
              go_wp2
              go_ret
              have hb4 : bad4 ps[k] = true := by rw [HP.out]; simp [bad4, f1]
              exact ⟨by have h := HR4.out; rw [if_pos (any_yes hlp hb4)] at h; subst h; rfl, HK1.out⟩
            | true =>
              rw [f1] at k1
              go_wp2_with fail
              refine (k1 _).mono ?_
              rintro e w1 ⟨rfl, hk1⟩
              have HK1 := (show Hid (Same w w1) from HKa.out.trans hk1)
              have HB1 := hid (HBa.out.same hk1)
              have b1 := ba.same hk1
              obtain ⟨c0, c1', c2, c3, c4, c5⟩ := b1.all6
              clear hk1
              go_wp2
              go_roundw
              case rel => exact ⟨k + 1, by omega, by go_num, any_take HA.out hlp (by rw [HP.out]; simp [bad4, f1]), HK1, HB1⟩
              case measure => simp [intOf]; omega
          | false =>
            by_cases e3 : rl = 0
            · subst e3
              go_wp2
              go_roundw
              case rel => exact ⟨k + 1, by omega, by go_num, any_take HA.out hlp (by rw [HP.out]; simp [bad4, ]), HKa, HBa⟩
              case measure => simp [intOf]; omega
            · go_wp2
              go_ret
              have hb4 : bad4 ps[k] = true := by rw [HP.out]; simp [bad4, e3]
              exact ⟨by have h := HR4.out; rw [if_pos (any_yes hlp hb4)] at h; subst h; rfl, HKa.out⟩
        · obtain rfl : len = k := by omega
          have HA4 : Hid (ps.any bad4 = false) := by have h := HA.out; rw [← HL.out, List.take_length] at h; exact h
          have HR5 : Hid ((if dup ps then 5 else 0) = R) := by have h := HR4.out; rw [HA4.out] at h; exact h
          clear HA HR4 HA4
          go_wp2_with fail
          go_loopw [7] (fun i wr3 => ∃ k : Nat, k ≤ len ∧ i = .int .i64 k ∧ Hid (∀ j, j < k → dupAt ps j = false) ∧ Hid (Same w wr3) ∧ Hid (Blk wr3 w.heap.size 29 [.slice (some ⟨b, off, none⟩) len c, .int .i64 hand])) (fun i _ => len - (intOf i).toNat)
          case atStart => exact ⟨0, Nat.zero_le _, rfl, fun j hj => absurd hj (by omega), HK2, HB2⟩
          case round =>
            obtain ⟨k, hk, rfl, HA, HK3, HB3⟩ := hrel
            obtain ⟨g0, g1⟩ := HB3.out.all2
            by_cases hlt : k < len
            · have hlp : k < ps.length := by rw [HL.out]; exact hlt
              obtain ⟨pg, hpg⟩ : ∃ x, ps[k].page = x := ⟨_, rfl⟩
              have HPG : Hid (ps[k].page = pg) := hpg
              have HCK : Hid (w.cell? ⟨b, off + k * 6, none⟩ = some (.int .i64 pg)) := by have h := HC.out k 0 hlp (by decide); rw [← hpg]; exact h
              clear hpg
              go_wp2_with fail
              go_loopw [8] (fun j wr4 => ∃ m : Nat, m ≤ k ∧ j = .int .i64 m ∧ Hid (pg = -1 ∨ (ps.take m).any (fun q => pg == q.page) = false) ∧ Hid (Same w wr4) ∧ Hid (Blk wr4 w.heap.size 29 [.slice (some ⟨b, off, none⟩) len c, .int .i64 hand])) (fun j _ => k - (intOf j).toNat)
              case atStart => exact ⟨0, Nat.zero_le _, rfl, .inr (by simp), HK3, HB3⟩
              case round =>
                obtain ⟨m, hm, rfl, HM, HK4, HB4⟩ := hrel
                by_cases hmk : m < k
                · have hmp : m < ps.length := by omega
                  obtain ⟨qg, hqg⟩ : ∃ x, ps[m].page = x := ⟨_, rfl⟩
                  have HQG : Hid (ps[m].page = qg) := hqg
                  have HCM : Hid (w.cell? ⟨b, off + m * 6, none⟩ = some (.int .i64 qg)) := by have h := HC.out m 0 hmp (by decide); rw [← hqg]; exact h
                  clear hqg
                  have hki : (k : Int) < (len : Int) := by omega
                  have hmi : (m : Int) < (len : Int) := by omega
                  have hmki : (m : Int) < (k : Int) := by omega
                  go_wp2_with fail
                  have hS : (fun wx : World => wx.cell? ⟨w.heap.size, 0, none⟩ = some (.slice (some ⟨b, off, none⟩) len c) ∧ wx.cell? ⟨b, off + k * 6, none⟩ = some (.int .i64 pg) ∧ wx.cell? ⟨b, off + m * 6, none⟩ = some (.int .i64 qg)) wr.drew := ⟨HB4.out.drew.cell 0, HK4.out.drew.cellOf HCK.out id, HK4.out.drew.cellOf HCM.out id⟩
                  refine wp_region_V (fun wx : World => wx.cell? ⟨w.heap.size, 0, none⟩ = some (.slice (some ⟨b, off, none⟩) len c) ∧ wx.cell? ⟨b, off + k * 6, none⟩ = some (.int .i64 pg) ∧ wx.cell? ⟨b, off + m * 6, none⟩ = some (.int .i64 qg)) 99 22 rfl (by kernel_rfl) ?_
                  refine tk 0 125 hS ?_
                  refine tk 1 126 hS ?_
                  refine tk 2 127 hS ?_
                  refine tkV 3 128 (.pointer (some ⟨b, off + k * 6, none⟩)) hS ?_
                  refine tk 4 129 hS ?_
                  refine tk 5 130 hS ?_
                  by_cases h1 : pg = -1
                  · subst h1
                    refine tk 6 131 hS ?_
                    refine tk 7 132 hS ?_
                    refine tkS 8 133 hS ?_
                    refine tkS 9 134 hS ?_
                    refine tkS 10 135 hS ?_
                    refine tkS 11 136 hS ?_
                    refine tkS 12 137 hS ?_
                    refine tkS 13 138 hS ?_
                    refine tkS 14 139 hS ?_
                    refine tkS 15 140 hS ?_
                    refine tkS 16 141 hS ?_
                    refine tkS 17 142 hS ?_
                    refine tkS 18 143 hS ?_
                    refine tkS 19 144 hS ?_
                    refine tkS 20 145 hS ?_
                    refine tk 21 146 hS ?_
                    refine wpAnyV_done (by kernel_rfl) ?_
                    go_wp2
                    go_roundw
                    case rel => exact ⟨m + 1, by omega, by go_num, show Hid (_ ∨ _) from .inl (by first | rfl | trivial | decide), HK4.out.drew, HB4.out.drew⟩
                    case measure => simp [intOf]; omega
                  · have e1 : (pg != -1) = true := by simp [h1]
                    refine tk 6 131 hS ?_
                    refine tk 7 132 hS ?_
                    refine tk 8 133 hS ?_
                    refine tk 9 134 hS ?_
                    refine tk 10 135 hS ?_
                    refine tkV 11 136 (.pointer (some ⟨b, off + k * 6, none⟩)) hS ?_
                    refine tk 12 137 hS ?_
                    refine tk 13 138 hS ?_
                    refine tk 14 139 hS ?_
                    refine tk 15 140 hS ?_
                    refine tk 16 141 hS ?_
                    refine tkV 17 142 (.pointer (some ⟨b, off + m * 6, none⟩)) hS ?_
                    refine tk 18 143 hS ?_
                    refine tk 19 144 hS ?_
                    refine tk 20 145 hS ?_
                    refine tk 21 146 hS ?_
                    refine wpAnyV_done (by kernel_rfl) ?_
                    by_cases h2 : pg = qg
                    · subst h2
                      have hda : dupAt ps k = true := by
                        unfold dupAt
                        rw [List.getElem?_eq_getElem hlp]
                        dsimp only
                        rw [HPG.out, e1, Bool.true_and]
                        refine List.any_eq_true.2 ⟨ps[m], ?_, by rw [HQG.out]; simp⟩
                        rw [List.mem_take_iff_getElem]
                        exact ⟨m, by omega, rfl⟩
                      have hdu : dup ps = true := List.any_eq_true.2 ⟨k, List.mem_range.2 hlp, hda⟩
                      go_wp2
                      go_ret
                      exact ⟨by have h := HR5.out; rw [if_pos hdu] at h; subst h; rfl, HK4.out.drew⟩
                    · go_wp2
                      go_roundw
                      case rel =>
                        refine ⟨m + 1, by omega, by go_num, .inr ?_, HK4.out.drew, HB4.out.drew⟩
                        have h := HM.out.resolve_left h1
                        rw [List.take_succ_eq_append_getElem hmp, List.any_append, h]
                        simp [HQG.out, h2]
                      case measure => simp [intOf]; omega
                · obtain rfl : k = m := by omega
                  go_wp2
                  go_roundw
                  case rel =>
                    refine ⟨k + 1, by omega, by go_num, fun j hj => ?_, HK4, HB4⟩
                    by_cases hjk : j < k
                    · exact HA.out j hjk
                    · obtain rfl : j = k := by omega
                      unfold dupAt
                      rw [List.getElem?_eq_getElem hlp]
                      dsimp only
                      rw [HPG.out]
                      rcases HM.out with h | h
                      · rw [h]; rfl
                      · rw [h, Bool.and_false]
                  case measure => simp [intOf]; omega
            · obtain rfl : len = k := by omega
              have hd : dup ps = false := by
                unfold dup
                rw [HL.out]
                apply List.any_eq_false.2
                intro j hj
                rw [HA.out j (List.mem_range.1 hj)]
                decide
              go_wp2
              go_ret
              exact ⟨by have h := HR5.out; rw [hd] at h; simp only [Bool.false_eq_true, if_false] at h; subst h; rfl, HK3.out⟩
end Go.Proofs.Ytabmhcdldfehnaa

namespace Go.Proofs.Ytabmhcdldfehnaa
open Go.RowKit
set_option linter.unusedVariables false
set_option linter.unusedSimpArgs false
def isPageB (x : Int) : Bool := decide (0 ≤ x) && decide (x < 16)
set_option maxRecDepth 100000 in
theorem isPage_eq (x : Int) (w : World) : Calls Try.prog 39 #[.int .i64 x] w fun e w' => e = .returned (.bool (isPageB x)) ∧ w' = w := by
  unfold isPageB
  by_cases h : 0 ≤ x
  · by_cases h2 : x < 16
    · go_enter Try.func39, Try.ntmps39
      go_wp2
      go_ret
      exact ⟨by simp [h, h2], rfl⟩
    · go_enter Try.func39, Try.ntmps39
      go_wp2
      go_ret
      exact ⟨by simp [h]; omega, rfl⟩
  · go_enter Try.func39, Try.ntmps39
    go_wp2
    go_ret
    exact ⟨by rw [show decide (0 ≤ x) = false from by simp; omega]; rfl, rfl⟩
end Go.Proofs.Ytabmhcdldfehnaa
