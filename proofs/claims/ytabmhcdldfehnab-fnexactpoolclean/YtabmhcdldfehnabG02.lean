import Derived.Test.YtabmhcdldfehnabG01
import Derived.Test.YtabmhcdldfehnabG00
import Derived.WalkKit
import Derived.OrdersHeld
import Derived.Deep.RegionHeld3
import Derived.Deep.MidRow
import Derived.Great.BuildSlice
import Derived.Laws.AppendOwnNone
namespace Go.Proofs.Ytabmhcdldfehnab
set_option maxRecDepth 100000
set_option maxHeartbeats 4000000
open Go.RowKit
set_option linter.unusedVariables false
set_option linter.unusedSimpArgs false
theorem OwnR.slice {E : Type} {K : RowK E} {base : Nat} {tw tb : TypeId} {w : World} {v : Value} {ps : List E} (h : OwnR K base tw tb w v ps) : ∃ a n c, v = .slice a n c := by
  rcases h.form with ⟨rfl, _⟩ | ⟨g, cap, rfl, _⟩ <;> exact ⟨_, _, _, rfl⟩
theorem eqPool_own {ta tb : TypeId} (base : Nat) (hand : Int) (va vb : Value) (ps qs : List EFrame) (w : World) (hn : ps.length ≤ 1125899906842624) (hs : datFrameS ps = datFrameS qs) (hsm : ∀ p ∈ ps, p.bs.length ≤ 1125899906842624)
    (ha : OwnR kFrame base 46 ta w va ps) (hb : OwnR kFrame base 46 tb w vb qs) :
    Calls Try.prog 10 #[.agg #[va, .int .i64 hand], .agg #[vb, .int .i64 hand]] w fun e w' => e = .returned (.bool true) ∧ Same w w' := by
  obtain ⟨aa, na, ca, rfl⟩ := ha.slice
  obtain ⟨ab, nb, cb, rfl⟩ := hb.slice
  have HA := (show Hid (OwnR kFrame base 46 ta w (.slice aa na ca) ps) from ha)
  have HB := (show Hid (OwnR kFrame base 46 tb w (.slice ab nb cb) qs) from hb)
  have b0 := (Blk.newL w [.slice aa na ca, .int .i64 hand] 28).same ((Kept.refl _ _).alloc (.cells #[.slice ab nb cb, .int .i64 hand] 28))
  have b1 := Blk.newB w [.slice aa na ca, .int .i64 hand] 28 [.slice ab nb cb, .int .i64 hand] 28
  clear ha hb
  go_enter Try.func10, Try.ntmps10
  go_wp2_with fail
  refine (eqFrameS_own base _ _ ps qs _ hn hs hsm (HA.out.same (((Kept.refl _ _).alloc _).alloc _)) (HB.out.same (((Kept.refl _ _).alloc _).alloc _))).mono ?_
  rintro e w1 ⟨rfl, hk⟩
  have p1 := (b0.same hk).c1
  have q1 := (b1.same hk).c1
  go_wp2
  go_ret
  exact ⟨rfl, (((Kept.refl _ _).alloc _).alloc _).trans hk⟩
theorem markPool_own {tb : TypeId} (hand : Int) (va : Value) (ps : List EFrame) (k0 : Int) (w : World) (h0 : 0 ≤ k0) (h1 : endR mFrame k0 ps ≤ 1125899906842624) (hn : ps.length ≤ 1125899906842624) (ha : OwnR kFrame 0 46 tb w va ps) :
    Calls Try.prog 11 #[.agg #[va, .int .i64 hand], .int .i64 k0] w fun e w' => e = .returned (.int .i64 (endR mFrame k0 ps)) ∧ OwnR kFrame 0 46 tb w' va (markR mFrame k0 ps) ∧ Kept (footR kFrame va ps) w w' := by
  obtain ⟨aa, na, ca, rfl⟩ := ha.slice
  have hm := markFrameS_own 0 (.slice aa na ca) ps k0 (w.alloc (.cells #[.slice aa na ca, .int .i64 hand] 28)) h0 h1 hn (ha.same ((Kept.refl _ _).alloc _))
  obtain ⟨En, hE⟩ : ∃ En, endR mFrame k0 ps = En := ⟨_, rfl⟩
  rw [hE] at hm ⊢
  clear ha h1 hE
  go_enter Try.func11, Try.ntmps11
  go_wp2_with fail
  refine hm.mono ?_
  clear hm
  rintro e w1 ⟨rfl, ho, hk⟩
  have HO := (show Hid (OwnR kFrame 0 46 tb w1 (.slice aa na ca) (markR mFrame k0 ps)) from ho)
  have HK := (show Hid (Kept (footR kFrame (.slice aa na ca) ps) w w1) from ((Kept.refl _ _).alloc _).trans hk)
  clear ho hk
  go_wp2
  go_ret
  exact ⟨rfl, HO.out, HK.out⟩
theorem heldPool_own {tb : TypeId} (hand : Int) (va : Value) (ps : List EFrame) (k0 : Int) (w : World) (h0 : 0 ≤ k0) (h1 : endR mFrame k0 ps ≤ 1125899906842624) (hn : ps.length ≤ 1125899906842624) (ha : OwnR kFrame 0 46 tb w va (markR mFrame k0 ps)) :
    Calls Try.prog 25 #[.agg #[va, .int .i64 hand], .int .i64 k0] w fun e w' => e = .returned (.int .i64 (endR mFrame k0 ps)) ∧ Same w w' := by
  obtain ⟨aa, na, ca, rfl⟩ := ha.slice
  have hm := heldFrameS_own 0 (.slice aa na ca) ps k0 (w.alloc (.cells #[.slice aa na ca, .int .i64 hand] 28)) h0 h1 hn (ha.same ((Kept.refl _ _).alloc _))
  have hl := endR_le mFrame k0 ps
  obtain ⟨En, hE⟩ : ∃ En, endR mFrame k0 ps = En := ⟨_, rfl⟩
  rw [hE] at hm hl ⊢
  have hp : ¬ En < 0 := by omega
  clear ha h1 hE
  go_enter Try.func25, Try.ntmps25
  go_wp2_with fail
  refine hm.mono ?_
  clear hm
  rintro e w1 ⟨rfl, rfl⟩
  go_wp2
  go_ret
  exact ⟨rfl, (Kept.refl _ _).alloc _⟩
theorem szPool_any (hand : Int) (v : Value) (ps : List EFrame) (left : Int) (w : World) (h0 : 0 ≤ left) (h1 : left ≤ 1048576) (hp : RdR kFrame w v ps) :
    Calls Try.prog 5 #[.agg #[v, .int .i64 hand], .int .i64 left] w fun e w' => ∃ r : Int, e = .returned (.int .i64 r) ∧ (r = -1 ∨ (r = left - ps.length - sizeFrameS ps ∧ 0 ≤ r)) ∧ Same w w' := by
  obtain ⟨a, c, rfl⟩ := hp.form
  have hm := szFrameS_any (.slice a ps.length c) ps left (w.alloc (.cells #[.slice a ps.length c, .int .i64 hand] 24)) h0 h1 (hp.same ((Kept.refl _ _).alloc _))
  clear hp
  go_enter Try.func5, Try.ntmps5
  go_wp2_with fail
  refine hm.mono ?_
  clear hm
  rintro e w1 ⟨r, rfl, hr, hk⟩
  have HK := (show Hid (Same w w1) from ((Kept.refl _ _).alloc _).trans hk)
  clear hk
  rcases hr with rfl | ⟨hr, hr0⟩
  · go_wp2
    go_ret
    exact ⟨_, rfl, .inl rfl, HK.out⟩
  · have HR : Hid (r = left - ps.length - sizeFrameS ps) := hr
    clear hr
    go_wp2
    go_ret
    exact ⟨_, rfl, .inr ⟨HR.out, hr0⟩, HK.out⟩
theorem toPool_any (hand : Int) (v : Value) (ps : List EFrame) (w : World) (hn : ps.length ≤ 1073741824) (hs : ∀ p ∈ ps, p.bs.length ≤ 1099511627776) (hv : RdR kFrame w v ps) :
    Calls Try.prog 7 #[.agg #[v, .int .i64 hand]] w fun e w' => ∃ g qs, e = .returned (.agg #[.slice (some ⟨g, 0, none⟩) ps.length ps.length, .int .i64 hand]) ∧ datFrameS qs = datFrameS ps ∧ (∀ b, footR kFrame (.slice (some ⟨g, 0, none⟩) ps.length ps.length) qs b → w.heap.size ≤ b) ∧
      OwnR kFrame 0 46 5 w' (.slice (some ⟨g, 0, none⟩) ps.length ps.length) qs ∧ Same w w' := by
  obtain ⟨a, c, rfl⟩ := hv.form
  have hk0 : Same w (((w.alloc (.cells #[.slice a ps.length c, .int .i64 hand] 24)).alloc (.cells #[.slice none 0 0, .int .i64 0] 28)).alloc (.cells #[.slice none 0 0, .int .i64 0] 28)) := (((Kept.refl _ _).alloc _).alloc _).alloc _
  have hm := toFrameS_any (.slice a ps.length c) ps _ hn hs (hv.same hk0)
  have b0 : Blk (((w.alloc (.cells #[.slice a ps.length c, .int .i64 hand] 24)).alloc (.cells #[.slice none 0 0, .int .i64 0] 28)).alloc (.cells #[.slice none 0 0, .int .i64 0] 28)) w.heap.size 24 [.slice a ps.length c, .int .i64 hand] := ((Blk.newL w [.slice a ps.length c, .int .i64 hand] 24).same ((Kept.refl _ _).alloc _)).same ((Kept.refl _ _).alloc _)
  have b1 : Blk (((w.alloc (.cells #[.slice a ps.length c, .int .i64 hand] 24)).alloc (.cells #[.slice none 0 0, .int .i64 0] 28)).alloc (.cells #[.slice none 0 0, .int .i64 0] 28)) (w.heap.size + 1) 28 [.slice none 0 0, .int .i64 0] := (Blk.newB w [.slice a ps.length c, .int .i64 hand] 24 [.slice none 0 0, .int .i64 0] 28).same ((Kept.refl _ _).alloc _)
  have b2 : Blk (((w.alloc (.cells #[.slice a ps.length c, .int .i64 hand] 24)).alloc (.cells #[.slice none 0 0, .int .i64 0] 28)).alloc (.cells #[.slice none 0 0, .int .i64 0] 28)) (w.heap.size + 1 + 1) 28 [.slice none 0 0, .int .i64 0] := by have h := Blk.newL ((w.alloc (.cells #[.slice a ps.length c, .int .i64 hand] 24)).alloc (.cells #[.slice none 0 0, .int .i64 0] 28)) [.slice none 0 0, .int .i64 0] 28; rwa [World.size_alloc, World.size_alloc] at h
  have HK0 := (show Hid (Same w _) from hk0)
  clear hv hs hn hk0
  go_enter Try.func7, Try.ntmps7
  go_wp2_with fail
  refine hm.mono ?_
  clear hm
  rintro e w1 ⟨g, qs, rfl, hd, hf, ho, hk⟩
  have HF : Hid (∀ b, footR kFrame (.slice (some ⟨g, 0, none⟩) ps.length ps.length) qs b → w.heap.size + 1 + 1 + 1 ≤ b) := fun b hb => by have h := hf b hb; simp only [World.size_alloc] at h; exact h
  have HO : Hid (OwnR kFrame 0 46 5 w1 (.slice (some ⟨g, 0, none⟩) ps.length ps.length) qs) := ho
  have HK : Hid (Same w w1) := HK0.out.trans hk
  have HD : Hid (datFrameS qs = datFrameS ps) := hd
  have p1 := (b0.same hk).c1
  have z0 := (b1.same hk).c0
  have z1 := (b1.same hk).c1
  have o0 := (b2.same hk).c0
  have o1 := (b2.same hk).c1
  have f1 := (b1.same hk).frozen
  have f2 := (b2.same hk).frozen
  have hz1 : w.heap.size + 1 + 1 < w1.heap.size := (b2.same hk).lt
  clear ho hk b0 b1 b2 hf hd HK0
  go_wp2
  refine bodyPost_ret (v := .agg #[.slice (some ⟨g, 0, none⟩) ps.length ps.length, .int .i64 hand]) (by simp [results, Try.results7, go_sem, z0, z1]) rfl ⟨g, qs, rfl, HD.out, fun b hb => by have := HF.out b hb; omega, ?_, ?_⟩
  · refine HO.out.kept (R := fun b => b = w.heap.size + 1 ∨ b = w.heap.size + 1 + 1) ?_ (fun b hb e => by have := HF.out b hb; omega)
    (iterate 4 refine Kept.setCell (R := fun b => b = w.heap.size + 1 ∨ b = w.heap.size + 1 + 1) ?_ (by first | exact .inr (.inl rfl) | exact .inr (.inr rfl)) _)
    exact Kept.refl _ _
  · (iterate 4 refine Kept.setCell ?_ (by first | exact .inl (Nat.le_succ _) | exact .inl (Nat.le_succ_of_le (Nat.le_succ _))) _)
    exact HK.out
theorem eqPoolResult_own {ta tb : TypeId} (base : Nat) (code fr hand : Int) (va vb : Value) (ps qs : List EFrame) (w : World) (hn : ps.length ≤ 1125899906842624) (hs : datFrameS ps = datFrameS qs) (hsm : ∀ p ∈ ps, p.bs.length ≤ 1125899906842624)
    (ha : OwnR kFrame base 46 ta w va ps) (hb : OwnR kFrame base 46 tb w vb qs) :
    Calls Try.prog 9 #[.agg #[.int .i64 code, .int .i64 fr, va, .int .i64 hand], .agg #[.int .i64 code, .int .i64 fr, vb, .int .i64 hand]] w fun e w' => e = .returned (.bool true) ∧ Same w w' := by
  obtain ⟨aa, na, ca, rfl⟩ := ha.slice
  obtain ⟨ab, nb, cb, rfl⟩ := hb.slice
  have hm := fun wx (hk : Same w wx) => eqPool_own base hand (.slice aa na ca) (.slice ab nb cb) ps qs wx hn hs hsm (ha.same hk) (hb.same hk)
  clear ha hb hn hs hsm
  have hk0 : Same w ((w.alloc (.cells #[.int .i64 code, .int .i64 fr, .slice aa na ca, .int .i64 hand] 30)).alloc (.cells #[.int .i64 code, .int .i64 fr, .slice ab nb cb, .int .i64 hand] 30)) := ((Kept.refl _ _).alloc _).alloc _
  go_enter Try.func9, Try.ntmps9
  go_wp2_with fail
  refine (hm _ hk0).mono ?_
  rintro e w1 ⟨rfl, hk⟩
  go_wp2
  go_ret
  exact ⟨rfl, hk0.trans hk⟩
theorem markPoolResult_own {tb : TypeId} (code fr hand : Int) (va : Value) (ps : List EFrame) (k0 : Int) (w : World) (h0 : 0 ≤ k0) (h1 : endR mFrame k0 ps ≤ 1125899906842624) (hn : ps.length ≤ 1125899906842624) (ha : OwnR kFrame 0 46 tb w va ps) :
    Calls Try.prog 12 #[.agg #[.int .i64 code, .int .i64 fr, va, .int .i64 hand], .int .i64 k0] w fun e w' => e = .returned (.int .i64 (endR mFrame k0 ps)) ∧ OwnR kFrame 0 46 tb w' va (markR mFrame k0 ps) ∧ Kept (footR kFrame va ps) w w' := by
  obtain ⟨aa, na, ca, rfl⟩ := ha.slice
  have hm := markPool_own hand (.slice aa na ca) ps k0 (w.alloc (.cells #[.int .i64 code, .int .i64 fr, .slice aa na ca, .int .i64 hand] 30)) h0 h1 hn (ha.same ((Kept.refl _ _).alloc _))
  obtain ⟨En, hE⟩ : ∃ En, endR mFrame k0 ps = En := ⟨_, rfl⟩
  rw [hE] at hm ⊢
  clear ha h1 hE
  go_enter Try.func12, Try.ntmps12
  go_wp2_with fail
  refine hm.mono ?_
  clear hm
  rintro e w1 ⟨rfl, ho, hk⟩
  have HO := (show Hid (OwnR kFrame 0 46 tb w1 (.slice aa na ca) (markR mFrame k0 ps)) from ho)
  have HK := (show Hid (Kept (footR kFrame (.slice aa na ca) ps) w w1) from ((Kept.refl _ _).alloc _).trans hk)
  clear ho hk
  go_wp2
  go_ret
  exact ⟨rfl, HO.out, HK.out⟩
theorem heldPoolResult_own {tb : TypeId} (code fr hand : Int) (va : Value) (ps : List EFrame) (k0 : Int) (w : World) (h0 : 0 ≤ k0) (h1 : endR mFrame k0 ps ≤ 1125899906842624) (hn : ps.length ≤ 1125899906842624) (ha : OwnR kFrame 0 46 tb w va (markR mFrame k0 ps)) :
    Calls Try.prog 13 #[.agg #[.int .i64 code, .int .i64 fr, va, .int .i64 hand], .int .i64 k0] w fun e w' => e = .returned (.int .i64 (endR mFrame k0 ps)) ∧ Same w w' := by
  obtain ⟨aa, na, ca, rfl⟩ := ha.slice
  have hm := heldPool_own hand (.slice aa na ca) ps k0 (w.alloc (.cells #[.int .i64 code, .int .i64 fr, .slice aa na ca, .int .i64 hand] 30)) h0 h1 hn (ha.same ((Kept.refl _ _).alloc _))
  have hl := endR_le mFrame k0 ps
  obtain ⟨En, hE⟩ : ∃ En, endR mFrame k0 ps = En := ⟨_, rfl⟩
  rw [hE] at hm hl ⊢
  have hp : ¬ En < 0 := by omega
  clear ha h1 hE
  go_enter Try.func13, Try.ntmps13
  go_wp2_with fail
  refine hm.mono ?_
  clear hm
  rintro e w1 ⟨rfl, hk⟩
  go_wp2
  go_ret
  exact ⟨rfl, ((Kept.refl _ _).alloc _).trans hk⟩
theorem sizeFrameS_le {m : Nat} (ps : List EFrame) (h : ∀ p ∈ ps, p.bs.length ≤ m) : sizeFrameS ps ≤ ps.length * m := by
  induction ps with
  | nil => simp [sizeFrameS]
  | cons p ps ih =>
    have h1 := h p (by simp)
    have h2 := ih (fun q hq => h q (by simp [hq]))
    simp only [sizeFrameS, List.length_cons, Nat.add_mul, Nat.one_mul]
    omega
def SmallF (L : List (Int × List Int × Int × Bool × Int × Bool)) : Prop := L.length ≤ 1048576 ∧ ∀ x ∈ L, x.2.1.length ≤ 1048576
theorem SmallF.of {L : List (Int × List Int × Int × Bool × Int × Bool)} (h : SmallF L) (qs : List EFrame) (hq : datFrameS qs = L) : qs.length ≤ 1048576 ∧ (∀ p ∈ qs, p.bs.length ≤ 1048576) ∧ 0 ≤ endR mFrame 1 qs ∧ endR mFrame 1 qs ≤ 1125899906842624 := by
  subst hq
  have h1 : qs.length ≤ 1048576 := by have := h.1; rwa [datFrameS_length] at this
  have h2 : ∀ p ∈ qs, p.bs.length ≤ 1048576 := fun p hp => h.2 p.dat (List.mem_map.2 ⟨p, hp, rfl⟩)
  have h3 := sizeFrameS_le qs h2
  rw [endFrameS_size]
  exact ⟨h1, h2, by omega, by omega⟩
end Go.Proofs.Ytabmhcdldfehnab

namespace Go.Proofs.Ytabmhcdldfehnab
set_option maxRecDepth 100000
set_option maxHeartbeats 2000000
open Go.ChangeShapes Go.WideShapes Go.ChangeAt Go.RowKit
set_option linter.unusedVariables false
set_option linter.unusedSimpArgs false
section
variable {H : Type} {enc : TypeId × Value → H} {w : World} {base : Nat} {spare : Nat → Bool} {held : Bool}
theorem read_rows {E : Type} [Inhabited E] (K : RowK E) (Q : E → Prop) {t e : TypeId} (hm0 : 0 < K.m) (ht : Try.prog.underlying t = some (.slice e)) (hc : Try.prog.cellsOf e = K.m)
    (he : ∀ (n : Nat) (cs : List Value) (x : DataW H × List MemPlace), cs.length = K.m → DataW.trod enc Try.prog w base spare held n e cs = some x → ∃ p : E, cs = K.cells p ∧ Rd .u8 w (K.v p) (K.bs p) ∧ Q p)
    {fuel : Nat} {v : Value} {x : DataW H × List MemPlace} (h : DataW.trod enc Try.prog w base spare held fuel t [v] = some x) : ∃ ps : List E, RdR K w v ps ∧ ∀ p ∈ ps, Q p := by
  rcases Deep.open_slice ht h with ⟨hcs, _⟩ | ⟨a, len, cap, m', n, D, Pl, hcs, hb, hl, hm, hmm, _, hx⟩
  · simp at hcs
    subst hcs
    exact ⟨[], ⟨Nat.zero_le _, .inl ⟨rfl, _, _, rfl⟩, fun p hp => by simp at hp⟩, fun p hp => by simp at hp⟩
  · simp at hcs
    subst hcs
    have hlm : len ≤ m' := by rw [hmm]; split <;> omega
    have each : ∀ i, i < len → ∃ p : E, (∀ j, j < K.m → w.cell? ((a.add (i * K.m)).add j) = (K.cells p)[j]?) ∧ Rd .u8 w (K.v p) (K.bs p) ∧ Q p := fun i hi => by
      obtain ⟨cs', h1, h2⟩ := hx i (by omega)
      rw [hc] at h1
      obtain ⟨_, hlen, hcell⟩ := World.cells?_some h1
      obtain ⟨p, rfl, hr, hq⟩ := he _ _ _ (by omega) h2
      exact ⟨p, fun j hj => hcell j (by omega), hr, hq⟩
    obtain ⟨f, hf⟩ := Deep.choose_lt each
    refine ⟨(List.range len).map f, ⟨by simp; omega, ?_, fun p hp => ?_⟩, fun p hp => ?_⟩
    · by_cases h0 : len = 0
      · subst h0
        exact .inl ⟨by simp, _, _, rfl⟩
      · have ha : ∃ b off, a = ⟨b, off, none⟩ := by
          have h1 := (hf 0 (by omega)).1 0 hm0
          rw [Nat.zero_mul, List.getElem?_eq_getElem (by rw [K.len]; exact hm0)] at h1
          have e0 : a.add 0 = a := by cases a; simp [Addr.add]
          rw [e0] at h1
          exact addr_form (a := a) h1
        obtain ⟨b, off, rfl⟩ := ha
        refine .inr ⟨b, off, cap, by simp, fun j i hj hi => ?_⟩
        have hj' : j < len := by simpa using hj
        have h1 := (hf j hj').1 i hi
        rw [add_none, add_none, Nat.add_assoc] at h1
        simpa using h1
    · obtain ⟨i, hi, rfl⟩ := List.mem_map.1 hp
      exact (hf i (List.mem_range.1 hi)).2.1
    · obtain ⟨i, hi, rfl⟩ := List.mem_map.1 hp
      exact (hf i (List.mem_range.1 hi)).2.2
def EFrame.isB (p : EFrame) : Prop := IsB p.bs ∧ IsI p.page ∧ IsI p.pins ∧ IsI p.rl
theorem list6 {cs : List Value} (h : cs.length = 6) : ∃ c0 c1 c2 c3 c4 c5, cs = [c0, c1, c2, c3, c4, c5] := by
  match cs, h with
  | [c0, c1, c2, c3, c4, c5], _ => exact ⟨c0, c1, c2, c3, c4, c5, rfl⟩
theorem read_frame (n : Nat) (cs : List Value) (x : DataW H × List MemPlace) (hl : cs.length = 6) (h : DataW.trod enc Try.prog w base spare held n 57 cs = some x) :
    ∃ p : EFrame, cs = kFrame.cells p ∧ Rd .u8 w (kFrame.v p) (kFrame.bs p) ∧ p.isB := by
  obtain ⟨c0, c1, c2, c3, c4, c5, rfl⟩ := list6 hl
  obtain ⟨xs, n, _, _, _, hxl, hg⟩ := DataW.trod_struct Try.underlying57 h
  have g0 : ∃ x, DataW.trod enc Try.prog w base spare held n 2 [c0] = some x := ⟨xs[0]'(by rw [hxl]; decide), by have h := hg 0 _ rfl; rw [List.getElem?_eq_getElem (by rw [hxl]; decide)] at h; exact h⟩
  have g1 : ∃ x, DataW.trod enc Try.prog w base spare held n 44 [c1] = some x := ⟨xs[1]'(by rw [hxl]; decide), by have h := hg 1 _ rfl; rw [List.getElem?_eq_getElem (by rw [hxl]; decide)] at h; exact h⟩
  have g2 : ∃ x, DataW.trod enc Try.prog w base spare held n 2 [c2] = some x := ⟨xs[2]'(by rw [hxl]; decide), by have h := hg 2 _ rfl; rw [List.getElem?_eq_getElem (by rw [hxl]; decide)] at h; exact h⟩
  have g3 : ∃ x, DataW.trod enc Try.prog w base spare held n 4 [c3] = some x := ⟨xs[3]'(by rw [hxl]; decide), by have h := hg 3 _ rfl; rw [List.getElem?_eq_getElem (by rw [hxl]; decide)] at h; exact h⟩
  have g4 : ∃ x, DataW.trod enc Try.prog w base spare held n 2 [c4] = some x := ⟨xs[4]'(by rw [hxl]; decide), by have h := hg 4 _ rfl; rw [List.getElem?_eq_getElem (by rw [hxl]; decide)] at h; exact h⟩
  have g5 : ∃ x, DataW.trod enc Try.prog w base spare held n 4 [c5] = some x := ⟨xs[5]'(by rw [hxl]; decide), by have h := hg 5 _ rfl; rw [List.getElem?_eq_getElem (by rw [hxl]; decide)] at h; exact h⟩
  obtain ⟨x0, g0⟩ := g0
  obtain ⟨x1, g1⟩ := g1
  obtain ⟨x2, g2⟩ := g2
  obtain ⟨x3, g3⟩ := g3
  obtain ⟨x4, g4⟩ := g4
  obtain ⟨x5, g5⟩ := g5
  obtain ⟨z0, e0, _, b0⟩ := DataW.trod_int Try.underlying2 g0
  obtain ⟨z2, e2, _, b2⟩ := DataW.trod_int Try.underlying2 g2
  obtain ⟨z4, e4, _, b4⟩ := DataW.trod_int Try.underlying2 g4
  obtain ⟨z3, e3, _⟩ := DataW.trod_bool Try.underlying4 g3
  obtain ⟨z5, e5, _⟩ := DataW.trod_bool Try.underlying4 g5
  obtain ⟨bs, hbs, hB⟩ := read_intsB Try.underlying44 Try.underlying5 (by kernel_rfl) g1
  simp at e0 e2 e3 e4 e5
  subst e0 e2 e3 e4 e5
  exact ⟨⟨z0, c1, bs, z2, z3, z4, z5⟩, rfl, hbs, fun x hx => by have := hB x hx; exact ⟨this.1, this.2⟩, int_bounds b0, int_bounds b2, int_bounds b4⟩
theorem open_pool {r : Reach} {b0 : Nat} {v : Value} {d : DataW H} {p : List MemPlace} (hv : Value.okWide Try.prog w r b0 24 v) (h : DataW.Trod enc Try.prog w base spare held 24 v d p) :
    ∃ v0 ps hand, v = .agg #[v0, .int .i64 hand] ∧ RdR kFrame w v0 ps ∧ (∀ p ∈ ps, p.isB) ∧ IsI hand := by
  obtain ⟨v0, v1, y0, y1, n, rfl, _, _, h0, h1⟩ := Joins.open_agg2 Try.underlying24 (by kernel_rfl) (by kernel_rfl) hv h
  have iE : Inhabited EFrame := ⟨⟨0, .slice none 0 0, [], 0, false, 0, false⟩⟩
  obtain ⟨ps, hr, hq⟩ := read_rows kFrame EFrame.isB (by decide) Try.underlying22 (by kernel_rfl) (fun n cs x hl h => read_frame n cs x hl h) h0
  obtain ⟨hand, e, _, b⟩ := DataW.trod_int Try.underlying2 h1
  simp at e
  subst e
  exact ⟨v0, ps, hand, rfl, hr, hq, int_bounds b⟩
end
end Go.Proofs.Ytabmhcdldfehnab

namespace Go.Proofs.Ytabmhcdldfehnab
open Go.RowKit
set_option linter.unusedVariables false
set_option linter.unusedSimpArgs false
variable {E : Type}
section
variable {K : RowK E} {base : Nat} {tw tb : TypeId} {w w' : World} {v : Value} {qs : List E}
theorem OwnR.snoc {g n cap : Nat} (p : E) (h : OwnR K base tw tb w v qs) (hu : Own base tb .u8 w (K.v p) (K.bs p)) (huf : ∀ b, (K.v p).ownBlock = some b → ¬ footR K v qs b)
    (hg : w.grownBy w' v.ownBlock) (hrow : w'.ownsRow base tw K.m (.slice (some ⟨g, 0, none⟩) (n + 1) cap) (n + 1) (K.all qs ++ K.cells p)) (hn : n = qs.length) (hat : v.ownBlock = some g ∨ g = w.heap.size) :
    OwnR K base tw tb w' (.slice (some ⟨g, 0, none⟩) (n + 1) cap) (qs ++ [p]) := by
  have hk : Kept (fun b => v.ownBlock = some b) w w' := Kept.of_grown hg (fun k e => e)
  have hul : ∀ b, (K.v p).ownBlock = some b → b < w.heap.size := fun b hb => (hu.lt b hb).2
  have hgu : (K.v p).ownBlock ≠ some g := fun e => by
    rcases hat with hat | hat
    · exact huf g e (.inl hat)
    · have := hul g e; omega
  have hgp : ∀ q ∈ qs, (K.v q).ownBlock ≠ some g := fun q hp e => by
    rcases hat with hat | hat
    · exact h.out (K.v q) (List.mem_map_of_mem hp) g hat e
    · have := (h.lt g (.inr ⟨q, hp, e⟩)).2; omega
  refine ⟨?_, fun q hp => ?_, fun x hx => ?_, ?_⟩
  · have e : K.all (qs ++ [p]) = K.all qs ++ K.cells p := by rw [K.all_append]; simp [RowK.all]
    rw [e, List.length_append, List.length_singleton, ← hn]
    exact hrow
  · rcases List.mem_append.1 hp with hp | hp
    · exact (h.data q hp).kept hk (fun b hb e => h.out (K.v q) (List.mem_map_of_mem hp) b e hb)
    · simp at hp
      subst hp
      exact hu.kept hk (fun b hb e => huf b hb (.inl e))
  · rw [List.map_append, List.mem_append] at hx
    intro b hb
    have hb' : b = g := by simpa [Value.ownBlock] using hb.symm
    subst hb'
    rcases hx with hx | hx
    · obtain ⟨q, hp, rfl⟩ := List.mem_map.1 hx
      exact hgp q hp
    · simp at hx
      subst hx
      exact hgu
  · rw [List.map_append]
    refine List.pairwise_append.2 ⟨h.each, by simp, fun x hx y hy => ?_⟩
    obtain ⟨q, hp, rfl⟩ := List.mem_map.1 hx
    simp at hy
    subst hy
    exact fun b hb hb' => huf b hb' (.inr ⟨q, hp, hb⟩)
theorem footR_snoc {g n cap : Nat} {p : E} (b : Nat) (hb : footR K (.slice (some ⟨g, 0, none⟩) n cap) (qs ++ [p]) b) : b = g ∨ footR K v qs b ∨ (K.v p).ownBlock = some b := by
  rcases hb with hb | ⟨q, hp, hb⟩
  · exact .inl (by simpa [Value.ownBlock] using hb.symm)
  · rcases List.mem_append.1 hp with hp | hp
    · exact .inr (.inl (.inr ⟨q, hp, hb⟩))
    · simp at hp
      subst hp
      exact .inr (.inr hb)
theorem footR_nil (b : Nat) : ¬ footR K (.slice none 0 0) [] b := by
  rintro (h | ⟨p, hp, _⟩)
  · simp [Value.ownBlock] at h
  · simp at hp
theorem list_mid {qs : List E} {k : Nat} (h : k < qs.length) : qs = qs.take k ++ qs[k] :: qs.drop (k + 1) := by
  rw [← List.drop_eq_getElem_cons h, List.take_append_drop]
theorem set_mid {qs : List E} {k : Nat} (h : k < qs.length) (p : E) : qs.set k p = qs.take k ++ p :: qs.drop (k + 1) := List.set_eq_take_append_cons_drop.trans (if_pos h)
theorem OwnR.setAt {g n cap k : Nat} {p' : E} (h : OwnR K base tw tb w (.slice (some ⟨g, 0, none⟩) n cap) qs) (hn : n = qs.length) (hk : k < qs.length) (i : Nat) (u : Value) (hi : i < K.m)
    (hc : K.cells p' = (K.cells qs[k]).set i u) (hv : K.v p' = K.v qs[k]) (hb : K.bs p' = K.bs qs[k]) (j : Nat) (hj : j = k * K.m + i) :
    OwnR K base tw tb (w.setCell ⟨g, j, none⟩ u) (.slice (some ⟨g, 0, none⟩) n cap) (qs.set k p') := by
  have h' := h
  rw [list_mid hk] at h'
  rw [set_mid hk]
  exact OwnR.set h' (by rw [← list_mid hk]; exact hn) i u hi hc hv hb j (by rw [List.length_take, Nat.min_eq_left (Nat.le_of_lt hk)]; exact hj)
theorem footR_set {k : Nat} {p' : E} (hk : k < qs.length) (hv : K.v p' = K.v qs[k]) (b : Nat) (h : footR K v (qs.set k p') b) : footR K v qs b := by
  rcases h with h | ⟨q, hq, hb⟩
  · exact .inl h
  · rcases List.mem_or_eq_of_mem_set hq with hq | rfl
    · exact .inr ⟨q, hq, hb⟩
    · exact .inr ⟨qs[k], List.getElem_mem hk, by rw [← hv]; exact hb⟩
end
end Go.Proofs.Ytabmhcdldfehnab

namespace Go.Proofs.Ytabmhcdldfehnab
open Go.RowKit
set_option linter.unusedVariables false
set_option linter.unusedSimpArgs false
variable {E : Type}
def ptrV (b : Nat) : Value := .pointer (some ⟨b, 0, none⟩)
structure Ptrs (K : RowK E) (te tb : TypeId) (w : World) (bl : List Nat) (ps : List E) : Prop where
  len : bl.length = ps.length
  blk : ∀ (j : Nat) (b : Nat) (p : E), bl[j]? = some b → ps[j]? = some p → Blk w b te (K.cells p)
  data : ∀ p ∈ ps, Own 0 tb .u8 w (K.v p) (K.bs p)
  one : ∀ (i j b : Nat), bl[i]? = some b → bl[j]? = some b → i = j
  apart : ∀ b ∈ bl, ∀ p ∈ ps, (K.v p).ownBlock ≠ some b
  each : ∀ (i j : Nat) (p q : E) (x : Nat), ps[i]? = some p → ps[j]? = some q → (K.v p).ownBlock = some x → (K.v q).ownBlock = some x → i = j
def footS (K : RowK E) (bl : List Nat) (ps : List E) (b : Nat) : Prop := b ∈ bl ∨ ∃ p ∈ ps, (K.v p).ownBlock = some b
section
variable {K : RowK E} {te tb : TypeId} {w w' : World} {bl : List Nat} {ps : List E}
theorem Ptrs.nil (K : RowK E) (te tb : TypeId) (w : World) : Ptrs K te tb w [] [] :=
  ⟨rfl, fun j b p h => by simp at h, fun p h => by simp at h, fun i j b h => by simp at h, fun b h => by simp at h, fun i j p q x h => by simp at h⟩
theorem Ptrs.kept {R : Nat → Prop} (h : Ptrs K te tb w bl ps) (hk : Kept R w w') (hr : ∀ b, footS K bl ps b → ¬ R b) : Ptrs K te tb w' bl ps :=
  ⟨h.len, fun j b p h1 h2 => (h.blk j b p h1 h2).kept hk (hr b (.inl (List.mem_of_getElem? h1))), fun p hp => (h.data p hp).kept hk (fun b hb => hr b (.inr ⟨p, hp, hb⟩)), h.one, h.apart, h.each⟩
theorem Ptrs.same (h : Ptrs K te tb w bl ps) (hk : Same w w') : Ptrs K te tb w' bl ps := h.kept hk (fun _ _ => id)
theorem Ptrs.lt (h : Ptrs K te tb w bl ps) (b : Nat) (hb : footS K bl ps b) : b < w.heap.size := by
  rcases hb with hb | ⟨p, hp, hb⟩
  · obtain ⟨j, hj⟩ := List.getElem?_of_mem hb
    have hl := (List.getElem?_eq_some_iff.1 hj).1
    have hl' : j < ps.length := by rw [← h.len]; exact hl
    exact (h.blk j b ps[j] hj (List.getElem?_eq_getElem hl')).lt
  · exact ((h.data p hp).lt b hb).2
theorem Ptrs.snoc {b : Nat} {p : E} (h : Ptrs K te tb w bl ps) (hb : Blk w b te (K.cells p)) (hu : Own 0 tb .u8 w (K.v p) (K.bs p)) (hf : ¬ footS K bl ps b) (huf : ∀ x, (K.v p).ownBlock = some x → ¬ footS K bl ps x ∧ x ≠ b) :
    Ptrs K te tb w (bl ++ [b]) (ps ++ [p]) := by
  have hat : ∀ {α : Type} (l : List α) (x y : α) (j : Nat), (l ++ [x])[j]? = some y → (l[j]? = some y) ∨ (j = l.length ∧ y = x) := fun {α} l x y j hj => by
    by_cases hjl : j < l.length
    · rw [List.getElem?_append_left hjl] at hj; exact .inl hj
    · rw [List.getElem?_append_right (by omega)] at hj
      have := (List.getElem?_eq_some_iff.1 hj).1
      simp at this
      have e : j = l.length := by omega
      subst e
      simp at hj
      exact .inr ⟨rfl, hj.symm⟩
  have hlt : ∀ {α : Type} {l : List α} {j : Nat} {y : α}, l[j]? = some y → j < l.length := fun {α l j y} hj => (List.getElem?_eq_some_iff.1 hj).1
  refine ⟨by simp [h.len], ?_, ?_, ?_, ?_, ?_⟩
  · intro j b' p' h1 h2
    have hlen := h.len
    rcases hat _ _ _ _ h1 with g1 | ⟨e1, rfl⟩
    · rcases hat _ _ _ _ h2 with g2 | ⟨e2, rfl⟩
      · exact h.blk j b' p' g1 g2
      · have := hlt g1; omega
    · rcases hat _ _ _ _ h2 with g2 | ⟨e2, rfl⟩
      · have := hlt g2; omega
      · exact hb
  · intro q hq
    rcases List.mem_append.1 hq with hq | hq
    · exact h.data q hq
    · simp at hq; subst hq; exact hu
  · intro i j b' h1 h2
    rcases hat _ _ _ _ h1 with g1 | ⟨e1, rfl⟩
    · rcases hat _ _ _ _ h2 with g2 | ⟨e2, rfl⟩
      · exact h.one i j b' g1 g2
      · exact absurd (.inl (List.mem_of_getElem? g1)) hf
    · rcases hat _ _ _ _ h2 with g2 | ⟨e2, _⟩
      · exact absurd (.inl (List.mem_of_getElem? g2)) hf
      · rw [e1, e2]
  · intro b' hb' q hq e
    rcases List.mem_append.1 hb' with hb' | hb'
    · rcases List.mem_append.1 hq with hq | hq
      · exact h.apart b' hb' q hq e
      · simp at hq; subst hq
        exact (huf b' e).1 (.inl hb')
    · simp at hb'; subst hb'
      rcases List.mem_append.1 hq with hq | hq
      · exact hf (.inr ⟨q, hq, e⟩)
      · simp at hq; subst hq
        exact (huf _ e).2 rfl
  · intro i j q r x h1 h2 h3 h4
    rcases hat _ _ _ _ h1 with g1 | ⟨e1, rfl⟩
    · rcases hat _ _ _ _ h2 with g2 | ⟨e2, rfl⟩
      · exact h.each i j q r x g1 g2 h3 h4
      · exact absurd (.inr ⟨q, List.mem_of_getElem? g1, h3⟩) (huf x h4).1
    · rcases hat _ _ _ _ h2 with g2 | ⟨e2, _⟩
      · exact absurd (.inr ⟨r, List.mem_of_getElem? g2, h4⟩) (huf x h3).1
      · rw [e1, e2]
theorem at_set {α : Type} {l : List α} {k j : Nat} {x y : α} (hk : k < l.length) (h : (l.set k x)[j]? = some y) : (j = k ∧ y = x) ∨ (j ≠ k ∧ l[j]? = some y) := by
  by_cases e : j = k
  · subst e
    rw [List.getElem?_set_self hk] at h
    exact .inl ⟨rfl, (Option.some.inj h).symm⟩
  · rw [List.getElem?_set_ne (by omega)] at h
    exact .inr ⟨e, h⟩
theorem Ptrs.store {k b i : Nat} {p p' : E} {u : Value} (h : Ptrs K te tb w bl ps) (hb : bl[k]? = some b) (hp : ps[k]? = some p) (hc : K.cells p' = (K.cells p).set i u)
    (hu : Own 0 tb .u8 w (K.v p') (K.bs p')) (hx : ∀ x, (K.v p').ownBlock = some x → x ∉ bl ∧ ∀ (j : Nat) (q : E), j ≠ k → ps[j]? = some q → (K.v q).ownBlock ≠ some x) :
    Ptrs K te tb (w.setCell ⟨b, i, none⟩ u) bl (ps.set k p') := by
  have hkl : k < ps.length := (List.getElem?_eq_some_iff.1 hp).1
  have hk : Kept (fun x => x = b) w (w.setCell ⟨b, i, none⟩ u) := Kept.setCell (R := fun x => x = b) (Kept.refl _ _) (p := ⟨b, i, none⟩) (.inr rfl) _
  have hbm : b ∈ bl := List.mem_of_getElem? hb
  refine ⟨by rw [List.length_set]; exact h.len, ?_, ?_, h.one, ?_, ?_⟩
  · intro j b' q h1 h2
    rcases at_set hkl h2 with ⟨rfl, rfl⟩ | ⟨hne, g2⟩
    · obtain rfl : b' = b := by rw [hb] at h1; exact (Option.some.inj h1).symm
      rw [hc]
      exact (h.blk j b' p hb hp).stored i u
    · exact (h.blk j b' q h1 g2).kept hk (fun e => hne (h.one j k b (e ▸ h1) hb))
  · intro q hq
    rcases List.mem_or_eq_of_mem_set hq with hq | rfl
    · exact (h.data q hq).kept hk (fun x hx' e => h.apart b hbm q hq (e ▸ hx'))
    · exact hu.kept hk (fun x hx' e => (hx x hx').1 (e ▸ hbm))
  · intro b' hb' q hq e
    rcases List.mem_or_eq_of_mem_set hq with hq | rfl
    · exact h.apart b' hb' q hq e
    · exact (hx b' e).1 hb'
  · intro i' j q r x h1 h2 h3 h4
    rcases at_set hkl h1 with ⟨rfl, rfl⟩ | ⟨hne, g1⟩
    · rcases at_set hkl h2 with ⟨rfl, rfl⟩ | ⟨hne2, g2⟩
      · rfl
      · exact absurd h4 ((hx x h3).2 j r hne2 g2)
    · rcases at_set hkl h2 with ⟨rfl, rfl⟩ | ⟨hne2, g2⟩
      · exact absurd h3 ((hx x h4).2 i' q hne g1)
      · exact h.each i' j q r x g1 g2 h3 h4
theorem Ptrs.storeOwn {k b i : Nat} {p p' : E} {u : Value} (h : Ptrs K te tb w bl ps) (hb : bl[k]? = some b) (hp : ps[k]? = some p) (hc : K.cells p' = (K.cells p).set i u) (hv : K.v p' = K.v p) (hs : K.bs p' = K.bs p) :
    Ptrs K te tb (w.setCell ⟨b, i, none⟩ u) bl (ps.set k p') :=
  h.store hb hp hc (by rw [hv, hs]; exact h.data p (List.mem_of_getElem? hp)) (fun x hx => by
    rw [hv] at hx
    refine ⟨fun hm => h.apart x hm p (List.mem_of_getElem? hp) hx, fun j q hne hq e => hne (h.each j k q p x hq hp e hx)⟩)
theorem footS_set {k : Nat} {p p' : E} (hp : ps[k]? = some p) (hv : K.v p' = K.v p) (b : Nat) (h : footS K bl (ps.set k p') b) : footS K bl ps b := by
  rcases h with h | ⟨q, hq, hb⟩
  · exact .inl h
  · rcases List.mem_or_eq_of_mem_set hq with hq | rfl
    · exact .inr ⟨q, hq, hb⟩
    · exact .inr ⟨p, List.mem_of_getElem? hp, by rw [← hv]; exact hb⟩
end
end Go.Proofs.Ytabmhcdldfehnab

namespace Go.Proofs.Ytabmhcdldfehnab
open Go
section
variable {P : Program} {ops : Array Oper} {Q : Exit → Act → World → Prop} {md : Region.Mode} {S : World → Prop} {s : Nat}
def wpAnyV (P : Program) (md : Region.Mode) (ops : Array Oper) (Q : Exit → Act → World → Prop) (S : World → Prop) (s : Nat) : Nat → Array Bool → Act → World → Prop
  | 0, listed, a, w => Region.ready md ops listed = [] ∧ Q .normal a w
  | fuel + 1, listed, a, w =>
    (Region.ready md ops listed = [] → Q .normal a w) ∧
    ∀ i ∈ Region.ready md ops listed, wpOp P ops Q i (fun a' w' => (i ≠ s → S w') ∧ wpAnyV P md ops Q S s fuel (listed.setIfInBounds i true) a' w') a w
theorem wpAny_of_V : ∀ (fuel : Nat) (listed : Array Bool) (a : Act) (w : World), wpAnyV P md ops Q S s fuel listed a w → wpAny P md ops Q fuel listed a w
  | 0, _, _, _, h => h
  | fuel + 1, _, _, _, h => ⟨h.1, fun i hi => wpOp_mono (fun a' w' h' => wpAny_of_V fuel _ a' w' h'.2) (h.2 i hi)⟩
def waits (md : Region.Mode) (ops : Array Oper) (s i : Nat) : Bool :=
  match ops[s]? with
  | some o => o.after.any fun e => Region.binds md e && e.on == i
  | none => true
theorem waits_spec {i : Nat} (h : waits md ops s i = true) {os : Oper} (ho : ops[s]? = some os) (hn : ∀ e ∈ os.after, Region.binds md e = true → e.on ≠ i) : False := by
  unfold waits at h
  rw [ho] at h
  obtain ⟨e, he, hb⟩ := Array.any_eq_true'.1 h
  simp only [Bool.and_eq_true, beq_iff_eq] at hb
  exact hn e he hb.1 hb.2
theorem ready_apart {listed : Array Bool} {i j : Nat} (hi : i ∈ Region.ready md ops listed) (hj : j ∈ Region.ready md ops listed) {oj : Oper} (hoj : ops[j]? = some oj) :
    ∀ e ∈ oj.after, Region.binds md e = true → e.on ≠ i := by
  rintro e he hb rfl
  obtain ⟨_, o, ho, hall⟩ := mem_ready.1 hj
  obtain rfl : o = oj := by rw [hoj] at ho; exact (Option.some.inj ho).symm
  have hyes := hall e he hb
  have hno := (mem_ready.1 hi).1
  by_cases hl : e.on < listed.size <;> simp_all
def Loose (md : Region.Mode) (ops : Array Oper) (i : Nat) (oi : Oper) (listed : Array Bool) : Prop :=
  ∀ j oj, ops[j]? = some oj → j ≠ i → listed.getD j true = false → (∀ e ∈ oj.after, Region.binds md e = true → e.on ≠ i) → oi.apart ops oj = true
theorem Loose.on {i j : Nat} {oi : Oper} {listed : Array Bool} (h : Loose md ops i oi listed) (hj : listed.getD j true = false) : Loose md ops i oi (listed.setIfInBounds j true) := fun k ok hk hki hun hno =>
  h k ok hk hki (if e : j = k then e ▸ hj else (getD_set_ne true e) ▸ hun) hno
theorem wpAnyV_first {i : Nat} {oi : Oper} {v : Value} (hi : ops[i]? = some oi) (hsel : ∀ (j : Nat) (o : Oper) cs b, ops[j]? = some o → o.op ≠ .select cs b) (hs : waits md ops s i = true)
    (hQ : ∀ c a w, Q (.panic c) (a.put oi.dst v) w → Q (.panic c) a w) (fuel : Nat) : ∀ (listed : Array Bool) (a : Act) (w : World), Loose md ops i oi listed → i ∈ Region.ready md ops listed → YieldsIf P ops S oi v a → S w →
      wpAnyV P md ops Q S s fuel (listed.setIfInBounds i true) (a.put oi.dst v) w → wpAnyV P md ops Q S s (fuel + 1) listed a w := by
  induction fuel with
  | zero =>
    intro listed a w _ hr hy hS H
    constructor
    · intro h0; simp [h0] at hr
    · intro j hj
      by_cases e : j = i
      · exact e ▸ hy.wpOp hi hS ⟨fun _ => hS, H⟩
      · have := ready_mono hj e
        simp [H.1] at this
  | succ fuel ih =>
    intro listed a w hl hr hy hS H
    constructor
    · intro h0; simp [h0] at hr
    · intro j hj
      by_cases e : j = i
      · exact e ▸ hy.wpOp hi hS ⟨fun _ => hS, H⟩
      · obtain ⟨hun, oj, hoj, _⟩ := mem_ready.1 hj
        have hap := ready_apart hr hj hoj
        have hjs : j ≠ s := fun es => waits_spec hs (es ▸ hoj) hap
        refine wpOp_mono ?_ (wpOp_putIf hoj (hl j oj hoj e hun hap) (fun cs b => hsel i oi cs b hi) (fun cs b => hsel j oj cs b hoj) hQ hy (H.2 j (ready_mono hj e)))
        rintro a' w' ⟨hy', hS', hw'⟩
        exact ⟨hS', ih _ a' w' (hl.on hun) (ready_mono hr (Ne.symm e)) hy' (hS' hjs) (by rw [Array.setIfInBounds_comm _ _ e]; exact hw')⟩
theorem wpAnyV_take {i : Nat} {oi : Oper} {v : Value} {fuel : Nat} {listed : Array Bool} {a : Act} {w : World} (d : Option Tmp) (hi : ops[i]? = some oi) (hd : oi.dst = d)
    (hsl : Region.noSelect ops = true) (hf : Region.free md ops listed i = true) (hr : (Region.ready md ops listed).contains i = true) (hs : waits md ops s i = true)
    (hQ : ∀ c a w, Q (.panic c) (a.put d v) w → Q (.panic c) a w) (hy : YieldsIf P ops S oi v a) (hS : S w)
    (h : wpAnyV P md ops Q S s fuel (listed.setIfInBounds i true) (a.put d v) w) : wpAnyV P md ops Q S s (fuel + 1) listed a w := by
  subst hd
  exact wpAnyV_first hi (Region.noSelect_spec hsl) hs hQ fuel listed a w (Region.free_spec hi hf) (by simpa using hr) hy hS h
theorem sA {α : Type} {l : List α} {i : Nat} {a : α} : l.toArray.setIfInBounds i a = (l.set i a).toArray := List.setIfInBounds_toArray ..
theorem s0 {α : Type} {x : α} {xs : List α} {a : α} : (x :: xs).set 0 a = a :: xs := List.set_cons_zero
theorem sS {α : Type} {x : α} {xs : List α} {i : Nat} {a : α} : (x :: xs).set (i + 1) a = x :: xs.set i a := List.set_cons_succ
theorem tk (i d : Nat) {oi : Oper} {v : Value} {fuel : Nat} {listed : Array Bool} {a a' : Act} {w : World} (hS : S w)
    (h : wpAnyV P md ops Q S s fuel (listed.setIfInBounds i true) a' w) (hi : ops[i]? = some oi := by rfl) (hg : Region.wanted oi (yielded ops a.tmps) = true := by rfl) (hd : oi.dst = some d := by rfl)
    (hy : ∀ w, S w → (execOp a.eval oi).run P w = .ok (.value v) w := by intro w hSw; (try dsimp only at hSw); go_simp; (try with_reducible rfl))
    (hsl : Region.noSelect ops = true := by kernel_rfl) (hf : Region.free md ops listed i = true := by kernel_rfl) (hr : (Region.ready md ops listed).contains i = true := by kernel_rfl) (hs : waits md ops s i = true := by kernel_rfl)
    (hQ : ∀ c a w, Q (.panic c) (a.put (some d) v) w → Q (.panic c) a w := by exact fun _ _ _ h => h)
    (ha : a.put (some d) v = a' := by first | (simp only [Act.put, sA, s0, sS]; done) | (simp only [Act.put, sA, s0, sS]; rfl) | rfl) : wpAnyV P md ops Q S s (fuel + 1) listed a w :=
  wpAnyV_take (some d) hi hd hsl hf hr hs hQ (Or.inl ⟨hg, hy⟩) hS (ha ▸ h)
theorem tkV (i d : Nat) (v : Value) {oi : Oper} {fuel : Nat} {listed : Array Bool} {a a' : Act} {w : World} (hS : S w)
    (h : wpAnyV P md ops Q S s fuel (listed.setIfInBounds i true) a' w) (hi : ops[i]? = some oi := by rfl) (hg : Region.wanted oi (yielded ops a.tmps) = true := by rfl) (hd : oi.dst = some d := by rfl)
    (hy : ∀ w, S w → (execOp a.eval oi).run P w = .ok (.value v) w := by intro w hSw; (try dsimp only at hSw); go_simp; (try omega))
    (hsl : Region.noSelect ops = true := by kernel_rfl) (hf : Region.free md ops listed i = true := by kernel_rfl) (hr : (Region.ready md ops listed).contains i = true := by kernel_rfl) (hs : waits md ops s i = true := by kernel_rfl)
    (hQ : ∀ c a w, Q (.panic c) (a.put (some d) v) w → Q (.panic c) a w := by exact fun _ _ _ h => h)
    (ha : a.put (some d) v = a' := by first | (simp only [Act.put, sA, s0, sS]; done) | (simp only [Act.put, sA, s0, sS]; rfl) | rfl) : wpAnyV P md ops Q S s (fuel + 1) listed a w :=
  wpAnyV_take (some d) hi hd hsl hf hr hs hQ (Or.inl ⟨hg, hy⟩) hS (ha ▸ h)
theorem tkS (i d : Nat) {oi : Oper} {fuel : Nat} {listed : Array Bool} {a a' : Act} {w : World} (hS : S w)
    (h : wpAnyV P md ops Q S s fuel (listed.setIfInBounds i true) a' w) (hi : ops[i]? = some oi := by rfl) (hg : Region.wanted oi (yielded ops a.tmps) = false := by rfl) (hd : oi.dst = some d := by rfl)
    (hsl : Region.noSelect ops = true := by kernel_rfl) (hf : Region.free md ops listed i = true := by kernel_rfl) (hr : (Region.ready md ops listed).contains i = true := by kernel_rfl) (hs : waits md ops s i = true := by kernel_rfl)
    (hQ : ∀ c a w, Q (.panic c) (a.put (some d) undef) w → Q (.panic c) a w := by exact fun _ _ _ h => h)
    (ha : a.put (some d) undef = a' := by first | (simp only [Act.put, sA, s0, sS]; done) | (simp only [Act.put, sA, s0, sS]; rfl) | rfl) : wpAnyV P md ops Q S s (fuel + 1) listed a w :=
  wpAnyV_take (some d) hi hd hsl hf hr hs hQ (Or.inr ⟨hg, rfl⟩) hS (ha ▸ h)
theorem wpAnyV_one {i : Nat} {o : Oper} {fuel : Nat} {listed : Array Bool} {a : Act} {w : World} (hr : Region.ready md ops listed = [i]) (ho : ops[i]? = some o)
    (h : ∀ K' : Act → World → Prop, Shut (∀ a w, (i ≠ s → S w) → wpAnyV P md ops Q S s fuel (listed.setIfInBounds i true) a w → K' a w) → if Region.wanted o (yielded ops a.tmps) = true then Oper.wp P o a w K' Q else K' (a.put o.dst undef) w) :
    wpAnyV P md ops Q S s (fuel + 1) listed a w := by
  constructor
  · intro h0; simp [hr] at h0
  · intro j hj
    rw [hr] at hj
    obtain rfl : j = i := by simpa using hj
    exact wpOp_step ho (fun K' hK => h K' (fun a w hS hW => hK a w ⟨hS, hW⟩))
theorem wpAnyV_two {i j : Nat} {o o' : Oper} {fuel : Nat} {listed : Array Bool} {a : Act} {w : World} (hr : Region.ready md ops listed = [i, j]) (ho : ops[i]? = some o) (ho' : ops[j]? = some o')
    (h : ∀ K' : Act → World → Prop, Shut (∀ a w, (i ≠ s → S w) → wpAnyV P md ops Q S s fuel (listed.setIfInBounds i true) a w → K' a w) → if Region.wanted o (yielded ops a.tmps) = true then Oper.wp P o a w K' Q else K' (a.put o.dst undef) w)
    (h' : ∀ K' : Act → World → Prop, Shut (∀ a w, (j ≠ s → S w) → wpAnyV P md ops Q S s fuel (listed.setIfInBounds j true) a w → K' a w) → if Region.wanted o' (yielded ops a.tmps) = true then Oper.wp P o' a w K' Q else K' (a.put o'.dst undef) w) :
    wpAnyV P md ops Q S s (fuel + 1) listed a w := by
  constructor
  · intro h0; simp [hr] at h0
  · intro k hk
    rw [hr] at hk
    simp only [List.mem_cons, List.not_mem_nil, or_false] at hk
    rcases hk with rfl | rfl
    · exact wpOp_step ho (fun K' hK => h K' (fun a w hS hW => hK a w ⟨hS, hW⟩))
    · exact wpOp_step ho' (fun K' hK => h' K' (fun a w hS hW => hK a w ⟨hS, hW⟩))
theorem wpAnyV_done {fuel : Nat} {listed : Array Bool} {a : Act} {w : World} (hr : Region.ready md ops listed = []) (h : Q .normal a w) : wpAnyV P md ops Q S s fuel listed a w := by
  cases fuel with
  | zero => exact ⟨hr, h⟩
  | succ n => exact ⟨fun _ => h, by rw [hr]; simp⟩
theorem wp_region_V {id : Nat} {a : Act} {w : World} (S : World → Prop) (s n : Nat) (hn : ops.size = n) (hm : P.follows .mixedOrders = true) (h : wpAnyV P .any ops Q S s n (Array.replicate n false) a w.drew) : (Code.region id ops true).wp P Q a w := by
  subst hn
  exact wp_region_any hm (wpAny_of_V _ _ _ _ h)
end
end Go.Proofs.Ytabmhcdldfehnab

namespace Go.Proofs.Ytabmhcdldfehnab
open Go.RowKit
set_option linter.unusedSimpArgs false
section
variable {P : Program} {ops : Array Oper} {S : World → Prop} {o : Oper} {a : Act} {w : World} {K : Act → World → Prop} {Q : Exit → Act → World → Prop} {E : Prop}
theorem step_mk (hgd : o.guard = none) (x y : Operand) (t : TypeId) (hop : o.op = Op.makeSlice t x y) (base : Nat) (e : TypeId) (i : TypeInfo) (z : Value) (size : Nat) (h1 : P.underlying t = some (.slice e)) (h2 : P.info? e = some i) (h3 : i.zero = some z) (h4 : i.size = size)
    (kl kc : IntKind) (L C : Int) (l c : Nat) (hl : a.eval x = .int kl L) (hc : a.eval y = .int kc C) (hL : L = l) (hC : C = c) (hlc : l ≤ c) (b2 : i.bytes * c ≤ 281474976710656) (b3 : c ≤ maxLen) (hb : base ≤ w.heap.size)
    (h : ∀ w', w'.ownsRow base e size (.slice (some ⟨w.heap.size, 0, none⟩) l c) l ((madeCells z.cells (c * size)).toList.take (l * size)) → w.grownBy w' none → w.heap.size < w'.heap.size → K (a.put o.dst (.slice (some ⟨w.heap.size, 0, none⟩) l c)) w') :
    if Region.wanted o (yielded ops a.tmps) = true then Oper.wp P o a w K Q else E := by
  have hw : Region.wanted o (yielded ops a.tmps) = true := by simp [Region.wanted, hgd]
  rw [if_pos hw]
  subst hL hC h4
  have hb' : (i.bytes : Int) * (c : Int) ≤ 281474976710656 := by
    have : ((i.bytes * c : Nat) : Int) ≤ 281474976710656 := by omega
    rwa [Int.natCast_mul] at this
  have hrun := run_make (P := P) w t e i z h1 h2 h3 kl kc l c (by omega) (by omega) hb' (by unfold maxLen at b3; omega)
  simp only [Int.toNat_natCast] at hrun
  unfold Oper.wp
  simp [execOp, hop, hl, hc, hrun, Result.andThen]
  refine h _ ⟨?_, .inr ⟨w.heap.size, c, _, rfl, hb, heap_alloc_new w _, hlc, b3, size_madeCells _ _, rfl⟩⟩ (World.grownBy_alloc w _ none) (by simp)
  rw [List.length_take, Array.length_toList, size_madeCells]
  exact Nat.min_eq_left (Nat.mul_le_mul_right _ hlc)
end
end Go.Proofs.Ytabmhcdldfehnab

namespace Go.Proofs.Ytabmhcdldfehnab
set_option maxHeartbeats 400000
open Go.RowKit
theorem cloneS_any (v : Value) (bs : List Int) (w : World) (hn : bs.length ≤ 1099511627776) (hv : Rd .u8 w v bs) :
    Calls Try.prog 49 #[v] w fun e w' => ∃ a n c, e = .returned (.slice a n c) ∧ Own 0 5 .u8 w' (.slice a n c) bs ∧ (∀ b, (Value.slice a n c).ownBlock = some b → w.heap.size ≤ b) ∧ Same w w' := by
  obtain ⟨i0, hi, hz0, hz1, hz2⟩ := info_parts Try.infoByte'
  have hnil := fun (wx : World) (a : Option Addr) (n c : Nat) => Lib.run_eql_slice_nil (P := Try.prog) wx 44 5 a n c 0 0 Try.underlying44
  rcases hv.2 with ⟨rfl, a, c, rfl, hac⟩ | ⟨b, off, c, rfl, _, hc⟩
  · cases a with
    | none =>
      obtain rfl : c = 0 := hac rfl
      clear hv hn hac
      go_enter Try.func49, Try.ntmps49
      go_wp2
      go_ret
      exact ⟨_, _, _, rfl, Own.nil _ _ _ _, fun b hb => by simp [Value.ownBlock] at hb, Kept.refl _ _⟩
    | some ad =>
      clear hv hn hac
      go_enter Try.func49, Try.ntmps49
      go_wp2_with (at_builtin; refine wpList_append_own _ rfl (.tmp 5) (.tmp 6) 44 rfl w.heap.size 5 i0 (.int .u8 0) 1 1 Try.underlying44 hi hz0 hz1 hz2 rfl (by decide) (.slice (some ⟨w.heap.size, 0, none⟩) 0 0) 0 [] rfl (World.ownsRow_made w #[] 0 (Nat.le_refl _) (by simp) (by simp)) ad 0 c [] rfl rfl (fun j u h => by simp at h) (fun u h => by simp at h) (by simp) (by simp) (by simp) ?_; intro v' w1 hown1 hgrow1 _; have HF := (show Hid (Own w.heap.size 5 .u8 w1 v' []) from hown1); have HK : Hid (Same w w1) := ((Kept.refl _ _).alloc _).grown hgrow1 (fun k e => .inl (by simp [Value.ownBlock] at e; omega)); obtain ⟨aa, na, ca, rfl⟩ := slice_of_own HF.out; clear hown1 hgrow1)
      go_ret
      exact ⟨_, _, _, rfl, HF.out.mono (fun b _ => Nat.zero_le b), fun b hb => (HF.out.lt b hb).1, HK.out⟩
  · have HC : Hid (∀ i, i < bs.length → (w.alloc (.cells #[] 5)).cell? ⟨b, off + i, none⟩ = some (.int .u8 (bs.getD i 0))) := fun i hi => ((Kept.refl (fun _ => False) w).alloc _).cellOf (hc i hi) id
    clear hv hc
    go_enter Try.func49, Try.ntmps49
    go_wp2_with (at_builtin; refine wpList_append_own _ rfl (.tmp 5) (.tmp 6) 44 rfl w.heap.size 5 i0 (.int .u8 0) 1 1 Try.underlying44 hi hz0 hz1 hz2 rfl (by decide) (.slice (some ⟨w.heap.size, 0, none⟩) 0 0) 0 [] rfl (World.ownsRow_made w #[] 0 (Nat.le_refl _) (by simp) (by simp)) ⟨b, off, none⟩ bs.length c (vals .u8 bs) rfl (by simp [vals_length]) (news_of HC.out) vals_one (by unfold maxLen; omega) (by omega) (by simp) ?_; intro v' w1 hown1 hgrow1 _; have HF := (show Hid (Own w.heap.size 5 .u8 w1 v' bs) from (by simpa [Own, Hid] using hown1)); have HK : Hid (Same w w1) := ((Kept.refl _ _).alloc _).grown hgrow1 (fun k e => .inl (by simp [Value.ownBlock] at e; omega)); obtain ⟨aa, na, ca, rfl⟩ := slice_of_own HF.out; clear hown1 hgrow1)
    go_ret
    exact ⟨_, _, _, rfl, HF.out.mono (fun b _ => Nat.zero_le b), fun b hb => (HF.out.lt b hb).1, HK.out⟩
end Go.Proofs.Ytabmhcdldfehnab

namespace Go.Proofs.Ytabmhcdldfehnab
open Go.RowKit
set_option linter.unusedVariables false
set_option linter.unusedSimpArgs false
def inB (v a b : Int) : Bool := decide (a ≤ v) && decide (v ≤ b)
set_option maxRecDepth 100000 in
theorem l4In_any (v a b : Int) (w : World) : Calls Try.prog 40 #[.int .i64 v, .int .i64 a, .int .i64 b] w fun e w' => e = .returned (.bool (inB v a b)) ∧ Same w w' := by
  unfold inB
  by_cases h : a ≤ v
  · by_cases h2 : v ≤ b
    · go_enter Try.func40, Try.ntmps40
      go_wp2
      go_ret
      exact ⟨by simp [h, h2], Kept.refl _ _⟩
    · go_enter Try.func40, Try.ntmps40
      go_wp2
      go_ret
      exact ⟨by simp [h]; try omega, Kept.refl _ _⟩
  · go_enter Try.func40, Try.ntmps40
    go_wp2
    go_ret
    exact ⟨by rw [show decide (a ≤ v) = false from by simp; omega]; rfl, Kept.refl _ _⟩
end Go.Proofs.Ytabmhcdldfehnab
