import Derived.Test.YtabmhcdldfehnaaG08
namespace Go.Proofs.Ytabmhcdldfehnaa
set_option maxRecDepth 100000
set_option maxHeartbeats 4000000
open Go.RowKit
set_option linter.unusedVariables false
set_option linter.unusedSimpArgs false
def pinP (ps : List EFrame) (hand page : Int) : Int × Int × Int × List (Int × List Int × Int × Bool × Int × Bool) := pinsP 1 ps hand page
theorem pinP_dat {ps qs : List EFrame} {hand page : Int} (h : datFrameS qs = datFrameS ps) : pinP qs hand page = pinP ps hand page := pinsP_dat h
theorem pinP_small {ps qs : List EFrame} {hand page a b c : Int} (h : (a, b, c, datFrameS qs) = pinP ps hand page) : SmallF (datFrameS qs) := pinsP_small h
theorem specPoolPin_any (v : Value) (hand page : Int) (ps : List EFrame) (w : World) (hv : RdR kFrame w v ps) :
    Calls Try.prog 25 #[.agg #[v, .int .i64 hand], .int .i64 page] w fun e w' => ∃ cd fr a n c hd qs, e = .returned (.agg #[.int .i64 cd, .int .i64 fr, .slice a n c, .int .i64 hd]) ∧ (cd, fr, hd, datFrameS qs) = pinP ps hand page ∧ (∀ b, footR kFrame (.slice a n c) qs b → w.heap.size ≤ b) ∧ OwnR kFrame 0 51 5 w' (.slice a n c) qs ∧ Same w w' := by
  obtain ⟨a, c, rfl⟩ := hv.form
  have hk0 : Same w ((w.alloc (.cells #[.slice a ps.length c, .int .i64 hand] 29)).alloc (.cells #[.int .i64 0, .int .i64 0, .slice none 0 0, .int .i64 0] 37)) := ((Kept.refl _ _).alloc _).alloc _
  have k0 := l7Pins_any (.slice a ps.length c) hand page 1 ps _ (.inl rfl) (hv.same hk0)
  have b1 := Blk.newB w [.slice a ps.length c, .int .i64 hand] 29 [.int .i64 0, .int .i64 0, .slice none 0 0, .int .i64 0] 37
  clear hv
  go_enter Try.func25, Try.ntmps25
  go_wp2_with fail
  refine k0.mono ?_
  rintro e w1 ⟨cd, fr, a1, n1, c1, hd, qs, rfl, hR, hf, ho, hk1⟩
  have HR := (show Hid ((cd, fr, hd, datFrameS qs) = pinsP 1 ps hand page) from hR)
  have HK1 := (show Hid (Same w w1) from hk0.trans hk1)
  have HB1 := hid (b1.same hk1)
  have HF : Hid (∀ b, footR kFrame (.slice a1 n1 c1) qs b → w.heap.size + 1 + 1 ≤ b) := fun b hb => by have h := hf b hb; simp only [World.size_alloc] at h; exact h
  have HO := (show Hid (OwnR kFrame 0 51 5 w1 (.slice a1 n1 c1) qs) from ho)
  clear hk0 hk1 b1 k0 hR hf ho
  obtain ⟨z0, z1, z2, z3⟩ := HB1.out.all4
  have fz := HB1.out.frozen
  have lz := HB1.out.lt
  go_wp2
  refine bodyPost_ret (v := .agg #[.int .i64 cd, .int .i64 fr, .slice a1 n1 c1, .int .i64 hd]) (by simp [results, Try.results25, go_sem, z0, z1, z2, z3]) rfl ⟨cd, fr, a1, n1, c1, hd, qs, rfl, HR.out, fun b hb => by have := HF.out b hb; omega, HO.out.kept (R := fun b => b = w.heap.size + 1) ?_ (fun b hb e => by have := HF.out b hb; omega), ?_⟩
  · (iterate 4 refine Kept.setCell (R := fun b => b = w.heap.size + 1) ?_ (.inr rfl) _)
    exact Kept.refl _ _
  · (iterate 4 refine Kept.setCell ?_ (.inl (Nat.le_succ _)) _)
    exact HK1.out
def unpinP (ps : List EFrame) (hand page : Int) : Int × Int × Int × List (Int × List Int × Int × Bool × Int × Bool) := pinsP (-1) ps hand page
theorem unpinP_dat {ps qs : List EFrame} {hand page : Int} (h : datFrameS qs = datFrameS ps) : unpinP qs hand page = unpinP ps hand page := pinsP_dat h
theorem unpinP_small {ps qs : List EFrame} {hand page a b c : Int} (h : (a, b, c, datFrameS qs) = unpinP ps hand page) : SmallF (datFrameS qs) := pinsP_small h
theorem specPoolUnpin_any (v : Value) (hand page : Int) (ps : List EFrame) (w : World) (hv : RdR kFrame w v ps) :
    Calls Try.prog 27 #[.agg #[v, .int .i64 hand], .int .i64 page] w fun e w' => ∃ cd fr a n c hd qs, e = .returned (.agg #[.int .i64 cd, .int .i64 fr, .slice a n c, .int .i64 hd]) ∧ (cd, fr, hd, datFrameS qs) = unpinP ps hand page ∧ (∀ b, footR kFrame (.slice a n c) qs b → w.heap.size ≤ b) ∧ OwnR kFrame 0 51 5 w' (.slice a n c) qs ∧ Same w w' := by
  obtain ⟨a, c, rfl⟩ := hv.form
  have hk0 : Same w ((w.alloc (.cells #[.slice a ps.length c, .int .i64 hand] 29)).alloc (.cells #[.int .i64 0, .int .i64 0, .slice none 0 0, .int .i64 0] 37)) := ((Kept.refl _ _).alloc _).alloc _
  have k0 := l7Pins_any (.slice a ps.length c) hand page (-1) ps _ (.inr rfl) (hv.same hk0)
  have b1 := Blk.newB w [.slice a ps.length c, .int .i64 hand] 29 [.int .i64 0, .int .i64 0, .slice none 0 0, .int .i64 0] 37
  clear hv
  go_enter Try.func27, Try.ntmps27
  go_wp2_with fail
  refine k0.mono ?_
  rintro e w1 ⟨cd, fr, a1, n1, c1, hd, qs, rfl, hR, hf, ho, hk1⟩
  have HR := (show Hid ((cd, fr, hd, datFrameS qs) = pinsP (-1) ps hand page) from hR)
  have HK1 := (show Hid (Same w w1) from hk0.trans hk1)
  have HB1 := hid (b1.same hk1)
  have HF : Hid (∀ b, footR kFrame (.slice a1 n1 c1) qs b → w.heap.size + 1 + 1 ≤ b) := fun b hb => by have h := hf b hb; simp only [World.size_alloc] at h; exact h
  have HO := (show Hid (OwnR kFrame 0 51 5 w1 (.slice a1 n1 c1) qs) from ho)
  clear hk0 hk1 b1 k0 hR hf ho
  obtain ⟨z0, z1, z2, z3⟩ := HB1.out.all4
  have fz := HB1.out.frozen
  have lz := HB1.out.lt
  go_wp2
  refine bodyPost_ret (v := .agg #[.int .i64 cd, .int .i64 fr, .slice a1 n1 c1, .int .i64 hd]) (by simp [results, Try.results27, go_sem, z0, z1, z2, z3]) rfl ⟨cd, fr, a1, n1, c1, hd, qs, rfl, HR.out, fun b hb => by have := HF.out b hb; omega, HO.out.kept (R := fun b => b = w.heap.size + 1) ?_ (fun b hb e => by have := HF.out b hb; omega), ?_⟩
  · (iterate 4 refine Kept.setCell (R := fun b => b = w.heap.size + 1) ?_ (.inr rfl) _)
    exact Kept.refl _ _
  · (iterate 4 refine Kept.setCell ?_ (.inl (Nat.le_succ _)) _)
    exact HK1.out
end Go.Proofs.Ytabmhcdldfehnaa
