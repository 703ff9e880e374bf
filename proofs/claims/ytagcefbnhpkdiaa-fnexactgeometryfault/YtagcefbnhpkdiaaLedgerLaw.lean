/-
  'laws.FnExactGeometryFault', 'laws.FnExactLogFree'.
-/
import Derived.Test.YtagcefbnhpkdiaaLedgerL
namespace Go.Proofs.Ytagcefbnhpkdiaa
set_option maxRecDepth 100000
set_option maxHeartbeats 4000000
open Go.RowKit
set_option linter.unusedVariables false
set_option linter.unusedSimpArgs false

theorem toGeo_any (p f l : Int) (w : World) : Calls Try.prog 12 #[.agg #[.int .i64 p, .int .i64 f, .int .i64 l]] w fun e w' => e = .returned (.agg #[.int .i64 p, .int .i64 f, .int .i64 l]) ∧ Same w w' := by
  go_enter Try.func12, Try.ntmps12
  go_wp2
  refine bodyPost_ret (v := .agg #[.int .i64 p, .int .i64 f, .int .i64 l]) (by simp [results, Try.results12, go_sem]) rfl ⟨rfl, ?_⟩
  repeat (first | exact Kept.refl _ _ | refine Kept.alloc ?_ _ | refine Kept.setCell ?_ (.inl (by simp)) _)
theorem geo_law (p f l : Int) (w : World) : Calls Try.prog 4 #[.agg #[.int .i64 p, .int .i64 f, .int .i64 l]] w fun e w' => e = .returned (.bool true) ∧ Same w w' := by
  have HK0 := hid (sameA w [.int .i64 p, .int .i64 f, .int .i64 l] 25)
  have b0 := Blk.newL w [.int .i64 p, .int .i64 f, .int .i64 l] 25
  obtain ⟨R, hR⟩ : ∃ R, geoF p f l = R := ⟨_, rfl⟩
  go_enter Try.func4, Try.ntmps4
  go_wp2_with fail
  refine (toGeo_any p f l _).mono ?_
  rintro e w1 ⟨rfl, hk1⟩
  go_wp2_with fail
  refine (specGeo_any p f l _).mono ?_
  rintro e w2 ⟨rfl, hk2⟩
  have HK2 := hid ((HK0.out.trans hk1).trans hk2)
  obtain ⟨d0, d1, d2⟩ := ((b0.same hk1).same hk2).all3
  rw [hR]
  go_wp2_with fail
  refine (toGeo_any p f l _).mono ?_
  rintro e w3 ⟨rfl, hk3⟩
  go_wp2_with fail
  refine (implGeo_any p f l _).mono ?_
  rintro e w4 ⟨rfl, hk4⟩
  rw [hR]
  have HK4 := hid ((HK2.out.trans hk3).trans hk4)
  go_wp2
  go_ret
  exact ⟨rfl, HK4.out⟩
theorem logFree_law (p f l en lo im re : Int) (w : World) : Calls Try.prog 6 #[.agg #[.int .i64 p, .int .i64 f, .int .i64 l], .int .i64 en, .int .i64 lo, .int .i64 im, .int .i64 re] w fun e w' => e = .returned (.bool true) ∧ Same w w' := by
  have HK0 := hid (sameA w [.int .i64 p, .int .i64 f, .int .i64 l] 25)
  have b0 := Blk.newL w [.int .i64 p, .int .i64 f, .int .i64 l] 25
  obtain ⟨R, hR⟩ : ∃ R, freeL p f l en lo im re = R := ⟨_, rfl⟩
  go_enter Try.func6, Try.ntmps6
  go_wp2_with fail
  refine (toGeo_any p f l _).mono ?_
  rintro e w1 ⟨rfl, hk1⟩
  go_wp2_with fail
  refine (specFree_any p f l en lo im re _).mono ?_
  rintro e w2 ⟨rfl, hk2⟩
  have HK2 := hid ((HK0.out.trans hk1).trans hk2)
  obtain ⟨d0, d1, d2⟩ := ((b0.same hk1).same hk2).all3
  rw [hR]
  go_wp2_with fail
  refine (toGeo_any p f l _).mono ?_
  rintro e w3 ⟨rfl, hk3⟩
  go_wp2_with fail
  refine (implFree_any p f l en lo im re _).mono ?_
  rintro e w4 ⟨rfl, hk4⟩
  rw [hR]
  have HK4 := hid ((HK2.out.trans hk3).trans hk4)
  go_wp2
  go_ret
  exact ⟨rfl, HK4.out⟩
end Go.Proofs.Ytagcefbnhpkdiaa
