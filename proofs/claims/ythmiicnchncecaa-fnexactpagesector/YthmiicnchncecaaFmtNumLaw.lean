import Derived.Test.YthmiicnchncecaaG01
namespace Go.Proofs.Ythmiicnchncecaa
set_option maxRecDepth 100000
set_option maxHeartbeats 4000000
set_option linter.unusedVariables false
set_option linter.unusedSimpArgs false
open Go.RowKit
theorem dskN_law (p f l  : Int) (w : World) : Calls Try.prog 3 #[.agg #[.int .i64 p, .int .i64 f, .int .i64 l]] w fun e w' => e = .returned (.bool true) ∧ Same w w' := by
 have HK0 := hid (sameA w [.int .i64 p, .int .i64 f, .int .i64 l] 23)
 have b0 := Blk.newL w [.int .i64 p, .int .i64 f, .int .i64 l] 23
 obtain ⟨R, hR⟩ : ∃ R, dskN p f l = R := ⟨_, rfl⟩
 go_enter Try.func3, Try.ntmps3
 go_wp2_with fail
 refine (toGeo_any p f l _).mono ?_
 rintro e w1 ⟨rfl, hk1⟩
 go_wp2_with fail
 refine (specDskN_any p f l  _).mono ?_
 rintro e w2 ⟨rfl, hk2⟩
 have HK2 := hid ((HK0.out.trans hk1).trans hk2)
 obtain ⟨d0, d1, d2⟩ := ((b0.same hk1).same hk2).all3
 rw [hR]
 go_wp2_with fail
 refine (toGeo_any p f l _).mono ?_
 rintro e w3 ⟨rfl, hk3⟩
 go_wp2_with fail
 refine (implDskN_any p f l  _).mono ?_
 rintro e w4 ⟨rfl, hk4⟩
 rw [hR]
 have HK4 := hid ((HK2.out.trans hk3).trans hk4)
 go_wp2
 go_ret
 exact ⟨rfl, HK4.out⟩
theorem pgSec_law (p f l g : Int) (w : World) : Calls Try.prog 4 #[.agg #[.int .i64 p, .int .i64 f, .int .i64 l], .int .i64 g] w fun e w' => e = .returned (.bool true) ∧ Same w w' := by
 have HK0 := hid (sameA w [.int .i64 p, .int .i64 f, .int .i64 l] 23)
 have b0 := Blk.newL w [.int .i64 p, .int .i64 f, .int .i64 l] 23
 obtain ⟨R, hR⟩ : ∃ R, pgSec p f l g = R := ⟨_, rfl⟩
 go_enter Try.func4, Try.ntmps4
 go_wp2_with fail
 refine (toGeo_any p f l _).mono ?_
 rintro e w1 ⟨rfl, hk1⟩
 go_wp2_with fail
 refine (specPgSec_any p f l g _).mono ?_
 rintro e w2 ⟨rfl, hk2⟩
 have HK2 := hid ((HK0.out.trans hk1).trans hk2)
 obtain ⟨d0, d1, d2⟩ := ((b0.same hk1).same hk2).all3
 rw [hR]
 go_wp2_with fail
 refine (toGeo_any p f l _).mono ?_
 rintro e w3 ⟨rfl, hk3⟩
 go_wp2_with fail
 refine (implPgSec_any p f l g _).mono ?_
 rintro e w4 ⟨rfl, hk4⟩
 rw [hR]
 have HK4 := hid ((HK2.out.trans hk3).trans hk4)
 go_wp2
 go_ret
 exact ⟨rfl, HK4.out⟩
end Go.Proofs.Ythmiicnchncecaa
