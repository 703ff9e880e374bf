import Derived.Test.YtmpfpgelaipmnaaG00
import Derived.Test.YtmpfpgelaipmnaaRows
import Derived.Test.YtmpfpgelaipmnaaG02
import Derived.WalkKit
import Derived.ProofKit
import Derived.OpenShut
import Derived.ShutString
import Derived.ChangeOld
import Derived.Below
import Derived.Lib.SmallJoins
import Derived.Deep.Slices
namespace Go.Proofs.Ytmpfpgelaipmnaa
set_option maxRecDepth 100000
set_option maxHeartbeats 4000000
set_option linter.unusedVariables false
set_option linter.unusedSimpArgs false
open Go.ChangeShapes Go.WideShapes Go.ChangeAt Go.RowKit
theorem array_geo {cs : Array Value} (h : cs.size = 3) : ∃ c0 c1 c2, cs = #[c0, c1, c2] := by
 obtain ⟨l⟩ := cs
 match l, h with
 | [c0, c1, c2], _ => exact ⟨c0, c1, c2, rfl⟩
section
variable {H : Type} {enc : TypeId × Value → H} {w : World} {base : Nat} {spare : Nat → Bool} {held : Bool}
theorem open_geo {r : Reach} {b0 : Nat} {v : Value} {d : DataW H} {p : List MemPlace} (hv : Value.okWide Try.prog w r b0 25 v) (h : DataW.Trod enc Try.prog w base spare held 25 v d p) :
  ∃ p f l : Int, v = .agg #[.int .i64 p, .int .i64 f, .int .i64 l] := by
 obtain ⟨cs, rfl, hsz⟩ := okWide_struct Try.underlying25 hv
 obtain ⟨c0, c1, c2, rfl⟩ := array_geo (hsz.trans (by kernel_rfl))
 obtain ⟨fuel, hf⟩ := h
 obtain ⟨xs, n, _, _, _, hxl, hg⟩ := DataW.trod_struct Try.underlying25 hf
 have g0 : ∃ x, DataW.trod enc Try.prog w base spare held n 2 [c0] = some x := ⟨xs[0]'(by rw [hxl]; decide), by have h := hg 0 _ rfl; rw [List.getElem?_eq_getElem (by rw [hxl]; decide)] at h; exact h⟩
 obtain ⟨x0, g0⟩ := g0
 obtain ⟨z0, e0, _, _⟩ := DataW.trod_int Try.underlying2 g0
 simp at e0
 subst e0
 have g1 : ∃ x, DataW.trod enc Try.prog w base spare held n 2 [c1] = some x := ⟨xs[1]'(by rw [hxl]; decide), by have h := hg 1 _ rfl; rw [List.getElem?_eq_getElem (by rw [hxl]; decide)] at h; exact h⟩
 obtain ⟨x1, g1⟩ := g1
 obtain ⟨z1, e1, _, _⟩ := DataW.trod_int Try.underlying2 g1
 simp at e1
 subst e1
 have g2 : ∃ x, DataW.trod enc Try.prog w base spare held n 2 [c2] = some x := ⟨xs[2]'(by rw [hxl]; decide), by have h := hg 2 _ rfl; rw [List.getElem?_eq_getElem (by rw [hxl]; decide)] at h; exact h⟩
 obtain ⟨x2, g2⟩ := g2
 obtain ⟨z2, e2, _, _⟩ := DataW.trod_int Try.underlying2 g2
 simp at e2
 subst e2
 exact ⟨z0, z1, z2, rfl⟩
end
theorem toGeo_any (p f l : Int) (w : World) : Calls Try.prog 12 #[.agg #[.int .i64 p, .int .i64 f, .int .i64 l]] w fun e w' => e = .returned (.agg #[.int .i64 p, .int .i64 f, .int .i64 l]) ∧ Same w w' := by
 go_enter Try.func12, Try.ntmps12
 go_wp2
 refine bodyPost_ret (v := .agg #[.int .i64 p, .int .i64 f, .int .i64 l]) (by simp [results, Try.results12, go_sem]) rfl ⟨rfl, ?_⟩
 repeat (first | exact Kept.refl _ _ | refine Kept.alloc ?_ _ | refine Kept.setCell ?_ (.inl (by simp)) _)
theorem geo_law (p f l : Int) (w : World) : Calls Try.prog 4 #[.agg #[.int .i64 p, .int .i64 f, .int .i64 l]] w fun e w' => e = .returned (.bool true) ∧ Same w w' := by
 have HK0 := hid (sameA w [.int .i64 p, .int .i64 f, .int .i64 l] 25)
 have b0 := Blk.newL w [.int .i64 p, .int .i64 f, .int .i64 l] 25
 obtain ⟨R, hR⟩ : ∃ R, geoF p f l = R := ⟨_, rfl⟩
 go_enter Try.func4, Try.ntmps4
 go_wp2_with fail
 refine (toGeo_any p f l _).mono ?_
 rintro e w1 ⟨rfl, hk1⟩
 go_wp2_with fail
 refine (specGeo_any p f l _).mono ?_
 rintro e w2 ⟨rfl, hk2⟩
 have HK2 := hid ((HK0.out.trans hk1).trans hk2)
 obtain ⟨d0, d1, d2⟩ := ((b0.same hk1).same hk2).all3
 rw [hR]
 go_wp2_with fail
 refine (toGeo_any p f l _).mono ?_
 rintro e w3 ⟨rfl, hk3⟩
 go_wp2_with fail
 refine (implGeo_any p f l _).mono ?_
 rintro e w4 ⟨rfl, hk4⟩
 rw [hR]
 have HK4 := hid ((HK2.out.trans hk3).trans hk4)
 go_wp2
 go_ret
 exact ⟨rfl, HK4.out⟩
theorem logFree_law (p f l en lo im re : Int) (w : World) : Calls Try.prog 6 #[.agg #[.int .i64 p, .int .i64 f, .int .i64 l], .int .i64 en, .int .i64 lo, .int .i64 im, .int .i64 re] w fun e w' => e = .returned (.bool true) ∧ Same w w' := by
 have HK0 := hid (sameA w [.int .i64 p, .int .i64 f, .int .i64 l] 25)
 have b0 := Blk.newL w [.int .i64 p, .int .i64 f, .int .i64 l] 25
 obtain ⟨R, hR⟩ : ∃ R, freeL p f l en lo im re = R := ⟨_, rfl⟩
 go_enter Try.func6, Try.ntmps6
 go_wp2_with fail
 refine (toGeo_any p f l _).mono ?_
 rintro e w1 ⟨rfl, hk1⟩
 go_wp2_with fail
 refine (specFree_any p f l en lo im re _).mono ?_
 rintro e w2 ⟨rfl, hk2⟩
 have HK2 := hid ((HK0.out.trans hk1).trans hk2)
 obtain ⟨d0, d1, d2⟩ := ((b0.same hk1).same hk2).all3
 rw [hR]
 go_wp2_with fail
 refine (toGeo_any p f l _).mono ?_
 rintro e w3 ⟨rfl, hk3⟩
 go_wp2_with fail
 refine (implFree_any p f l en lo im re _).mono ?_
 rintro e w4 ⟨rfl, hk4⟩
 rw [hR]
 have HK4 := hid ((HK2.out.trans hk3).trans hk4)
 go_wp2
 go_ret
 exact ⟨rfl, HK4.out⟩
end Go.Proofs.Ytmpfpgelaipmnaa
