import Derived.Test.YthmiicnchncecaaG01
import Derived.Test.YthmiicnchncecaaG00
namespace Go.Proofs.Ythmiicnchncecaa
set_option maxRecDepth 100000
set_option maxHeartbeats 4000000
open Go.RowKit
set_option linter.unusedVariables false
set_option linter.unusedSimpArgs false
def bndN (p f l : Int) : Int := if geoF p f l = 0 then 600 * l + 100 * p + 100 else -1
theorem specBnd_any (p f l : Int) (w : World) : Calls Try.prog 20 #[.agg #[.int .i64 p, .int .i64 f, .int .i64 l]] w fun e w' => e = .returned (.int .i64 (bndN p f l)) ∧ Same w w' := by
  have HK0 := hid (sameA w [.int .i64 p, .int .i64 f, .int .i64 l] 25)
  have b0 := Blk.newL w [.int .i64 p, .int .i64 f, .int .i64 l] 25
  have k0 := fun wx => specGeo_any p f l wx
  obtain ⟨R, hR⟩ : ∃ R, bndN p f l = R := ⟨_, rfl⟩
  rw [hR]
  unfold bndN at hR
  obtain ⟨q, hq⟩ : ∃ q, geoF p f l = q := ⟨_, rfl⟩
  rw [hq] at k0 hR
  by_cases h0 : q = 0
  case neg =>
    rw [if_neg h0] at hR
    subst hR
    clear hq
    go_enter Try.func20, Try.ntmps20
    go_wp2_with fail
    refine (k0 _).mono ?_
    rintro e w1 ⟨rfl, hk1⟩
    go_wp2
    go_ret
    exact ⟨rfl, HK0.out.trans hk1⟩
  subst h0
  rw [if_pos rfl] at hR
  obtain ⟨h1, h2, h3, h4⟩ := geo_good hq
  clear hq
  have q1 : IntKind.i64.wrap (600 * l) = 600 * l := by rw [IntKind.wrap_i64]; omega
  have q2 : IntKind.i64.wrap (100 * p) = 100 * p := by rw [IntKind.wrap_i64]; omega
  have q3 : IntKind.i64.wrap (600 * l + 100 * p) = 600 * l + 100 * p := by rw [IntKind.wrap_i64]; omega
  have q4 : IntKind.i64.wrap (600 * l + 100 * p + 100) = 600 * l + 100 * p + 100 := by rw [IntKind.wrap_i64]; omega
  subst hR
  go_enter Try.func20, Try.ntmps20
  go_wp2_with fail
  refine (k0 _).mono ?_
  rintro e w1 ⟨rfl, hk1⟩
  have HK1 := hid (HK0.out.trans hk1)
  obtain ⟨d0, d1, d2⟩ := (b0.same hk1).all3
  clear hk1
  go_wp2
  go_ret
  exact ⟨rfl, HK1.out⟩
theorem implBnd_any (p f l : Int) (w : World) : Calls Try.prog 21 #[.agg #[.int .i64 p, .int .i64 f, .int .i64 l]] w fun e w' => e = .returned (.int .i64 (bndN p f l)) ∧ Same w w' := by
  have HK0 := hid (sameA w [.int .i64 p, .int .i64 f, .int .i64 l] 25)
  have b0 := Blk.newL w [.int .i64 p, .int .i64 f, .int .i64 l] 25
  have k0 := fun wx => implGeo_any p f l wx
  obtain ⟨R, hR⟩ : ∃ R, bndN p f l = R := ⟨_, rfl⟩
  rw [hR]
  unfold bndN at hR
  obtain ⟨q, hq⟩ : ∃ q, geoF p f l = q := ⟨_, rfl⟩
  rw [hq] at k0 hR
  by_cases h0 : q = 0
  case neg =>
    rw [if_neg h0] at hR
    subst hR
    clear hq
    go_enter Try.func21, Try.ntmps21
    go_wp2_with fail
    refine (k0 _).mono ?_
    rintro e w1 ⟨rfl, hk1⟩
    go_wp2
    go_ret
    exact ⟨rfl, HK0.out.trans hk1⟩
  subst h0
  rw [if_pos rfl] at hR
  obtain ⟨h1, h2, h3, h4⟩ := geo_good hq
  clear hq
  have q1 : IntKind.i64.wrap (600 * l) = 600 * l := by rw [IntKind.wrap_i64]; omega
  have q2 : IntKind.i64.wrap (100 * p) = 100 * p := by rw [IntKind.wrap_i64]; omega
  have q3 : IntKind.i64.wrap (600 * l + 100 * p) = 600 * l + 100 * p := by rw [IntKind.wrap_i64]; omega
  have q4 : IntKind.i64.wrap (600 * l + 100 * p + 100) = 600 * l + 100 * p + 100 := by rw [IntKind.wrap_i64]; omega
  subst hR
  go_enter Try.func21, Try.ntmps21
  go_wp2_with fail
  refine (k0 _).mono ?_
  rintro e w1 ⟨rfl, hk1⟩
  have HK1 := hid (HK0.out.trans hk1)
  obtain ⟨d0, d1, d2⟩ := (b0.same hk1).all3
  clear hk1
  go_wp2
  go_ret
  exact ⟨rfl, HK1.out⟩
theorem bnd_law (p f l  : Int) (w : World) : Calls Try.prog 6 #[.agg #[.int .i64 p, .int .i64 f, .int .i64 l]] w fun e w' => e = .returned (.bool true) ∧ Same w w' := by
  have HK0 := hid (sameA w [.int .i64 p, .int .i64 f, .int .i64 l] 23)
  have b0 := Blk.newL w [.int .i64 p, .int .i64 f, .int .i64 l] 23
  obtain ⟨R, hR⟩ : ∃ R, bndN p f l = R := ⟨_, rfl⟩
  go_enter Try.func6, Try.ntmps6
  go_wp2_with fail
  refine (toGeo_any p f l _).mono ?_
  rintro e w1 ⟨rfl, hk1⟩
  go_wp2_with fail
  refine (specBnd_any p f l  _).mono ?_
  rintro e w2 ⟨rfl, hk2⟩
  have HK2 := hid ((HK0.out.trans hk1).trans hk2)
  obtain ⟨d0, d1, d2⟩ := ((b0.same hk1).same hk2).all3
  rw [hR]
  go_wp2_with fail
  refine (toGeo_any p f l _).mono ?_
  rintro e w3 ⟨rfl, hk3⟩
  go_wp2_with fail
  refine (implBnd_any p f l  _).mono ?_
  rintro e w4 ⟨rfl, hk4⟩
  rw [hR]
  have HK4 := hid ((HK2.out.trans hk3).trans hk4)
  go_wp2
  go_ret
  exact ⟨rfl, HK4.out⟩
end Go.Proofs.Ythmiicnchncecaa

namespace Go.Proofs.Ythmiicnchncecaa.fnExactRestartBound
open Go.ChangeShapes Go.WideShapes Go.ChangeAt Go.RowKit
set_option linter.unusedVariables false
theorem own : ownKnob Try.prog.godebug = none := by kernel_rfl
theorem laidOut : laidOutB Try.prog = true := by kernel_rfl
set_option maxRecDepth 100000 in
theorem lifted (os : Os) (started : os.Started) (H : Type) (enc : TypeId × Value → H) :
    ReturnsInHanded {} Try.checked os 6 .any (Rows.fnExactRestartBoundSpec.pre6 enc Try.prog Try.f6 Rows.fnExactRestartBoundRow.domain false) (Rows.fnExactRestartBoundSpec.post enc Try.prog Try.f6 false true false false) := by
  refine returnsInHanded_of_change (C := Try.checked) own started (by kernel_rfl) Try.func6
    (ChangeSpec.witness6 (enc := enc) (C := Try.checked) false ⟨#[], #[.agg #[.int .i64 0, .int .i64 0, .int .i64 0]], []⟩ 8 (by kernel_rfl) (by kernel_rfl) (by kernel_rfl) (by kernel_rfl)) ?_
  intro W base args ds gs before hval0 hW hcnd _
  have hval : ∀ (j : Nat) t v, Try.f6.params[j]? = some t → args[j]? = some v → Value.okWide Try.prog W .any base t v := hval0
  have hW' := hW
  obtain ⟨p, q, hA0, hV, rfl, hfz, hnd⟩ := hW
  have hA : DataW.TrodAll enc Try.prog W 0 (fun _ => true) true Try.f6.params.toList args.toList ds p := hA0
  rw [Try.params6] at hA hval
  obtain ⟨v0, vs0, d0, ds0, p0, q0, hargs, rfl, rfl, h0, r0⟩ := trodAll_cons hA
  obtain ⟨rfl, rfl, rfl⟩ := trodAll_nil r0
  obtain rfl : args = #[v0] := by cases args; simp_all
  obtain ⟨rfl, rfl⟩ := trodVars_none hV
  have k0 := h0
  have lt0 : ∀ x ∈ p0, x.block < W.heap.size := by obtain ⟨m, hm⟩ := k0; exact DataW.trod_lt m _ _ _ hm
  obtain ⟨gp0, gf0, gl0, rfl⟩ := open_geo (hval 0 23 v0 rfl rfl) h0
  clear hA0 hval0
  refine (bnd_law gp0 gf0 gl0 W ).mono fun e W' ⟨he, hk⟩ => ?_
  have bel : Below W.heap.size W W' := hk.below (Nat.le_refl _) (fun _ _ => id)
  subst he
  exact ⟨_, rfl, _, _, _, [], _, [], hW', trodAll_mk1 (shut_bool Try.underlying4 _), (trodAll_cons_mk (Below.trod laidOut (by kernel_rfl) (of_decide_eq_true (by kernel_rfl)) k0 bel lt0) trodAll_mk0), rfl, bel.frame _, fun h => by cases h⟩
theorem over : Rows.fnExactRestartBoundRow.holds Try.pinned (OpenSpec.ofChange Rows.fnExactRestartBoundSpec) :=
  OpenClaim.holds_of_wide 6 Try.f6 rfl rfl rfl rfl rfl rfl rfl ⟨rfl, rfl, rfl, rfl, rfl⟩ rfl rfl rfl rfl rfl (by kernel_rfl) Try.func6 (by kernel_rfl)
    (of_decide_eq_true (by kernel_rfl)) (by unfold Func.isWrapper; first | (rw [if_pos (by decide +kernel)]; kernel_rfl) | (rw [if_neg (by decide +kernel)]; exact ⟨rfl, rfl⟩))
    (fun os started H enc _ => lifted os started H enc)
end Go.Proofs.Ythmiicnchncecaa.fnExactRestartBound
namespace Go.Proofs.Ythmiicnchncecaa
theorem restartBound_proved : Rows.FnExactRestartBoundSaid := fnExactRestartBound.over
#print axioms restartBound_proved
end Go.Proofs.Ythmiicnchncecaa
