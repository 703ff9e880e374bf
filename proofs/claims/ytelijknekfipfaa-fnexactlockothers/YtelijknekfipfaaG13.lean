import Derived.Test.YtelijknekfipfaaG07
import Derived.Test.YtelijknekfipfaaG00
import Derived.Test.YtelijknekfipfaaOpenF
import Derived.Deep.DeepCutAuto


namespace Go.Proofs.Ytelijknekfipfaa
set_option maxRecDepth 100000
set_option maxHeartbeats 16000000
open Go.RowKit
set_option linter.unusedVariables false
theorem lockOthers_walk (x0 : FR) (s1 : Int) (s2 : Int) (w : World) (hv0 : RdF 3 w x0) (hB0 : ∀ v ∈ x0.bs, IsI v) :
    Calls Try.prog 6 #[x0.v, .int .i64 s1, .int .i64 s2] w fun e w' => e = .returned (.bool true) ∧ Same w w' := by
  obtain ⟨p0e, p0a, p0n, p0c, p0b⟩ := x0
  have hm0 : p0n ≤ maxLen := hv0.1
  unfold maxLen at hm0
  have hl0 : p0b.length = p0n * 3 := hv0.2.1
  have HV0 := (show Hid (RdF 3 w ⟨p0e, p0a, p0n, p0c, p0b⟩) from hv0)
  clear hv0
  have HB0 := (show Hid (∀ v ∈ p0b, IsI v) from hB0)
  clear hB0
  dsimp only [FR.v]
  go_enter Try.func6, Try.ntmps6
  have HKw : Hid (Same w w) := Kept.refl _ _
  go_wp2_with fail
  refine (szLockS_any _ p0n _ 1048576 _ (by omega) (by omega) (by unfold maxLen; omega)).mono ?_
  rintro e w1 ⟨sz0, rfl, hr, hww⟩
  have hk : Same w w1 := by rw [hww]; exact Kept.refl _ _
  clear hww
  have hkk : Same w w1 := hk
  have hzw1 := hkk.size
  have HKw1 := (show Hid (Same w w1) from HKw.out.trans hkk)
  clear hkk hk
  rcases hr with ⟨rfl, _⟩ | ⟨hr, hr0⟩
  · go_wp2
    go_ret
    exact ⟨rfl, HKw1.out⟩
  have hp0 : p0n ≤ 1048576 := by omega
  have hsb0 : sz0 ≤ 1048576 := by omega
  clear hr
  go_wp2_with fail
  refine (toLockS_any ⟨p0e, p0a, p0n, p0c, p0b⟩ _ (by dsimp only; omega) (HV0.out.same HKw1.out)).mono ?_
  rintro e w2 ⟨⟨C0e, C0a, C0n, C0c, C0b⟩, rfl, hd, hn, hf, ho, hk⟩
  dsimp only at hd hn
  replace hd := hd.symm
  replace hn := hn.symm
  subst hd hn
  dsimp only [FR.v]
  have HFC0 := (show Hid (∀ b, FootL (FR.rows 3 ⟨C0e, C0a, p0n, C0c, p0b⟩) b → w1.heap.size ≤ b ∧ b < w2.heap.size) from fun b hb => ⟨hf b hb, ho.lt b hb⟩)
  have HC0w2 := (show Hid (OwnL w2 (FR.rows 3 ⟨C0e, C0a, p0n, C0c, p0b⟩)) from ho)
  clear hf ho
  have hkk : Same w1 w2 := hk
  have hzw2 := hkk.size
  have HKw2 := (show Hid (Same w w2) from HKw1.out.trans hkk)
  clear hkk hk
  go_wp2_with fail
  refine (specLockOthers_any ⟨C0e, C0a, p0n, C0c, p0b⟩ s1 s2 _ (FR.own_rd HC0w2.out)).mono ?_
  rintro e w3 ⟨rfl, hk⟩
  try dsimp only
  obtain ⟨r0, hR⟩ : ∃ r, othersP (tri p0b) s1 s2 = r := ⟨_, rfl⟩
  have HR : Hid (othersP (tri p0b) s1 s2 = r0) := hR
  clear hR
  rw [HR.out]
  have hkk : Same w2 w3 := hk
  have hzw3 := hkk.size
  have HC0w3 := (show Hid (OwnL w3 (FR.rows 3 ⟨C0e, C0a, p0n, C0c, p0b⟩)) from HC0w2.out.same hkk)
  have HKw3 := (show Hid (Same w w3) from HKw2.out.trans hkk)
  clear hkk hk
  go_wp2_with fail
  refine (toLockS_any ⟨p0e, p0a, p0n, p0c, p0b⟩ _ (by dsimp only; omega) (HV0.out.same HKw3.out)).mono ?_
  rintro e w4 ⟨⟨X0e, X0a, X0n, X0c, X0b⟩, rfl, hd, hn, hf, ho, hk⟩
  dsimp only at hd hn
  replace hd := hd.symm
  replace hn := hn.symm
  subst hd hn
  dsimp only [FR.v]
  have HFX0 := (show Hid (∀ b, FootL (FR.rows 3 ⟨X0e, X0a, p0n, X0c, p0b⟩) b → w3.heap.size ≤ b ∧ b < w4.heap.size) from fun b hb => ⟨hf b hb, ho.lt b hb⟩)
  have HX0w4 := (show Hid (OwnL w4 (FR.rows 3 ⟨X0e, X0a, p0n, X0c, p0b⟩)) from ho)
  clear hf ho
  have hkk : Same w3 w4 := hk
  have hzw4 := hkk.size
  have HKw4 := (show Hid (Same w w4) from HKw3.out.trans hkk)
  clear hkk hk
  go_wp2_with fail
  refine (implLockOthers_any ⟨X0e, X0a, p0n, X0c, p0b⟩ s1 s2 _ (FR.own_rd HX0w4.out)).mono ?_
  rintro e w5 ⟨rfl, hk⟩
  try dsimp only
  rw [HR.out]
  have hkk : Same w4 w5 := hk
  have hzw5 := hkk.size
  have HX0w5 := (show Hid (OwnL w5 (FR.rows 3 ⟨X0e, X0a, p0n, X0c, p0b⟩)) from HX0w4.out.same hkk)
  have HKw5 := (show Hid (Same w w5) from HKw4.out.trans hkk)
  clear hkk hk
  go_wp2_with fail
  refine (toLockS_any ⟨p0e, p0a, p0n, p0c, p0b⟩ _ (by dsimp only; omega) (HV0.out.same HKw5.out)).mono ?_
  rintro e w6 ⟨⟨D0e, D0a, D0n, D0c, D0b⟩, rfl, hd, hn, hf, ho, hk⟩
  dsimp only at hd hn
  replace hd := hd.symm
  replace hn := hn.symm
  subst hd hn
  dsimp only [FR.v]
  have HFD0 := (show Hid (∀ b, FootL (FR.rows 3 ⟨D0e, D0a, p0n, D0c, p0b⟩) b → w5.heap.size ≤ b ∧ b < w6.heap.size) from fun b hb => ⟨hf b hb, ho.lt b hb⟩)
  have HD0w6 := (show Hid (OwnL w6 (FR.rows 3 ⟨D0e, D0a, p0n, D0c, p0b⟩)) from ho)
  clear hf ho
  have hkk : Same w5 w6 := hk
  have hzw6 := hkk.size
  have HX0w6 := (show Hid (OwnL w6 (FR.rows 3 ⟨X0e, X0a, p0n, X0c, p0b⟩)) from HX0w5.out.same hkk)
  have HKw6 := (show Hid (Same w w6) from HKw5.out.trans hkk)
  clear hkk hk
  go_wp2_with fail
  refine (eqLockS_own ⟨X0e, X0a, p0n, X0c, p0b⟩ ⟨D0e, D0a, p0n, D0c, p0b⟩ _ (by dsimp only; omega) rfl HX0w6.out HD0w6.out).mono ?_
  rintro e w7 ⟨rfl, hk⟩
  have hkk : Same w6 w7 := hk
  have hzw7 := hkk.size
  have HX0w7 := (show Hid (OwnL w7 (FR.rows 3 ⟨X0e, X0a, p0n, X0c, p0b⟩)) from HX0w6.out.same hkk)
  have HKw7 := (show Hid (Same w w7) from HKw6.out.trans hkk)
  clear hkk hk
  go_wp2
  go_ret
  exact ⟨rfl, HKw7.out⟩
end Go.Proofs.Ytelijknekfipfaa

namespace Go.Proofs.Ytelijknekfipfaa.fnExactLockOthers
open Go.ChangeShapes Go.WideShapes Go.ChangeAt Go.RowKit
set_option linter.unusedVariables false
theorem own : ownKnob Try.prog.godebug = none := by kernel_rfl
theorem laidOut : laidOutB Try.prog = true := by kernel_rfl
set_option maxRecDepth 100000 in
theorem lifted (os : Os) (started : os.Started) (H : Type) (enc : TypeId × Value → H) :
    ReturnsInHanded {} Try.checked os 6 .any (Rows.fnExactLockOthersSpec.pre6 enc Try.prog Try.f6 Rows.fnExactLockOthersRow.domain false) (Rows.fnExactLockOthersSpec.post enc Try.prog Try.f6 false true false false) := by
  refine returnsInHanded_of_change (C := Try.checked) own started (by kernel_rfl) Try.func6
    (ChangeSpec.witness6 (enc := enc) (C := Try.checked) false ⟨#[], #[.slice none 0 0, .int .i64 0, .int .i64 0], []⟩ 8 (by kernel_rfl) (by kernel_rfl) (by kernel_rfl) (by kernel_rfl)) ?_
  intro W base args ds gs before hval0 hW hcnd _
  have hval : ∀ (j : Nat) t v, Try.f6.params[j]? = some t → args[j]? = some v → Value.okWide Try.prog W .any base t v := hval0
  have hW' := hW
  obtain ⟨p, q, hA0, hV, rfl, hfz, hnd⟩ := hW
  have hA : DataW.TrodAll enc Try.prog W 0 (fun _ => true) true Try.f6.params.toList args.toList ds p := hA0
  rw [Try.params6] at hA hval
  obtain ⟨v0, vs0, d0, ds0, p0, q0, hargs, rfl, rfl, h0, r0⟩ := trodAll_cons hA
  obtain ⟨v1, vs1, d1, ds1, p1, q1, rfl, rfl, rfl, h1, r1⟩ := trodAll_cons r0
  obtain ⟨v2, vs2, d2, ds2, p2, q2, rfl, rfl, rfl, h2, r2⟩ := trodAll_cons r1
  obtain ⟨rfl, rfl, rfl⟩ := trodAll_nil r2
  obtain rfl : args = #[v0, v1, v2] := by cases args; simp_all
  obtain ⟨rfl, rfl⟩ := trodVars_none hV
  have k0 := h0
  have lt0 : ∀ x ∈ p0, x.block < W.heap.size := by obtain ⟨m, hm⟩ := k0; exact DataW.trod_lt m _ _ _ hm
  obtain ⟨x0, rfl, rd0, bd0⟩ := open_lockS (hval 0 33 v0 rfl rfl) h0
  obtain ⟨a1, rfl, rfl, rfl, w1⟩ := open_int Try.underlying2 (hval 1 2 v1 rfl rfl) h1
  obtain ⟨a2, rfl, rfl, rfl, w2⟩ := open_int Try.underlying2 (hval 2 2 v2 rfl rfl) h2
  clear hA0 hval0
  refine (lockOthers_walk x0 a1 a2 W rd0 bd0).mono fun e W' ⟨he, hk⟩ => ?_
  have bel : Below W.heap.size W W' := hk.below (Nat.le_refl _) (fun _ _ => id)
  subst he
  exact ⟨_, rfl, _, _, _, [], _, [], hW', trodAll_mk1 (shut_bool Try.underlying4 _), (trodAll_cons_mk (Below.trod laidOut (by kernel_rfl) (of_decide_eq_true (by kernel_rfl)) k0 bel lt0) (trodAll_cons_mk (shut_int Try.underlying2 w1) (trodAll_cons_mk (shut_int Try.underlying2 w2) trodAll_mk0))), rfl, bel.frame _, fun h => by cases h⟩
theorem over : Rows.fnExactLockOthersRow.holds Try.pinned (OpenSpec.ofChange Rows.fnExactLockOthersSpec) :=
  OpenClaim.holds_of_wide 6 Try.f6 rfl rfl rfl rfl rfl rfl rfl ⟨rfl, rfl, rfl, rfl, rfl⟩ rfl rfl rfl rfl rfl (by kernel_rfl) Try.func6 (by kernel_rfl)
    (of_decide_eq_true (by kernel_rfl)) (by unfold Func.isWrapper; first | (rw [if_pos (by decide +kernel)]; kernel_rfl) | (rw [if_neg (by decide +kernel)]; exact ⟨rfl, rfl⟩))
    (fun os started H enc _ => lifted os started H enc)
end Go.Proofs.Ytelijknekfipfaa.fnExactLockOthers
namespace Go.Proofs.Ytelijknekfipfaa
theorem lockOthers_proved : Rows.FnExactLockOthersSaid := fnExactLockOthers.over
#print axioms lockOthers_proved
end Go.Proofs.Ytelijknekfipfaa
