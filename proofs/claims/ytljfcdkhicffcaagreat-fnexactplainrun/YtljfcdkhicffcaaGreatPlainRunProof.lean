import Derived.Test.YtljfcdkhicffcaaGreatG37
namespace Go.Proofs.YtljfcdkhicffcaaGreat.fnExactPlainRun
open Go.ChangeShapes Go.WideShapes Go.ChangeAt Go.RowKit
set_option linter.unusedVariables false
theorem own : ownKnob Tryz.prog.godebug = none := by kernel_rfl
theorem laidOut : laidOutB Tryz.prog = true := by kernel_rfl
set_option maxRecDepth 100000 in
theorem lifted (os : Os) (started : os.Started) (H : Type) (enc : TypeId × Value → H) :
  ReturnsInHanded {} Tryz.checked os 3 .any (Rows.fnExactPlainRunSpec.pre6 enc Tryz.prog Tryz.f3 Rows.fnExactPlainRunRow.domain false) (Rows.fnExactPlainRunSpec.post enc Tryz.prog Tryz.f3 false true false false) := by
 refine returnsInHanded_of_change (C := Tryz.checked) own started (by kernel_rfl) Tryz.func3
  (ChangeSpec.witness6 (enc := enc) (C := Tryz.checked) false ⟨#[], #[.agg #[V 0, V 0, V 0], V0, V0, V0], []⟩ 8 (by kernel_rfl) (by kernel_rfl) (by kernel_rfl) (by kernel_rfl)) ?_
 intro W base args ds gs before xi hW Rp _;have pz : ∀ (j : Nat) t v, Tryz.f3.params[j]? = some t → args[j]? = some v → Value.okWide Tryz.prog W .any base t v := xi;have Qp := hW;obtain ⟨p, q, Oe, hV, rfl, SR, eU⟩ := hW;have hA : DataW.TrodAll enc Tryz.prog W 0 (fun _ => true) true Tryz.f3.params.toList args.toList ds p := Oe;rw [Tryz.params3] at hA pz;obtain ⟨v0, TO, d0, Tc, p0, q0, NP, rfl, rfl, h0, r0⟩ := trodAll_cons hA;obtain ⟨v1, SX, d1, S7, p1, q1, rfl, rfl, rfl, h1, r1⟩ := trodAll_cons r0;obtain ⟨v2, Tk, d2, SY, p2, q2, rfl, rfl, rfl, h2, r2⟩ := trodAll_cons r1;obtain ⟨v3, TN, d3, TC, p3, q3, rfl, rfl, rfl, h3, r3⟩ := trodAll_cons r2;obtain ⟨rfl, rfl, rfl⟩ := trodAll_nil r3
 obtain rfl : args = #[v0, v1, v2, v3] := by cases args; simp_all
 obtain ⟨rfl, rfl⟩ := trodVars_none hV;have k0 := h0
 have RY : ∀ x ∈ p0, x.block < W.heap.size := by obtain ⟨m, hm⟩ := k0; exact DataW.trod_lt m _ _ _ hm
 obtain ⟨PL, Cy, PS, rfl⟩ := jfJ (pz 0 23 v0 rfl rfl) h0;have k1 := h1
 have Ph : ∀ x ∈ p1, x.block < W.heap.size := by obtain ⟨m, hm⟩ := k1; exact DataW.trod_lt m _ _ _ hm
 obtain ⟨QX, O4, Qx⟩ := jbK (pz 1 24 v1 rfl rfl) h1;have k2 := h2
 have Po : ∀ x ∈ p2, x.block < W.heap.size := by obtain ⟨m, hm⟩ := k2; exact DataW.trod_lt m _ _ _ hm
 obtain ⟨RJ, QU, RE⟩ := jdE (pz 2 25 v2 rfl rfl) h2;have k3 := h3
 have Pg : ∀ x ∈ p3, x.block < W.heap.size := by obtain ⟨m, hm⟩ := k3; exact DataW.trod_lt m _ _ _ hm
 obtain ⟨RX, PG, Qq⟩ := jbL (pz 3 26 v3 rfl rfl) h3;clear Oe xi;refine (jcf PL Cy PS v1 QX v2 RJ v3 RX W O4 Qx QU RE PG Qq).mono fun e W' ⟨he, hk⟩ => ?_;have D1 : Below W.heap.size W W' := hk.below (Nat.le_refl _) (fun _ _ => id);subst he;exact ⟨_, rfl, _, _, _, [], _, [], Qp, trodAll_mk1 (shut_bool Tryz.underlying4 _), (trodAll_cons_mk (Below.trod laidOut (by kernel_rfl) (of_decide_eq_true (by kernel_rfl)) k0 D1 RY) (trodAll_cons_mk (Below.trod laidOut (by kernel_rfl) (of_decide_eq_true (by kernel_rfl)) k1 D1 Ph) (trodAll_cons_mk (Below.trod laidOut (by kernel_rfl) (of_decide_eq_true (by kernel_rfl)) k2 D1 Po) (trodAll_cons_mk (Below.trod laidOut (by kernel_rfl) (of_decide_eq_true (by kernel_rfl)) k3 D1 Pg) trodAll_mk0)))), rfl, D1.frame _, fun h => by cases h⟩
theorem over : Rows.fnExactPlainRunRow.holds Tryz.pinned (OpenSpec.ofChange Rows.fnExactPlainRunSpec) :=
 OpenClaim.holds_of_wide 3 Tryz.f3 rfl rfl rfl rfl rfl rfl rfl ⟨rfl, rfl, rfl, rfl, rfl⟩ rfl rfl rfl rfl rfl (by kernel_rfl) Tryz.func3 (by kernel_rfl)
  (of_decide_eq_true (by kernel_rfl)) (by unfold Func.isWrapper; first | (rw [if_pos (by decide +kernel)]; kernel_rfl) | (rw [if_neg (by decide +kernel)]; exact ⟨rfl, rfl⟩))
  (fun os started H enc _ => lifted os started H enc)
end Go.Proofs.YtljfcdkhicffcaaGreat.fnExactPlainRun
namespace Go.Proofs.YtljfcdkhicffcaaGreat
theorem plainRun_proved : Rows.FnExactPlainRunSaid := fnExactPlainRun.over
#print axioms plainRun_proved
end Go.Proofs.YtljfcdkhicffcaaGreat
