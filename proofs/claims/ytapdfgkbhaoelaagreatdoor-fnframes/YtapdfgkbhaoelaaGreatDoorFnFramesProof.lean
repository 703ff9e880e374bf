import Derived.Test.YtapdfgkbhaoelaaGreatDoorG47
import Derived.Test.YtapdfgkbhaoelaaGreatDoorCards
import Derived.Test.YtapdfgkbhaoelaaGreatDoorTie
import Derived.ChangeSame
import Derived.JoinedOf
import Derived.RowKit
import Derived.Stop.Joined
namespace Go.Proofs.YtapdfgkbhaoelaaGreatDoor.fnFrames
open Go.ChangeShapes Go.WideShapes Go.ChangeAt Go.RowKit
set_option linter.unusedVariables false
theorem vars5s {H : Type} (enc : TypeId × Value → H) {X : World} {a0 a1 a2 a3 a4 : Addr} (x0 : X.var? Tryz.prog L0.1 = some #[Q7 a0]) (x1 : X.var? Tryz.prog L1.1 = some #[Q7 a1]) (x2 : X.var? Tryz.prog L2.1 = some #[Q7 a2]) (x3 : X.var? Tryz.prog L3.1 = some #[Q7 a3]) (x4 : X.var? Tryz.prog L4.1 = some #[Q7 a4]) (sp : Nat → Bool) :
  DataW.TrodVars enc Tryz.prog X sp [L0.1, L1.1, L2.1, L3.1, L4.1] [tok enc (Q7 a0), tok enc (Q7 a1), tok enc (Q7 a2), tok enc (Q7 a3), tok enc (Q7 a4)] [.cell 0 0, .cell 1 0, .cell 2 0, .cell 3 0, .cell 4 0] :=
 ⟨0, 85, #[Q7 a0], 1, [], [.cell 1 0, .cell 2 0, .cell 3 0, .cell 4 0], Tryz.gn0, Tryz.gt0, x0, trod_held Tryz.underlying85 (show IsIface (Q7 a0) from trivial) 0, ⟨1, 85, #[Q7 a1], 1, [], [.cell 2 0, .cell 3 0, .cell 4 0], Tryz.gn1, Tryz.gt1, x1, trod_held Tryz.underlying85 (show IsIface (Q7 a1) from trivial) 0, ⟨2, 85, #[Q7 a2], 1, [], [.cell 3 0, .cell 4 0], Tryz.gn2, Tryz.gt2, x2, trod_held Tryz.underlying85 (show IsIface (Q7 a2) from trivial) 0, ⟨3, 85, #[Q7 a3], 1, [], [.cell 4 0], Tryz.gn3, Tryz.gt3, x3, trod_held Tryz.underlying85 (show IsIface (Q7 a3) from trivial) 0, ⟨4, 85, #[Q7 a4], 1, [], [], Tryz.gn4, Tryz.gt4, x4, trod_held Tryz.underlying85 (show IsIface (Q7 a4) from trivial) 0, rfl, rfl⟩, rfl⟩, rfl⟩, rfl⟩, rfl⟩
theorem own : ownKnob Tryz.prog.godebug = none := by kernel_rfl
theorem laidOut : laidOutB Tryz.prog = true := by kernel_rfl
set_option maxRecDepth 100000 in
theorem lifted (os : Os) (started : os.Started) (H : Type) (enc : TypeId × Value → H) :
  ReturnsInHanded {} Tryz.checked os 3 .any (fun w args => (Rows.fnFramesSpec.pre enc Tryz.prog Tryz.f3 [] false w args ∧ laidMetH Tryz.prog [L0, L1, L2, L3, L4] w) ∧ sizedMet enc Tryz.prog Tryz.f3 (OpenSpec.ofChange Rows.fnFramesSpec) false w args)
   (Rows.fnFramesSpec.post enc Tryz.prog Tryz.f3 false true false false) := by
 refine returnsInHanded_of_change_and (C := Tryz.checked) (X := fun w _ => laidMetH Tryz.prog [L0, L1, L2, L3, L4] w) (fun _ _ _ hh h => h.of_heap hh) own started (by kernel_rfl) Tryz.func3
  (ChangeSpec.witness_at (enc := enc) (C := Tryz.checked) (os := os) (X := fun w _ => laidMetH Tryz.prog [L0, L1, L2, L3, L4] w) false (jcm (World.holding Tryz.prog os ⟨XT, #[], []⟩) (World.holding Tryz.prog default ⟨#[], #[], []⟩).heap.size) #[Q4, Q4] 8 rfl (by kernel_rfl) (by kernel_rfl) (by kernel_rfl) (by kernel_rfl) (by kernel_rfl) (jbn os _)) ?_
 intro W base args ds gs before qJ hW _ _ hL _;have rL : ∀ (j : Nat) t v, Tryz.f3.params[j]? = some t → args[j]? = some v → Value.okWide Tryz.prog W .any base t v := qJ;have MM := hW;obtain ⟨p, q, Gl, MN, rfl, Jb, Oq⟩ := hW;have hA : DataW.TrodAll enc Tryz.prog W 0 (fun _ => true) true Tryz.f3.params.toList args.toList ds p := Gl;have Fo : laidMet Tryz.prog [L0, L1, L2, L3, L4] W := hL;obtain ⟨a0, a1, a2, nu, gl, lQ, hE⟩ := jfa Fo;obtain ⟨a3, sC⟩ := jcj Fo.tail.tail.tail;obtain ⟨a4, E9⟩ := jck Fo.tail.tail.tail.tail;have hV : DataW.TrodVars enc Tryz.prog W (fun _ => true) [L0.1, L1.1, L2.1, L3.1, L4.1] gs q := MN;obtain ⟨rfl, rfl⟩ := hV.unique (vars5s enc nu gl lQ sC E9 _);rw [Tryz.params3] at hA rL;obtain ⟨v0, Nu, d0, NH, p0, q0, FZ, rfl, rfl, h0, r0⟩ := trodAll_cons hA;obtain ⟨v1, Nz, d1, Nk, p1, q1, rfl, rfl, rfl, h1, r1⟩ := trodAll_cons r0;obtain ⟨rfl, rfl, rfl⟩ := trodAll_nil r1
 obtain rfl : args = #[v0, v1] := by cases args; simp_all
 have k0 := h0
 have LF : ∀ x ∈ p0, x.block < W.heap.size := by obtain ⟨m, hm⟩ := k0; exact DataW.trod_lt m _ _ _ hm
 obtain ⟨x0, JW, Na⟩ := VA (rL 0 22 v0 rfl rfl) h0;have k1 := h1
 have MB : ∀ x ∈ p1, x.block < W.heap.size := by obtain ⟨m, hm⟩ := k1; exact DataW.trod_lt m _ _ _ hm
 obtain ⟨x1, Jw, Jg⟩ := VA (rL 1 22 v1 rfl rfl) h1;clear Gl qJ;refine (Y7 v0 x0 v1 x1 a0 a1 a2 a3 a4 W ⟨hE.errs, by simpa using World.var?_cell Tryz.gn3 sC 0, by simpa using World.var?_cell Tryz.gn4 E9 0⟩ JW Na Jw Jg).mono fun ex W' ⟨he, hk⟩ => ?_;have Fp : Below W.heap.size W W' := hk.below (Nat.le_refl _) (fun _ _ => id);subst he;exact ⟨_, rfl, _, _, _, [], _, _, MM, trodAll_mk1 (shut_bool Tryz.underlying4 _), (trodAll_cons_mk (Below.trod laidOut (by kernel_rfl) (of_decide_eq_true (by kernel_rfl)) k0 Fp LF) (trodAll_cons_mk (Below.trod laidOut (by kernel_rfl) (of_decide_eq_true (by kernel_rfl)) k1 Fp MB) trodAll_mk0)), vars5s enc (TT hk nu) (TT hk gl) (TT hk lQ) (TT hk sC) (TT hk E9) _, Fp.frame _, fun h => by cases h⟩
theorem over : Rows.fnFramesRow.holds Tryz.pinned (OpenSpec.ofChange Rows.fnFramesSpec) :=
 OpenClaim.holds_of_wide 3 Tryz.f3 rfl rfl rfl rfl rfl rfl rfl ⟨rfl, rfl, rfl, rfl, rfl⟩ rfl rfl rfl rfl rfl (by kernel_rfl) Tryz.func3 (by kernel_rfl)
  (of_decide_eq_true (by kernel_rfl)) (by unfold Func.isWrapper; first | (rw [if_pos (by decide +kernel)]; kernel_rfl) | (rw [if_neg (by decide +kernel)]; exact ⟨rfl, rfl⟩))
  (fun os started H enc _ => lifted os started H enc)
end Go.Proofs.YtapdfgkbhaoelaaGreatDoor.fnFrames
namespace Go.Proofs.YtapdfgkbhaoelaaGreatDoor
open Go
theorem fnFrames_proved : Rows.FnFramesCardSaid :=
 Claim7.holds_tied_plain_at .later [] [.sentinel, .sentinel, .sentinel, .sentinel, .sentinel] true Rows.fnFramesCard.stood.harness true
  fnFrames.over (fun _ h => by cases h) (by kernel_rfl) (fun _ h => by cases h) fnFrames_row_tie rfl ⟨rfl, rfl⟩ (by kernel_rfl) rfl
  (fun f fn hf yO => by
   obtain rfl : f = 3 := Option.some.inj ((show Tryz.prog.funcNamed "loop.example/s02544/laws.FnFrames" = some 3 by kernel_rfl).symm.trans hf) |>.symm;obtain rfl : fn = Tryz.f3 := (Option.some.inj (Tryz.func3.symm.trans yO)).symm
   exact ⟨by kernel_rfl, fun j t ht => by
    rw [Tryz.params3] at ht
    have h3 : t = 22 ∨ t = 22 := by
     rcases j with _ | j
     ·exact .inl (by simpa using ht.symm)
     ·rcases j with _ | j
      ·exact .inr (by simpa using ht.symm)
      ·simp at ht
    rcases h3 with rfl | rfl
    ·exact (show Tryz.prog.wantsStandIn 22 = false by kernel_rfl)
    ·exact (show Tryz.prog.wantsStandIn 22 = false by kernel_rfl)⟩)
  (by kernel_rfl)
#print axioms fnFrames_proved
end Go.Proofs.YtapdfgkbhaoelaaGreatDoor
