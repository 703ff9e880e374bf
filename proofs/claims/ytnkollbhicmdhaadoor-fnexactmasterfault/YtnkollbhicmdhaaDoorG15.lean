import Derived.Test.YtnkollbhicmdhaaDoorG01
import Derived.Test.YtnkollbhicmdhaaDoorG00
import Derived.Test.YtnkollbhicmdhaaDoorOpenMaster
import Derived.Test.YtnkollbhicmdhaaDoorCards
import Derived.Test.YtnkollbhicmdhaaDoorTie
import Derived.ChangeSame
import Derived.ChangeVars
import Derived.JoinedOf
import Derived.RowKit
import Derived.RowKitTokens
import Derived.Stop.Joined
import Derived.SevenTiedAt
namespace Go.Proofs.YtnkollbhicmdhaaDoor
set_option maxRecDepth 100000
set_option maxHeartbeats 2000000
open Go.RowKit
set_option linter.unusedVariables false
set_option linter.unusedSimpArgs false
theorem masterFault_law (s e c l : Int) (a0 a1 a2 : Addr) (w : World) (hE : ErrsD w a0 a1 a2) : Calls Tryd.prog 6 #[.agg #[.int .i64 s, .int .i64 e, .int .i64 c, .int .i64 l]] w fun ex w' => ex = .returned (.bool true) ∧ Same w w' := by
  have HE := (show Hid (ErrsD w a0 a1 a2) from hE)
  clear hE
  have HK0 := hid (sameA w [.int .i64 s, .int .i64 e, .int .i64 c, .int .i64 l] 48)
  have b0 := Blk.new w #[.int .i64 s, .int .i64 e, .int .i64 c, .int .i64 l] 48
  go_enter Tryd.func6, Tryd.ntmps6
  go_wp2_with fail
  refine (toMaster_any s e c l _).mono ?_
  rintro ex w1 ⟨rfl, hk1⟩
  go_wp2_with fail
  refine (specMF_any s e c l _).mono ?_
  rintro ex w2 ⟨rfl, hk2⟩
  have HK2 := (show Hid (Same w w2) from (HK0.out.trans hk1).trans hk2)
  have b2 := (b0.same hk1).same hk2
  obtain ⟨d0, d1, d2, d3⟩ := b2.all4
  go_wp2_with fail
  refine (toMaster_any s e c l _).mono ?_
  rintro ex w3 ⟨rfl, hk3⟩
  go_wp2_with fail
  refine (implMF_any s e c l a0 a1 a2 _ (HE.out.same (HK2.out.trans hk3))).mono ?_
  rintro ex w4 ⟨rfl, hk4⟩
  go_wp2
  go_ret
  exact ⟨rfl, (HK2.out.trans hk3).trans hk4⟩
end Go.Proofs.YtnkollbhicmdhaaDoor

namespace Go.Proofs.YtnkollbhicmdhaaDoor.fnExactMasterFault
open Go.ChangeShapes Go.WideShapes Go.ChangeAt Go.RowKit
set_option linter.unusedVariables false
theorem own : ownKnob Tryd.prog.godebug = none := by kernel_rfl
theorem laidOut : laidOutB Tryd.prog = true := by kernel_rfl
set_option maxRecDepth 100000 in
theorem lifted (os : Os) (started : os.Started) (H : Type) (enc : TypeId × Value → H) :
    ReturnsInHanded {} Tryd.checked os 6 .any (fun w args => (Rows.fnExactMasterFaultSpec.pre enc Tryd.prog Tryd.f6 [] false w args ∧ laidMetH Tryd.prog [L0, L1, L2] w) ∧ sizedMet enc Tryd.prog Tryd.f6 (OpenSpec.ofChange Rows.fnExactMasterFaultSpec) false w args)
      (Rows.fnExactMasterFaultSpec.post enc Tryd.prog Tryd.f6 false true false false) := by
  refine returnsInHanded_of_change_and (C := Tryd.checked) (X := fun w _ => laidMetH Tryd.prog [L0, L1, L2] w) (fun _ _ _ hh h => h.of_heap hh) own started (by kernel_rfl) Tryd.func6
    (ChangeSpec.witness_at (enc := enc) (C := Tryd.checked) (os := os) (X := fun w _ => laidMetH Tryd.prog [L0, L1, L2] w) false (laidOn (World.holding Tryd.prog os ⟨laidOnObj, #[], []⟩) (World.holding Tryd.prog default ⟨#[], #[], []⟩).heap.size) #[.agg #[.int .i64 0, .int .i64 0, .int .i64 0, .int .i64 0]] 8 rfl (by kernel_rfl) (by kernel_rfl) (by kernel_rfl) (by kernel_rfl) (by kernel_rfl) (laid_met3 os _)) ?_
  intro W base args ds gs before hval0 hW _ _ hL _
  have hval : ∀ (j : Nat) t v, Tryd.f6.params[j]? = some t → args[j]? = some v → Value.okWide Tryd.prog W .any base t v := hval0
  have hW' := hW
  obtain ⟨p, q, hA0, hV0, rfl, hfz, hnd⟩ := hW
  have hA : DataW.TrodAll enc Tryd.prog W 0 (fun _ => true) true Tryd.f6.params.toList args.toList ds p := hA0
  have hL' : laidMet Tryd.prog [L0, L1, L2] W := hL
  obtain ⟨a0, a1, a2, hv0, hv1, hv2, hE⟩ := laid3 hL'
  have hV : DataW.TrodVars enc Tryd.prog W (fun _ => true) [L0.1, L1.1, L2.1] gs q := hV0
  obtain ⟨rfl, rfl⟩ := hV.unique (vars3 enc hv0 hv1 hv2 _)
  rw [Tryd.params6] at hA hval
  obtain ⟨v0, vs0, d0, ds0, p0, q0, hargs, rfl, rfl, h0, r0⟩ := trodAll_cons hA
  obtain ⟨rfl, rfl, rfl⟩ := trodAll_nil r0
  obtain rfl : args = #[v0] := by cases args; simp_all
  have k0 := h0
  have lt0 : ∀ x ∈ p0, x.block < W.heap.size := by obtain ⟨m, hm⟩ := k0; exact DataW.trod_lt m _ _ _ hm
  obtain ⟨s, e, c, l, rfl⟩ := open_master (hval 0 48 v0 rfl rfl) h0
  clear hA0 hval0
  refine (masterFault_law s e c l a0 a1 a2 W (hE) ).mono fun ex W' ⟨he, hk⟩ => ?_
  have bel : Below W.heap.size W W' := hk.below (Nat.le_refl _) (fun _ _ => id)
  subst he
  exact ⟨_, rfl, _, _, _, [], _, _, hW', trodAll_mk1 (shut_bool Tryd.underlying4 _), (trodAll_cons_mk (Below.trod laidOut (by kernel_rfl) (of_decide_eq_true (by kernel_rfl)) k0 bel lt0) trodAll_mk0), vars3 enc (var_same hk hv0) (var_same hk hv1) (var_same hk hv2) _, bel.frame _, fun h => by cases h⟩
theorem over : Rows.fnExactMasterFaultRow.holds Tryd.pinned (OpenSpec.ofChange Rows.fnExactMasterFaultSpec) :=
  OpenClaim.holds_of_wide 6 Tryd.f6 rfl rfl rfl rfl rfl rfl rfl ⟨rfl, rfl, rfl, rfl, rfl⟩ rfl rfl rfl rfl rfl (by kernel_rfl) Tryd.func6 (by kernel_rfl)
    (of_decide_eq_true (by kernel_rfl)) (by unfold Func.isWrapper; first | (rw [if_pos (by decide +kernel)]; kernel_rfl) | (rw [if_neg (by decide +kernel)]; exact ⟨rfl, rfl⟩))
    (fun os started H enc _ => lifted os started H enc)
end Go.Proofs.YtnkollbhicmdhaaDoor.fnExactMasterFault
namespace Go.Proofs.YtnkollbhicmdhaaDoor
open Go
theorem masterFault_proved : Rows.FnExactMasterFaultCardSaid :=
  Claim7.holds_tied_plain_at .later [] [.sentinel, .sentinel, .sentinel] true Rows.fnExactMasterFaultCard.stood.harness true
    fnExactMasterFault.over (fun _ h => by cases h) (by kernel_rfl) (fun _ h => by cases h) fnExactMasterFault_row_tie rfl ⟨rfl, rfl⟩ (by kernel_rfl) rfl
    (fun f fn hf hfn => by
      obtain rfl : f = 6 := Option.some.inj ((show Tryd.prog.funcNamed "loop.example/s02544/laws.FnExactMasterFault" = some 6 by kernel_rfl).symm.trans hf) |>.symm
      obtain rfl : fn = Tryd.f6 := (Option.some.inj (Tryd.func6.symm.trans hfn)).symm
      exact ⟨by kernel_rfl, fun j t ht => by
        rw [Tryd.params6] at ht
        have h3 : t = 48 := by
          rcases j with _ | j
          · exact by simpa using ht.symm
          · simp at ht
        rcases h3 with rfl
        · exact (show Tryd.prog.wantsStandIn 48 = false by kernel_rfl)⟩)
    (by kernel_rfl)
#print axioms masterFault_proved
end Go.Proofs.YtnkollbhicmdhaaDoor
