import Derived.Test.YtnkollbhicmdhaaDoorG04
import Derived.Test.YtnkollbhicmdhaaDoorG00
import Derived.Test.YtnkollbhicmdhaaDoorOpenMaster
import Derived.Test.YtnkollbhicmdhaaDoorG01
import Derived.Test.YtnkollbhicmdhaaDoorCards
import Derived.Test.YtnkollbhicmdhaaDoorTie
import Derived.ChangeSame
import Derived.ChangeVars
import Derived.JoinedOf
import Derived.RowKit
import Derived.RowKitTokens
import Derived.Stop.Joined
import Derived.SevenTiedAt
namespace Go.Proofs.YtnkollbhicmdhaaDoor
set_option maxRecDepth 100000
set_option maxHeartbeats 4000000
open Go.RowKit
set_option linter.unusedVariables false
set_option linter.unusedSimpArgs false
theorem encodeMaster_law (s e c l : Int) (a0 a1 a2 : Addr) (w : World) (hE : Errs w a0 a1 a2) : Calls Tryd.prog 5 #[.agg #[.int .i64 s, .int .i64 e, .int .i64 c, .int .i64 l]] w fun ex w' => ex = .returned (.bool true) ∧ Same w w' := by
  have HE := (show Hid (Errs w a0 a1 a2) from hE)
  clear hE
  have HK0 := hid (sameA w [.int .i64 s, .int .i64 e, .int .i64 c, .int .i64 l] 48)
  have b0 := Blk.new w #[.int .i64 s, .int .i64 e, .int .i64 c, .int .i64 l] 48
  have hl := encM_length s e c l
  go_enter Tryd.func5, Tryd.ntmps5
  go_wp2_with fail
  refine (toMaster_any s e c l _).mono ?_
  rintro ex w1 ⟨rfl, hk⟩
  have HK1 := (show Hid (Same w w1) from HK0.out.trans hk)
  have b1 := b0.same hk
  clear hk HK0 b0
  go_wp2_with fail
  refine (specEM_any s e c l _).mono ?_
  rintro ex w2 ⟨aW, cW, rfl, hf, ho, hk⟩
  obtain ⟨r0, hR⟩ : ∃ r, encM s e c l = r := ⟨_, rfl⟩
  have HR : Hid (encM s e c l = r0) := hR
  rw [hR] at hf ho hl ⊢
  clear hR
  have HK2 := (show Hid (Same w w2) from HK1.out.trans hk)
  have b2 := b1.same hk
  have HW := (show Hid (Own 0 5 .u8 w2 (.slice aW r0.length cW) r0) from ho)
  have HFW := (show Hid (∀ b, (Value.slice aW r0.length cW).ownBlock = some b → b < w2.heap.size) from fun b hb => (ho.lt b hb).2)
  clear hk HK1 b1 hf ho
  obtain ⟨d0, d1, d2, d3⟩ := b2.all4
  go_wp2_with fail
  refine (toMaster_any s e c l _).mono ?_
  rintro ex w3 ⟨rfl, hk⟩
  have HK3 := (show Hid (Same w w3) from HK2.out.trans hk)
  have b3 := b2.same hk
  have HW3 := (show Hid (Own 0 5 .u8 w3 (.slice aW r0.length cW) r0) from HW.out.same hk)
  have hz3 := hk.size
  clear hk HK2 b2 HW d0 d1 d2 d3
  go_wp2_with fail
  refine (implEM_any s e c l a0 a1 a2 _ (HE.out.same HK3.out)).mono ?_
  rintro ex w4 ⟨aG, cG, rfl, hf, ho, hk⟩
  rw [HR.out] at hf ho ⊢
  have HK4 := (show Hid (Same w w4) from HK3.out.trans hk)
  have b4 := b3.same hk
  have hlt := b3.lt
  have HW4 := (show Hid (Own 0 5 .u8 w4 (.slice aW r0.length cW) r0) from HW3.out.same hk)
  have HG4 := (show Hid (Own 0 94 .u8 w4 (.slice aG r0.length cG) r0) from ho)
  have HFG := (show Hid (∀ b, (Value.slice aG r0.length cG).ownBlock = some b → w2.heap.size ≤ b ∧ w.heap.size < b) from fun b hb => by have := hf b hb; omega)
  clear hk HK3 b3 HW3 hf ho
  go_wp2_with fail
  refine (eqByteS_own 0 _ _ r0 _ (by omega) HG4.out HW4.out).mono ?_
  rintro ex w5 ⟨rfl, nn, hww⟩
  have hk : Same w4 w5 := by rw [hww]; exact (Kept.refl _ _).drewN _
  clear hww
  have HK5 := (show Hid (Same w w5) from HK4.out.trans hk)
  have b5 := b4.same hk
  have HW5 := (show Hid (Own 0 5 .u8 w5 (.slice aW r0.length cW) r0) from HW4.out.same hk)
  have HG5 := hid (HG4.out.same hk)
  clear hk HK4 b4 HW4 HG4
  go_wp2_with fail
  refine (markByteS_own 0 _ r0 1 _ (by omega) (by omega) (by omega) HG5.out).mono ?_
  rintro ex w6 ⟨rfl, ho, hk⟩
  have HK6 := (show Hid (Same w w6) from HK5.out.next hk (fun b hb e => by have := HFG.out _ e; omega))
  have b6 := b5.kept hk (fun e => by have := HFG.out _ e; omega)
  have HW6 := (show Hid (Own 0 5 .u8 w6 (.slice aW r0.length cW) r0) from HW5.out.kept hk (fun b hb e => by have h1 := HFG.out _ e; have h2 := HFW.out _ hb; omega))
  have HG6 := (show Hid (Own 0 94 .u8 w6 (.slice aG r0.length cG) (marks 1 r0.length)) from ho)
  clear hk HK5 b5 HW5 HG5 ho
  go_wp2_with fail
  refine (heldByteS_own 0 _ r0.length 1 _ (by omega) (by omega) (by omega) HG6.out).mono ?_
  rintro ex w7 ⟨rfl, rfl⟩
  obtain ⟨d0, d1, d2, d3⟩ := b6.all4
  go_wp2_with fail
  refine (toMaster_any s e c l _).mono ?_
  rintro ex w8 ⟨rfl, hk⟩
  have HK8 := (show Hid (Same w w8) from HK6.out.trans hk)
  have HW8 := (show Hid (Own 0 5 .u8 w8 (.slice aW r0.length cW) r0) from HW6.out.same hk)
  have HG8 := hid (HG6.out.same hk)
  clear hk HK6 b6 HW6 HG6 d0 d1 d2 d3
  go_wp2_with fail
  refine (implEM_any s e c l a0 a1 a2 _ (HE.out.same HK8.out)).mono ?_
  rintro ex w9 ⟨aH, cH, rfl, hf, ho, hk⟩
  rw [HR.out] at hf ho ⊢
  have HK9 := (show Hid (Same w w9) from HK8.out.trans hk)
  have HW9 := (show Hid (Own 0 5 .u8 w9 (.slice aW r0.length cW) r0) from HW8.out.same hk)
  have HG9 := hid (HG8.out.same hk)
  have HH9 := (show Hid (Own 0 94 .u8 w9 (.slice aH r0.length cH) r0) from ho)
  clear hk HK8 HW8 HG8 hf ho
  go_wp2_with fail
  refine (eqByteS_own 0 _ _ r0 _ (by omega) HH9.out HW9.out).mono ?_
  rintro ex w10 ⟨rfl, nn, hww⟩
  have hk : Same w9 w10 := by rw [hww]; exact (Kept.refl _ _).drewN _
  clear hww
  have HK10 := (show Hid (Same w w10) from HK9.out.trans hk)
  have HG10 := hid (HG9.out.same hk)
  clear hk HK9 HW9 HG9 HH9
  go_wp2_with fail
  refine (heldByteS_own 0 _ r0.length 1 _ (by omega) (by omega) (by omega) HG10.out).mono ?_
  rintro ex w11 ⟨rfl, rfl⟩
  go_wp2
  go_ret
  exact ⟨rfl, HK10.out⟩
end Go.Proofs.YtnkollbhicmdhaaDoor

namespace Go.Proofs.YtnkollbhicmdhaaDoor.fnExactEncodeMaster
open Go.ChangeShapes Go.WideShapes Go.ChangeAt Go.RowKit
set_option linter.unusedVariables false
theorem own : ownKnob Tryd.prog.godebug = none := by kernel_rfl
theorem laidOut : laidOutB Tryd.prog = true := by kernel_rfl
set_option maxRecDepth 100000 in
theorem lifted (os : Os) (started : os.Started) (H : Type) (enc : TypeId × Value → H) :
    ReturnsInHanded {} Tryd.checked os 5 .any (fun w args => (Rows.fnExactEncodeMasterSpec.pre enc Tryd.prog Tryd.f5 [] false w args ∧ laidMetH Tryd.prog [L0, L1, L2] w) ∧ sizedMet enc Tryd.prog Tryd.f5 (OpenSpec.ofChange Rows.fnExactEncodeMasterSpec) false w args)
      (Rows.fnExactEncodeMasterSpec.post enc Tryd.prog Tryd.f5 false true false false) := by
  refine returnsInHanded_of_change_and (C := Tryd.checked) (X := fun w _ => laidMetH Tryd.prog [L0, L1, L2] w) (fun _ _ _ hh h => h.of_heap hh) own started (by kernel_rfl) Tryd.func5
    (ChangeSpec.witness_at (enc := enc) (C := Tryd.checked) (os := os) (X := fun w _ => laidMetH Tryd.prog [L0, L1, L2] w) false (laidOn (World.holding Tryd.prog os ⟨laidOnObj, #[], []⟩) (World.holding Tryd.prog default ⟨#[], #[], []⟩).heap.size) #[.agg #[.int .i64 0, .int .i64 0, .int .i64 0, .int .i64 0]] 8 rfl (by kernel_rfl) (by kernel_rfl) (by kernel_rfl) (by kernel_rfl) (by kernel_rfl) (laid_met3 os _)) ?_
  intro W base args ds gs before hval0 hW _ _ hL _
  have hval : ∀ (j : Nat) t v, Tryd.f5.params[j]? = some t → args[j]? = some v → Value.okWide Tryd.prog W .any base t v := hval0
  have hW' := hW
  obtain ⟨p, q, hA0, hV0, rfl, hfz, hnd⟩ := hW
  have hA : DataW.TrodAll enc Tryd.prog W 0 (fun _ => true) true Tryd.f5.params.toList args.toList ds p := hA0
  have hL' : laidMet Tryd.prog [L0, L1, L2] W := hL
  obtain ⟨a0, a1, a2, hv0, hv1, hv2, hE⟩ := laid3 hL'
  have hV : DataW.TrodVars enc Tryd.prog W (fun _ => true) [L0.1, L1.1, L2.1] gs q := hV0
  obtain ⟨rfl, rfl⟩ := hV.unique (vars3 enc hv0 hv1 hv2 _)
  rw [Tryd.params5] at hA hval
  obtain ⟨v0, vs0, d0, ds0, p0, q0, hargs, rfl, rfl, h0, r0⟩ := trodAll_cons hA
  obtain ⟨rfl, rfl, rfl⟩ := trodAll_nil r0
  obtain rfl : args = #[v0] := by cases args; simp_all
  have k0 := h0
  have lt0 : ∀ x ∈ p0, x.block < W.heap.size := by obtain ⟨m, hm⟩ := k0; exact DataW.trod_lt m _ _ _ hm
  obtain ⟨s, e, c, l, rfl⟩ := open_master (hval 0 48 v0 rfl rfl) h0
  clear hA0 hval0
  refine (encodeMaster_law s e c l a0 a1 a2 W (hE.errs) ).mono fun ex W' ⟨he, hk⟩ => ?_
  have bel : Below W.heap.size W W' := hk.below (Nat.le_refl _) (fun _ _ => id)
  subst he
  exact ⟨_, rfl, _, _, _, [], _, _, hW', trodAll_mk1 (shut_bool Tryd.underlying4 _), (trodAll_cons_mk (Below.trod laidOut (by kernel_rfl) (of_decide_eq_true (by kernel_rfl)) k0 bel lt0) trodAll_mk0), vars3 enc (var_same hk hv0) (var_same hk hv1) (var_same hk hv2) _, bel.frame _, fun h => by cases h⟩
theorem over : Rows.fnExactEncodeMasterRow.holds Tryd.pinned (OpenSpec.ofChange Rows.fnExactEncodeMasterSpec) :=
  OpenClaim.holds_of_wide 5 Tryd.f5 rfl rfl rfl rfl rfl rfl rfl ⟨rfl, rfl, rfl, rfl, rfl⟩ rfl rfl rfl rfl rfl (by kernel_rfl) Tryd.func5 (by kernel_rfl)
    (of_decide_eq_true (by kernel_rfl)) (by unfold Func.isWrapper; first | (rw [if_pos (by decide +kernel)]; kernel_rfl) | (rw [if_neg (by decide +kernel)]; exact ⟨rfl, rfl⟩))
    (fun os started H enc _ => lifted os started H enc)
end Go.Proofs.YtnkollbhicmdhaaDoor.fnExactEncodeMaster
namespace Go.Proofs.YtnkollbhicmdhaaDoor
open Go
theorem encodeMaster_proved : Rows.FnExactEncodeMasterCardSaid :=
  Claim7.holds_tied_plain_at .later [] [.sentinel, .sentinel, .sentinel] true Rows.fnExactEncodeMasterCard.stood.harness true
    fnExactEncodeMaster.over (fun _ h => by cases h) (by kernel_rfl) (fun _ h => by cases h) fnExactEncodeMaster_row_tie rfl ⟨rfl, rfl⟩ (by kernel_rfl) rfl
    (fun f fn hf hfn => by
      obtain rfl : f = 5 := Option.some.inj ((show Tryd.prog.funcNamed "loop.example/s02544/laws.FnExactEncodeMaster" = some 5 by kernel_rfl).symm.trans hf) |>.symm
      obtain rfl : fn = Tryd.f5 := (Option.some.inj (Tryd.func5.symm.trans hfn)).symm
      exact ⟨by kernel_rfl, fun j t ht => by
        rw [Tryd.params5] at ht
        have h3 : t = 48 := by
          rcases j with _ | j
          · exact by simpa using ht.symm
          · simp at ht
        rcases h3 with rfl
        · exact (show Tryd.prog.wantsStandIn 48 = false by kernel_rfl)⟩)
    (by kernel_rfl)
#print axioms encodeMaster_proved
end Go.Proofs.YtnkollbhicmdhaaDoor
