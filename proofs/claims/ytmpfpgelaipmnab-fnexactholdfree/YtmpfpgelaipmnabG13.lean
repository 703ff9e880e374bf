import Derived.Test.YtmpfpgelaipmnabG10
import Derived.Test.YtmpfpgelaipmnabTyMHoldS
import Derived.Test.YtmpfpgelaipmnabG00
import Derived.Test.YtmpfpgelaipmnabOpenF
import Derived.Deep.DeepCutAuto
namespace Go.Proofs.Ytmpfpgelaipmnab
set_option maxRecDepth 100000
set_option maxHeartbeats 16000000
open Go.RowKit
set_option linter.unusedVariables false
theorem holdFree_walk (x0 : FR) (s1 : Int) (w : World) (hv0 : RdF 3 w x0) (hB0 : ∀ v ∈ x0.bs, IsI v) :
    Calls Try.prog 3 #[x0.v, .int .i64 s1] w fun e w' => e = .returned (.bool true) ∧ Same w w' := by
  obtain ⟨p0e, p0a, p0n, p0c, p0b⟩ := x0
  have hm0 : p0n ≤ maxLen := hv0.1
  unfold maxLen at hm0
  have hl0 : p0b.length = p0n * 3 := hv0.2.1
  have HV0 := (show Hid (RdF 3 w ⟨p0e, p0a, p0n, p0c, p0b⟩) from hv0)
  clear hv0
  have HB0 := (show Hid (∀ v ∈ p0b, IsI v) from hB0)
  clear hB0
  dsimp only [FR.v]
  go_enter Try.func3, Try.ntmps3
  have HKw : Hid (Same w w) := Kept.refl _ _
  go_wp2_with fail
  refine (szHoldS_any _ p0n _ 1048576 _ (by omega) (by omega) (by unfold maxLen; omega)).mono ?_
  rintro e w1 ⟨sz0, rfl, hr, hww⟩
  have hk : Same w w1 := by rw [hww]; exact Kept.refl _ _
  clear hww
  have hkk : Same w w1 := hk
  have hzw1 := hkk.size
  have HKw1 := (show Hid (Same w w1) from HKw.out.trans hkk)
  clear hkk hk
  rcases hr with ⟨rfl, _⟩ | ⟨hr, hr0⟩
  · go_wp2
    go_ret
    exact ⟨rfl, HKw1.out⟩
  have hp0 : p0n ≤ 1048576 := by omega
  have hsb0 : sz0 ≤ 1048576 := by omega
  clear hr
  go_wp2_with fail
  refine (toHoldS_any ⟨p0e, p0a, p0n, p0c, p0b⟩ _ (by dsimp only; omega) (HV0.out.same HKw1.out)).mono ?_
  rintro e w2 ⟨⟨C0e, C0a, C0n, C0c, C0b⟩, rfl, hd, hn, hf, ho, hk⟩
  dsimp only at hd hn
  replace hd := hd.symm
  replace hn := hn.symm
  subst hd hn
  dsimp only [FR.v]
  have HFC0 := (show Hid (∀ b, FootL (FR.rows 3 ⟨C0e, C0a, p0n, C0c, p0b⟩) b → w1.heap.size ≤ b ∧ b < w2.heap.size) from fun b hb => ⟨hf b hb, ho.lt b hb⟩)
  have HC0w2 := (show Hid (OwnL w2 (FR.rows 3 ⟨C0e, C0a, p0n, C0c, p0b⟩)) from ho)
  clear hf ho
  have hkk : Same w1 w2 := hk
  have hzw2 := hkk.size
  have HKw2 := (show Hid (Same w w2) from HKw1.out.trans hkk)
  clear hkk hk
  go_wp2_with fail
  refine (specHoldFree_any ⟨C0e, C0a, p0n, C0c, p0b⟩ s1 _ (FR.own_rd HC0w2.out)).mono ?_
  rintro e w3 ⟨⟨We, Wa, Wn, Wc, Wb⟩, rfl, hd, hf, ho, hk⟩
  dsimp only at hd
  have hrl : (freeH (tri p0b) s1).length ≤ 16777216 := freeH_small hl0 hp0
  obtain ⟨r0, hR⟩ : ∃ r, freeH (tri p0b) s1 = r := ⟨_, rfl⟩
  have HR : Hid (freeH (tri p0b) s1 = r0) := hR
  rw [hR] at hrl
  clear hR
  rw [HR.out] at hd
  have hd := hd.symm
  subst hd
  dsimp only [FR.v]
  have hlW := FR.own_len ho
  dsimp only at hlW
  have HFW := (show Hid (∀ b, FootL (FR.rows 3 ⟨We, Wa, Wn, Wc, r0⟩) b → w2.heap.size ≤ b ∧ b < w3.heap.size) from fun b hb => ⟨hf b hb, ho.lt b hb⟩)
  have HWw3 := (show Hid (OwnL w3 (FR.rows 3 ⟨We, Wa, Wn, Wc, r0⟩)) from ho)
  clear hf ho
  have hkk : Same w2 w3 := hk
  have hzw3 := hkk.size
  have HC0w3 := (show Hid (OwnL w3 (FR.rows 3 ⟨C0e, C0a, p0n, C0c, p0b⟩)) from HC0w2.out.same hkk)
  have HKw3 := (show Hid (Same w w3) from HKw2.out.trans hkk)
  clear hkk hk
  go_wp2_with fail
  refine (toHoldS_any ⟨p0e, p0a, p0n, p0c, p0b⟩ _ (by dsimp only; omega) (HV0.out.same HKw3.out)).mono ?_
  rintro e w4 ⟨⟨X0e, X0a, X0n, X0c, X0b⟩, rfl, hd, hn, hf, ho, hk⟩
  dsimp only at hd hn
  replace hd := hd.symm
  replace hn := hn.symm
  subst hd hn
  dsimp only [FR.v]
  have HFX0 := (show Hid (∀ b, FootL (FR.rows 3 ⟨X0e, X0a, p0n, X0c, p0b⟩) b → w3.heap.size ≤ b ∧ b < w4.heap.size) from fun b hb => ⟨hf b hb, ho.lt b hb⟩)
  have HX0w4 := (show Hid (OwnL w4 (FR.rows 3 ⟨X0e, X0a, p0n, X0c, p0b⟩)) from ho)
  clear hf ho
  have hkk : Same w3 w4 := hk
  have hzw4 := hkk.size
  have HWw4 := (show Hid (OwnL w4 (FR.rows 3 ⟨We, Wa, Wn, Wc, r0⟩)) from HWw3.out.same hkk)
  have HKw4 := (show Hid (Same w w4) from HKw3.out.trans hkk)
  clear hkk hk
  go_wp2_with fail
  refine (implHoldFree_any ⟨X0e, X0a, p0n, X0c, p0b⟩ s1 _ (FR.own_rd HX0w4.out)).mono ?_
  rintro e w5 ⟨⟨Ge, Ga, Gn, Gc, Gb⟩, rfl, hd, hf, ho, hk⟩
  dsimp only at hd
  rw [HR.out] at hd
  have hd := hd.symm
  subst hd
  dsimp only [FR.v]
  have hlG := FR.own_len ho
  dsimp only at hlG
  have HFG := (show Hid (∀ b, FootL (FR.rows 3 ⟨Ge, Ga, Gn, Gc, r0⟩) b → w4.heap.size ≤ b ∧ b < w5.heap.size) from fun b hb => ⟨hf b hb, ho.lt b hb⟩)
  have HGw5 := (show Hid (OwnL w5 (FR.rows 3 ⟨Ge, Ga, Gn, Gc, r0⟩)) from ho)
  clear hf ho
  have hkk : Same w4 w5 := hk
  have hzw5 := hkk.size
  have HWw5 := (show Hid (OwnL w5 (FR.rows 3 ⟨We, Wa, Wn, Wc, r0⟩)) from HWw4.out.same hkk)
  have HX0w5 := (show Hid (OwnL w5 (FR.rows 3 ⟨X0e, X0a, p0n, X0c, p0b⟩)) from HX0w4.out.same hkk)
  have HKw5 := (show Hid (Same w w5) from HKw4.out.trans hkk)
  clear hkk hk
  go_wp2_with fail
  refine (eqHoldS_own ⟨Ge, Ga, Gn, Gc, r0⟩ ⟨We, Wa, Wn, Wc, r0⟩ _ (by dsimp only; omega) rfl HGw5.out HWw5.out).mono ?_
  rintro e w6 ⟨rfl, hk⟩
  have hkk : Same w5 w6 := hk
  have hzw6 := hkk.size
  have HWw6 := (show Hid (OwnL w6 (FR.rows 3 ⟨We, Wa, Wn, Wc, r0⟩)) from HWw5.out.same hkk)
  have HX0w6 := (show Hid (OwnL w6 (FR.rows 3 ⟨X0e, X0a, p0n, X0c, p0b⟩)) from HX0w5.out.same hkk)
  have HGw6 := (show Hid (OwnL w6 (FR.rows 3 ⟨Ge, Ga, Gn, Gc, r0⟩)) from HGw5.out.same hkk)
  have HKw6 := (show Hid (Same w w6) from HKw5.out.trans hkk)
  clear hkk hk
  go_wp2_with fail
  refine (toHoldS_any ⟨p0e, p0a, p0n, p0c, p0b⟩ _ (by dsimp only; omega) (HV0.out.same HKw6.out)).mono ?_
  rintro e w7 ⟨⟨D0e, D0a, D0n, D0c, D0b⟩, rfl, hd, hn, hf, ho, hk⟩
  dsimp only at hd hn
  replace hd := hd.symm
  replace hn := hn.symm
  subst hd hn
  dsimp only [FR.v]
  have HFD0 := (show Hid (∀ b, FootL (FR.rows 3 ⟨D0e, D0a, p0n, D0c, p0b⟩) b → w6.heap.size ≤ b ∧ b < w7.heap.size) from fun b hb => ⟨hf b hb, ho.lt b hb⟩)
  have HD0w7 := (show Hid (OwnL w7 (FR.rows 3 ⟨D0e, D0a, p0n, D0c, p0b⟩)) from ho)
  clear hf ho
  have hkk : Same w6 w7 := hk
  have hzw7 := hkk.size
  have HWw7 := (show Hid (OwnL w7 (FR.rows 3 ⟨We, Wa, Wn, Wc, r0⟩)) from HWw6.out.same hkk)
  have HX0w7 := (show Hid (OwnL w7 (FR.rows 3 ⟨X0e, X0a, p0n, X0c, p0b⟩)) from HX0w6.out.same hkk)
  have HGw7 := (show Hid (OwnL w7 (FR.rows 3 ⟨Ge, Ga, Gn, Gc, r0⟩)) from HGw6.out.same hkk)
  have HKw7 := (show Hid (Same w w7) from HKw6.out.trans hkk)
  clear hkk hk
  go_wp2_with fail
  refine (eqHoldS_own ⟨X0e, X0a, p0n, X0c, p0b⟩ ⟨D0e, D0a, p0n, D0c, p0b⟩ _ (by dsimp only; omega) rfl HX0w7.out HD0w7.out).mono ?_
  rintro e w8 ⟨rfl, hk⟩
  have hkk : Same w7 w8 := hk
  have hzw8 := hkk.size
  have HWw8 := (show Hid (OwnL w8 (FR.rows 3 ⟨We, Wa, Wn, Wc, r0⟩)) from HWw7.out.same hkk)
  have HX0w8 := (show Hid (OwnL w8 (FR.rows 3 ⟨X0e, X0a, p0n, X0c, p0b⟩)) from HX0w7.out.same hkk)
  have HGw8 := (show Hid (OwnL w8 (FR.rows 3 ⟨Ge, Ga, Gn, Gc, r0⟩)) from HGw7.out.same hkk)
  have HKw8 := (show Hid (Same w w8) from HKw7.out.trans hkk)
  clear hkk hk
  have hE0 : (0 : Int) ≤ 1 := by omega
  have hE0b : (1 : Int) ≤ 1 := by omega
  go_wp2_with fail
  refine (markHoldS_own ⟨X0e, X0a, p0n, X0c, p0b⟩ 1 _ (by omega) (by dsimp only; omega) HX0w8.out).mono ?_
  rintro e w9 ⟨rfl, _, hk⟩
  dsimp only
  obtain ⟨E1, hE⟩ : ∃ E : Int, 1 + (p0b.length : Int) = E := ⟨_, rfl⟩
  have hE1 : 0 ≤ E1 := by omega
  have hE1b : E1 ≤ 7000001 := by omega
  rw [hE]
  clear hE
  have hzw9 := hk.size
  have HWw9 := (show Hid (OwnL w9 (FR.rows 3 ⟨We, Wa, Wn, Wc, r0⟩)) from HWw8.out.kept hk (fun b hb e => by have h1 := HFX0.out _ e; have h2 := HFW.out b hb; omega))
  have HGw9 := (show Hid (OwnL w9 (FR.rows 3 ⟨Ge, Ga, Gn, Gc, r0⟩)) from HGw8.out.kept hk (fun b hb e => by have h1 := HFX0.out _ e; have h2 := HFG.out b hb; omega))
  have HKw9 := (show Hid (Same w w9) from HKw8.out.next hk (fun b hb e => by have h1 := HFX0.out _ e; omega))
  clear hk
  have hEn : ¬ E1 < 0 := by omega
  go_wp2_with fail
  refine (eqHoldS_own ⟨Ge, Ga, Gn, Gc, r0⟩ ⟨We, Wa, Wn, Wc, r0⟩ _ (by dsimp only; omega) rfl HGw9.out HWw9.out).mono ?_
  rintro e w10 ⟨rfl, hk⟩
  have hkk : Same w9 w10 := hk
  have hzw10 := hkk.size
  have HWw10 := (show Hid (OwnL w10 (FR.rows 3 ⟨We, Wa, Wn, Wc, r0⟩)) from HWw9.out.same hkk)
  have HGw10 := (show Hid (OwnL w10 (FR.rows 3 ⟨Ge, Ga, Gn, Gc, r0⟩)) from HGw9.out.same hkk)
  have HKw10 := (show Hid (Same w w10) from HKw9.out.trans hkk)
  clear hkk hk
  have hM2 : ¬ (1 + (r0.length : Int)) < 0 := by omega
  go_wp2_with fail
  refine (markHoldS_own ⟨Ge, Ga, Gn, Gc, r0⟩ 1 _ (by omega) (by dsimp only; omega) HGw10.out).mono ?_
  rintro e w11 ⟨rfl, ho, hk⟩
  dsimp only
  have hzw11 := hk.size
  have HWw11 := (show Hid (OwnL w11 (FR.rows 3 ⟨We, Wa, Wn, Wc, r0⟩)) from HWw10.out.kept hk (fun b hb e => by have h1 := HFG.out _ e; have h2 := HFW.out b hb; omega))
  have HKw11 := (show Hid (Same w w11) from HKw10.out.next hk (fun b hb e => by have h1 := HFG.out _ e; omega))
  have HUw11 := (show Hid (OwnL w11 (FR.rows 3 (FR.marked ⟨Ge, Ga, Gn, Gc, r0⟩ 1))) from ho)
  clear hk ho
  have HFU := (show Hid (∀ b, FootL (FR.rows 3 (FR.marked ⟨Ge, Ga, Gn, Gc, r0⟩ 1)) b → _ ∧ _) from fun b hb => HFG.out b ((FR.foot_marked 3 _ _ b).1 hb))
  go_wp2_with fail
  refine (heldHoldS_own ⟨Ge, Ga, Gn, Gc, r0⟩ 1 _ (by omega) (by dsimp only; omega) HUw11.out).mono ?_
  rintro e w12 ⟨rfl, hk⟩
  dsimp only
  have hkk : Same w11 w12 := hk
  have hzw12 := hkk.size
  have HWw12 := (show Hid (OwnL w12 (FR.rows 3 ⟨We, Wa, Wn, Wc, r0⟩)) from HWw11.out.same hkk)
  have HUw12 := (show Hid (OwnL w12 (FR.rows 3 (FR.marked ⟨Ge, Ga, Gn, Gc, r0⟩ 1))) from HUw11.out.same hkk)
  have HKw12 := (show Hid (Same w w12) from HKw11.out.trans hkk)
  clear hkk hk
  go_wp2_with fail
  refine (toHoldS_any ⟨p0e, p0a, p0n, p0c, p0b⟩ _ (by dsimp only; omega) (HV0.out.same HKw12.out)).mono ?_
  rintro e w13 ⟨⟨J0e, J0a, J0n, J0c, J0b⟩, rfl, hd, hn, hf, ho, hk⟩
  dsimp only at hd hn
  replace hd := hd.symm
  replace hn := hn.symm
  subst hd hn
  dsimp only [FR.v]
  have HFJ0 := (show Hid (∀ b, FootL (FR.rows 3 ⟨J0e, J0a, p0n, J0c, p0b⟩) b → w12.heap.size ≤ b ∧ b < w13.heap.size) from fun b hb => ⟨hf b hb, ho.lt b hb⟩)
  have HJ0w13 := (show Hid (OwnL w13 (FR.rows 3 ⟨J0e, J0a, p0n, J0c, p0b⟩)) from ho)
  clear hf ho
  have hkk : Same w12 w13 := hk
  have hzw13 := hkk.size
  have HWw13 := (show Hid (OwnL w13 (FR.rows 3 ⟨We, Wa, Wn, Wc, r0⟩)) from HWw12.out.same hkk)
  have HUw13 := (show Hid (OwnL w13 (FR.rows 3 (FR.marked ⟨Ge, Ga, Gn, Gc, r0⟩ 1))) from HUw12.out.same hkk)
  have HKw13 := (show Hid (Same w w13) from HKw12.out.trans hkk)
  clear hkk hk
  go_wp2_with fail
  refine (implHoldFree_any ⟨J0e, J0a, p0n, J0c, p0b⟩ s1 _ (FR.own_rd HJ0w13.out)).mono ?_
  rintro e w14 ⟨⟨Le, La, Ln, Lc, Lb⟩, rfl, hd, hf, ho, hk⟩
  dsimp only at hd
  rw [HR.out] at hd
  have hd := hd.symm
  subst hd
  dsimp only [FR.v]
  have hlL := FR.own_len ho
  dsimp only at hlL
  have HFL := (show Hid (∀ b, FootL (FR.rows 3 ⟨Le, La, Ln, Lc, r0⟩) b → w13.heap.size ≤ b ∧ b < w14.heap.size) from fun b hb => ⟨hf b hb, ho.lt b hb⟩)
  have HLw14 := (show Hid (OwnL w14 (FR.rows 3 ⟨Le, La, Ln, Lc, r0⟩)) from ho)
  clear hf ho
  have hkk : Same w13 w14 := hk
  have hzw14 := hkk.size
  have HWw14 := (show Hid (OwnL w14 (FR.rows 3 ⟨We, Wa, Wn, Wc, r0⟩)) from HWw13.out.same hkk)
  have HUw14 := (show Hid (OwnL w14 (FR.rows 3 (FR.marked ⟨Ge, Ga, Gn, Gc, r0⟩ 1))) from HUw13.out.same hkk)
  have HJ0w14 := (show Hid (OwnL w14 (FR.rows 3 ⟨J0e, J0a, p0n, J0c, p0b⟩)) from HJ0w13.out.same hkk)
  have HKw14 := (show Hid (Same w w14) from HKw13.out.trans hkk)
  clear hkk hk
  go_wp2_with fail
  refine (eqHoldS_own ⟨Le, La, Ln, Lc, r0⟩ ⟨We, Wa, Wn, Wc, r0⟩ _ (by dsimp only; omega) rfl HLw14.out HWw14.out).mono ?_
  rintro e w15 ⟨rfl, hk⟩
  have hkk : Same w14 w15 := hk
  have hzw15 := hkk.size
  have HWw15 := (show Hid (OwnL w15 (FR.rows 3 ⟨We, Wa, Wn, Wc, r0⟩)) from HWw14.out.same hkk)
  have HUw15 := (show Hid (OwnL w15 (FR.rows 3 (FR.marked ⟨Ge, Ga, Gn, Gc, r0⟩ 1))) from HUw14.out.same hkk)
  have HLw15 := (show Hid (OwnL w15 (FR.rows 3 ⟨Le, La, Ln, Lc, r0⟩)) from HLw14.out.same hkk)
  have HKw15 := (show Hid (Same w w15) from HKw14.out.trans hkk)
  clear hkk hk
  go_wp2_with fail
  refine (heldHoldS_own ⟨Ge, Ga, Gn, Gc, r0⟩ 1 _ (by omega) (by dsimp only; omega) HUw15.out).mono ?_
  rintro e w16 ⟨rfl, hk⟩
  dsimp only
  have hkk : Same w15 w16 := hk
  have hzw16 := hkk.size
  have HUw16 := (show Hid (OwnL w16 (FR.rows 3 (FR.marked ⟨Ge, Ga, Gn, Gc, r0⟩ 1))) from HUw15.out.same hkk)
  have HKw16 := (show Hid (Same w w16) from HKw15.out.trans hkk)
  clear hkk hk
  go_wp2
  go_ret
  exact ⟨rfl, HKw16.out⟩
end Go.Proofs.Ytmpfpgelaipmnab

namespace Go.Proofs.Ytmpfpgelaipmnab.fnExactHoldFree
open Go.ChangeShapes Go.WideShapes Go.ChangeAt Go.RowKit
set_option linter.unusedVariables false
theorem own : ownKnob Try.prog.godebug = none := by kernel_rfl
theorem laidOut : laidOutB Try.prog = true := by kernel_rfl
set_option maxRecDepth 100000 in
theorem lifted (os : Os) (started : os.Started) (H : Type) (enc : TypeId × Value → H) :
    ReturnsInHanded {} Try.checked os 3 .any (Rows.fnExactHoldFreeSpec.pre6 enc Try.prog Try.f3 Rows.fnExactHoldFreeRow.domain false) (Rows.fnExactHoldFreeSpec.post enc Try.prog Try.f3 false true false false) := by
  refine returnsInHanded_of_change (C := Try.checked) own started (by kernel_rfl) Try.func3
    (ChangeSpec.witness6 (enc := enc) (C := Try.checked) false ⟨#[], #[.slice none 0 0, .int .i64 0], []⟩ 8 (by kernel_rfl) (by kernel_rfl) (by kernel_rfl) (by kernel_rfl)) ?_
  intro W base args ds gs before hval0 hW hcnd _
  have hval : ∀ (j : Nat) t v, Try.f3.params[j]? = some t → args[j]? = some v → Value.okWide Try.prog W .any base t v := hval0
  have hW' := hW
  obtain ⟨p, q, hA0, hV, rfl, hfz, hnd⟩ := hW
  have hA : DataW.TrodAll enc Try.prog W 0 (fun _ => true) true Try.f3.params.toList args.toList ds p := hA0
  rw [Try.params3] at hA hval
  obtain ⟨v0, vs0, d0, ds0, p0, q0, hargs, rfl, rfl, h0, r0⟩ := trodAll_cons hA
  obtain ⟨v1, vs1, d1, ds1, p1, q1, rfl, rfl, rfl, h1, r1⟩ := trodAll_cons r0
  obtain ⟨rfl, rfl, rfl⟩ := trodAll_nil r1
  obtain rfl : args = #[v0, v1] := by cases args; simp_all
  obtain ⟨rfl, rfl⟩ := trodVars_none hV
  have k0 := h0
  have lt0 : ∀ x ∈ p0, x.block < W.heap.size := by obtain ⟨m, hm⟩ := k0; exact DataW.trod_lt m _ _ _ hm
  obtain ⟨x0, rfl, rd0, bd0⟩ := open_holdS (hval 0 22 v0 rfl rfl) h0
  obtain ⟨a1, rfl, rfl, rfl, w1⟩ := open_int Try.underlying2 (hval 1 2 v1 rfl rfl) h1
  clear hA0 hval0
  refine (holdFree_walk x0 a1 W rd0 bd0).mono fun e W' ⟨he, hk⟩ => ?_
  have bel : Below W.heap.size W W' := hk.below (Nat.le_refl _) (fun _ _ => id)
  subst he
  exact ⟨_, rfl, _, _, _, [], _, [], hW', trodAll_mk1 (shut_bool Try.underlying4 _), (trodAll_cons_mk (Below.trod laidOut (by kernel_rfl) (of_decide_eq_true (by kernel_rfl)) k0 bel lt0) (trodAll_cons_mk (shut_int Try.underlying2 w1) trodAll_mk0)), rfl, bel.frame _, fun h => by cases h⟩
theorem over : Rows.fnExactHoldFreeRow.holds Try.pinned (OpenSpec.ofChange Rows.fnExactHoldFreeSpec) :=
  OpenClaim.holds_of_wide 3 Try.f3 rfl rfl rfl rfl rfl rfl rfl ⟨rfl, rfl, rfl, rfl, rfl⟩ rfl rfl rfl rfl rfl (by kernel_rfl) Try.func3 (by kernel_rfl)
    (of_decide_eq_true (by kernel_rfl)) (by unfold Func.isWrapper; first | (rw [if_pos (by decide +kernel)]; kernel_rfl) | (rw [if_neg (by decide +kernel)]; exact ⟨rfl, rfl⟩))
    (fun os started H enc _ => lifted os started H enc)
end Go.Proofs.Ytmpfpgelaipmnab.fnExactHoldFree
namespace Go.Proofs.Ytmpfpgelaipmnab
theorem holdFree_proved : Rows.FnExactHoldFreeSaid := fnExactHoldFree.over
#print axioms holdFree_proved
end Go.Proofs.Ytmpfpgelaipmnab
