/-
  The law over HoldsFault (by tools/lawgen.py).
-/
import Derived.Test.YtagcefbnhpkdiaaHoldN
import Derived.Test.YtagcefbnhpkdiaaTyMHoldS
import Derived.Deep.DeepCutAuto
namespace Go.Proofs.Ytagcefbnhpkdiaa
set_option maxRecDepth 100000
set_option maxHeartbeats 16000000
open Go.RowKit
set_option linter.unusedVariables false

theorem holdsFault_walk (x0 : FR) (w : World) (hv0 : RdF 3 w x0) (hB0 : ∀ v ∈ x0.bs, IsI v) :
    Calls Try.prog 7 #[x0.v] w fun e w' => e = .returned (.bool true) ∧ Same w w' := by
  obtain ⟨p0e, p0a, p0n, p0c, p0b⟩ := x0
  have hm0 : p0n ≤ maxLen := hv0.1
  unfold maxLen at hm0
  have hl0 : p0b.length = p0n * 3 := hv0.2.1
  have HV0 := (show Hid (RdF 3 w ⟨p0e, p0a, p0n, p0c, p0b⟩) from hv0)
  clear hv0
  have HB0 := (show Hid (∀ v ∈ p0b, IsI v) from hB0)
  clear hB0
  dsimp only [FR.v]
  go_enter Try.func7, Try.ntmps7
  have HKw : Hid (Same w w) := Kept.refl _ _
  go_wp2_with fail
  refine (szHoldS_any _ p0n _ 1048576 _ (by omega) (by omega) (by unfold maxLen; omega)).mono ?_
  rintro e w1 ⟨sz0, rfl, hr, hww⟩
  have hk : Same w w1 := by rw [hww]; exact Kept.refl _ _
  clear hww
  have hkk : Same w w1 := hk
  have hzw1 := hkk.size
  have HKw1 := (show Hid (Same w w1) from HKw.out.trans hkk)
  clear hkk hk
  rcases hr with ⟨rfl, _⟩ | ⟨hr, hr0⟩
  · go_wp2
    go_ret
    exact ⟨rfl, HKw1.out⟩
  have hp0 : p0n ≤ 1048576 := by omega
  have hsb0 : sz0 ≤ 1048576 := by omega
  clear hr
  go_wp2_with fail
  refine (toHoldS_any ⟨p0e, p0a, p0n, p0c, p0b⟩ _ (by dsimp only; omega) (HV0.out.same HKw1.out)).mono ?_
  rintro e w2 ⟨⟨C0e, C0a, C0n, C0c, C0b⟩, rfl, hd, hn, hf, ho, hk⟩
  dsimp only at hd hn
  replace hd := hd.symm
  replace hn := hn.symm
  subst hd hn
  dsimp only [FR.v]
  have HFC0 := (show Hid (∀ b, FootL (FR.rows 3 ⟨C0e, C0a, p0n, C0c, p0b⟩) b → w1.heap.size ≤ b ∧ b < w2.heap.size) from fun b hb => ⟨hf b hb, ho.lt b hb⟩)
  have HC0w2 := (show Hid (OwnL w2 (FR.rows 3 ⟨C0e, C0a, p0n, C0c, p0b⟩)) from ho)
  clear hf ho
  have hkk : Same w1 w2 := hk
  have hzw2 := hkk.size
  have HKw2 := (show Hid (Same w w2) from HKw1.out.trans hkk)
  clear hkk hk
  go_wp2_with fail
  refine (specHoldsFault_any ⟨C0e, C0a, p0n, C0c, p0b⟩ _ (FR.own_rd HC0w2.out)).mono ?_
  rintro e w3 ⟨rfl, hk⟩
  try dsimp only
  obtain ⟨r0, hR⟩ : ∃ r, holdsF (tri p0b) = r := ⟨_, rfl⟩
  have HR : Hid (holdsF (tri p0b) = r0) := hR
  clear hR
  rw [HR.out]
  have hkk : Same w2 w3 := hk
  have hzw3 := hkk.size
  have HC0w3 := (show Hid (OwnL w3 (FR.rows 3 ⟨C0e, C0a, p0n, C0c, p0b⟩)) from HC0w2.out.same hkk)
  have HKw3 := (show Hid (Same w w3) from HKw2.out.trans hkk)
  clear hkk hk
  go_wp2_with fail
  refine (toHoldS_any ⟨p0e, p0a, p0n, p0c, p0b⟩ _ (by dsimp only; omega) (HV0.out.same HKw3.out)).mono ?_
  rintro e w4 ⟨⟨X0e, X0a, X0n, X0c, X0b⟩, rfl, hd, hn, hf, ho, hk⟩
  dsimp only at hd hn
  replace hd := hd.symm
  replace hn := hn.symm
  subst hd hn
  dsimp only [FR.v]
  have HFX0 := (show Hid (∀ b, FootL (FR.rows 3 ⟨X0e, X0a, p0n, X0c, p0b⟩) b → w3.heap.size ≤ b ∧ b < w4.heap.size) from fun b hb => ⟨hf b hb, ho.lt b hb⟩)
  have HX0w4 := (show Hid (OwnL w4 (FR.rows 3 ⟨X0e, X0a, p0n, X0c, p0b⟩)) from ho)
  clear hf ho
  have hkk : Same w3 w4 := hk
  have hzw4 := hkk.size
  have HKw4 := (show Hid (Same w w4) from HKw3.out.trans hkk)
  clear hkk hk
  go_wp2_with fail
  refine (implHoldsFault_any ⟨X0e, X0a, p0n, X0c, p0b⟩ _ (FR.own_rd HX0w4.out)).mono ?_
  rintro e w5 ⟨rfl, hk⟩
  try dsimp only
  rw [HR.out]
  have hkk : Same w4 w5 := hk
  have hzw5 := hkk.size
  have HX0w5 := (show Hid (OwnL w5 (FR.rows 3 ⟨X0e, X0a, p0n, X0c, p0b⟩)) from HX0w4.out.same hkk)
  have HKw5 := (show Hid (Same w w5) from HKw4.out.trans hkk)
  clear hkk hk
  go_wp2_with fail
  refine (toHoldS_any ⟨p0e, p0a, p0n, p0c, p0b⟩ _ (by dsimp only; omega) (HV0.out.same HKw5.out)).mono ?_
  rintro e w6 ⟨⟨D0e, D0a, D0n, D0c, D0b⟩, rfl, hd, hn, hf, ho, hk⟩
  dsimp only at hd hn
  replace hd := hd.symm
  replace hn := hn.symm
  subst hd hn
  dsimp only [FR.v]
  have HFD0 := (show Hid (∀ b, FootL (FR.rows 3 ⟨D0e, D0a, p0n, D0c, p0b⟩) b → w5.heap.size ≤ b ∧ b < w6.heap.size) from fun b hb => ⟨hf b hb, ho.lt b hb⟩)
  have HD0w6 := (show Hid (OwnL w6 (FR.rows 3 ⟨D0e, D0a, p0n, D0c, p0b⟩)) from ho)
  clear hf ho
  have hkk : Same w5 w6 := hk
  have hzw6 := hkk.size
  have HX0w6 := (show Hid (OwnL w6 (FR.rows 3 ⟨X0e, X0a, p0n, X0c, p0b⟩)) from HX0w5.out.same hkk)
  have HKw6 := (show Hid (Same w w6) from HKw5.out.trans hkk)
  clear hkk hk
  go_wp2_with fail
  refine (eqHoldS_own ⟨X0e, X0a, p0n, X0c, p0b⟩ ⟨D0e, D0a, p0n, D0c, p0b⟩ _ (by dsimp only; omega) rfl HX0w6.out HD0w6.out).mono ?_
  rintro e w7 ⟨rfl, hk⟩
  have hkk : Same w6 w7 := hk
  have hzw7 := hkk.size
  have HX0w7 := (show Hid (OwnL w7 (FR.rows 3 ⟨X0e, X0a, p0n, X0c, p0b⟩)) from HX0w6.out.same hkk)
  have HKw7 := (show Hid (Same w w7) from HKw6.out.trans hkk)
  clear hkk hk
  go_wp2
  go_ret
  exact ⟨rfl, HKw7.out⟩
end Go.Proofs.Ytagcefbnhpkdiaa
