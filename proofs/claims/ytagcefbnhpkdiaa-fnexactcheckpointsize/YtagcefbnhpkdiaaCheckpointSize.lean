/-
  The law over CheckpointSize (by tools/lawgen.py).
-/
import Derived.Test.YtagcefbnhpkdiaaLedgerL
import Derived.Deep.DeepCutAuto
namespace Go.Proofs.Ytagcefbnhpkdiaa
set_option maxRecDepth 100000
set_option maxHeartbeats 16000000
open Go.RowKit
set_option linter.unusedVariables false

theorem ckSize_law (s0 : Int) (w : World)  :
    Calls Try.prog 5 #[.int .i64 s0] w fun e w' => e = .returned (.bool true) ∧ Same w w' := by
  go_enter Try.func5, Try.ntmps5
  have HKw : Hid (Same w w) := Kept.refl _ _
  go_wp2_with fail
  refine (specCkSize_any s0 _ ).mono ?_
  rintro e w1 ⟨rfl, hk⟩
  obtain ⟨r0, hR⟩ : ∃ r, ckSize s0 = r := ⟨_, rfl⟩
  have HR : Hid (ckSize s0 = r0) := hR
  clear hR
  rw [HR.out]
  have hkk : Same w w1 := hk
  have hzw1 := hkk.size
  have HKw1 := (show Hid (Same w w1) from HKw.out.trans hkk)
  clear hkk hk
  go_wp2_with fail
  refine (implCkSize_any s0 _ ).mono ?_
  rintro e w2 ⟨rfl, hk⟩
  rw [HR.out]
  have hkk : Same w1 w2 := hk
  have hzw2 := hkk.size
  have HKw2 := (show Hid (Same w w2) from HKw1.out.trans hkk)
  clear hkk hk
  go_wp2
  go_ret
  exact ⟨rfl, HKw2.out⟩
end Go.Proofs.Ytagcefbnhpkdiaa
