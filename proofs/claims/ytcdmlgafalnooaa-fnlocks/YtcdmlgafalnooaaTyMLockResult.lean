/-
  LockResult of the laws: marks (by tools/tygen.py).
-/
import Derived.Test.YtcdmlgafalnooaaTyLockResult
import Derived.Test.YtcdmlgafalnooaaTyMLockS
namespace Go.Proofs.Ytcdmlgafalnooaa
set_option maxRecDepth 100000
set_option maxHeartbeats 4000000
open Go.RowKit
set_option linter.unusedVariables false
set_option linter.unusedSimpArgs false


theorem markLockResult_own (x : StLockResult) (k0 : Int) (w : World) (h0 : 0 ≤ k0) (h1 : k0 + x.size ≤ 1125899906842624) (ha : OwnL w x.rows) :
    Calls Try.prog 24 #[x.val, .int .i64 k0] w fun e w' => e = .returned (.int .i64 (k0 + x.size)) ∧ OwnL w' (x.marked k0).rows ∧ Kept (FootL x.rows) w w' := by
  have hlt := ha.lt
  have HLT := (show Hid (∀ b, FootL x.rows b → b < w.heap.size) from hlt)
  have HA := (show Hid (OwnL w x.rows) from ha)
  clear hlt
  obtain ⟨xcode, ⟨xlocks_e, xlocks_a, xlocks_n, xlocks_c, xlocks_b⟩⟩ := x
  have HO0_0 := (show Hid (OwnL w [⟨xlocks_e, 3, .slice xlocks_a xlocks_n xlocks_c, xlocks_n, vals .i64 xlocks_b⟩]) from ha)
  clear ha
  simp only [StLockResult.size] at h1
  dsimp only [StLockResult.val, BS.v, FR.v]
  go_enter Try.func24, Try.ntmps24
  have HK_0 := (show Hid (Kept (FootL (StLockResult.rows ⟨xcode, ⟨xlocks_e, xlocks_a, xlocks_n, xlocks_c, xlocks_b⟩⟩)) w (w.alloc (.cells #[.int .i64 xcode, .slice xlocks_a xlocks_n xlocks_c] 27))) from (Kept.refl _ _).alloc _)
  have HB_0 := hid (Blk.newL w [.int .i64 xcode, .slice xlocks_a xlocks_n xlocks_c] 27)
  go_wp2_with fail
  refine (markLockS_own ⟨xlocks_e, xlocks_a, xlocks_n, xlocks_c, xlocks_b⟩ (k0) _ (by omega) (by dsimp only; omega) (HO0_0.out.same ((Kept.refl _ _).alloc _))).mono ?_
  rintro e w1 ⟨rfl, ho, hk⟩
  have HB_1 := (show Hid (Blk w1 w.heap.size 27 [.int .i64 xcode, .slice xlocks_a xlocks_n xlocks_c]) from HB_0.out.kept hk (fun e => by have := HLT.out _ (e); omega))
  have HK_1 := (show Hid (Kept (FootL (StLockResult.rows ⟨xcode, ⟨xlocks_e, xlocks_a, xlocks_n, xlocks_c, xlocks_b⟩⟩)) w w1) from HK_0.out.next hk (fun b _ e => e))
  have HO0_1 := (show Hid (OwnL w1 (FR.rows 3 (FR.marked ⟨xlocks_e, xlocks_a, xlocks_n, xlocks_c, xlocks_b⟩ (k0)))) from ho)
  clear ho hk HB_0 HK_0 HO0_0
  go_wp2
  go_ret
  refine ⟨rfl, ?_, HK_1.out⟩
  exact HO0_1.out

theorem heldLockResult_own (x : StLockResult) (k0 : Int) (w : World) (h0 : 0 ≤ k0) (h1 : k0 + x.size ≤ 1125899906842624) (ha : OwnL w (x.marked k0).rows) :
    Calls Try.prog 25 #[x.val, .int .i64 k0] w fun e w' => e = .returned (.int .i64 (k0 + x.size)) ∧ Same w w' := by
  obtain ⟨xcode, ⟨xlocks_e, xlocks_a, xlocks_n, xlocks_c, xlocks_b⟩⟩ := x
  have HO0 := (show Hid (OwnL w (FR.rows 3 (FR.marked ⟨xlocks_e, xlocks_a, xlocks_n, xlocks_c, xlocks_b⟩ (k0)))) from ha)
  clear ha
  simp only [StLockResult.size] at h1
  dsimp only [StLockResult.val, BS.v, FR.v]
  go_enter Try.func25, Try.ntmps25
  obtain ⟨HK0, HB0⟩ := new1 w [.int .i64 xcode, .slice xlocks_a xlocks_n xlocks_c] 27
  have hneg0 : ¬ (k0 + (xlocks_b.length : Int)) < 0 := by omega
  go_wp2_with fail
  refine (heldLockS_own ⟨xlocks_e, xlocks_a, xlocks_n, xlocks_c, xlocks_b⟩ (k0) _ (by omega) (by dsimp only; omega) (HO0.out.same HK0.out)).mono ?_
  rintro e w1 ⟨rfl, hk⟩
  have HK1 := (show Hid (Same w w1) from HK0.out.trans hk)
  have HB1 := hid (HB0.out.same hk)
  clear hk
  go_wp2
  go_ret
  exact ⟨rfl, HK1.out⟩
end Go.Proofs.Ytcdmlgafalnooaa
