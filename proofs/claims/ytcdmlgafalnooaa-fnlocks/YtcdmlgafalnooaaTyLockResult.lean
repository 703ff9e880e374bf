/-
  LockResult of the laws (by tools/tygen.py).
-/
import Derived.Test.YtcdmlgafalnooaaOwnRows
import Derived.Test.YtcdmlgafalnooaaBlk
import Derived.Test.YtcdmlgafalnooaaBytes
import Derived.Test.YtcdmlgafalnooaaCopyB
import Derived.Test.YtcdmlgafalnooaaSzB
import Derived.Test.YtcdmlgafalnooaaTyLockS
import Derived.Deep.DeepCutAuto
namespace Go.Proofs.Ytcdmlgafalnooaa
set_option maxRecDepth 100000
set_option maxHeartbeats 4000000
open Go.RowKit
set_option linter.unusedVariables false
set_option linter.unusedSimpArgs false

structure StLockResult where
  code : Int
  locks : FR
def StLockResult.val (x : StLockResult) : Value := .agg #[.int .i64 x.code, x.locks.v]
def StLockResult.rows (x : StLockResult) : List Row := (x.locks).rows 3
def StLockResult.dat (x : StLockResult) : Int × List Int := (x.code, x.locks.bs)
def StLockResult.size (x : StLockResult) : Int := (x.locks.bs.length : Int)
theorem StLockResult.size_le (x : StLockResult) : 0 ≤ x.size := by
  unfold StLockResult.size
  omega
def StLockResult.marked (x : StLockResult) (k : Int) : StLockResult := ⟨x.code, x.locks.marked (k)⟩
theorem StLockResult.foot_marked (x : StLockResult) (k : Int) (b : Nat) : FootL (x.marked k).rows b ↔ FootL x.rows b := by
  exact FR.foot_marked 3 _ _ b
def StLockResult.rd (w : World) (x : StLockResult) : Prop := RdF 3 w x.locks
theorem StLockResult.rd.kept {R : Nat → Prop} {w w' : World} {x : StLockResult} (h : StLockResult.rd w x) (hk : Kept R w w') (hr : ∀ b, FootL x.rows b → ¬ R b) : StLockResult.rd w' x :=
  RdF.kept (h) hk (fun b hb => hr b (((FootL_one _ _).2 hb)))
theorem StLockResult.rd.same {w w' : World} {x : StLockResult} (h : StLockResult.rd w x) (hk : Same w w') : StLockResult.rd w' x := h.kept hk (fun _ _ => id)
theorem StLockResult.own_rd {w : World} {x : StLockResult} (h : OwnL w x.rows) : StLockResult.rd w x :=
  (FR.own_rd h)
def StLockResult.szs (x : StLockResult) : Int := (x.locks.n : Int)
theorem StLockResult.szs_le (x : StLockResult) : 0 ≤ x.szs := by
  unfold StLockResult.szs
  omega

theorem eqLockResult_own (x y : StLockResult) (w : World) (hn : x.size ≤ 1125899906842624) (hd : x.dat = y.dat) (ha : OwnL w x.rows) (hb : OwnL w y.rows) :
    Calls Try.prog 22 #[x.val, y.val] w fun e w' => e = .returned (.bool true) ∧ Same w w' := by
  obtain ⟨xcode, ⟨xlocks_e, xlocks_a, xlocks_n, xlocks_c, xlocks_b⟩⟩ := x
  obtain ⟨ycode, ⟨ylocks_e, ylocks_a, ylocks_n, ylocks_c, ylocks_b⟩⟩ := y
  simp only [StLockResult.dat, Prod.mk.injEq] at hd
  obtain ⟨rfl, rfl⟩ := hd
  simp only [StLockResult.size] at hn
  have Hx0 := (show Hid (OwnL w [⟨xlocks_e, 3, .slice xlocks_a xlocks_n xlocks_c, xlocks_n, vals .i64 xlocks_b⟩]) from ha)
  have Hy0 := (show Hid (OwnL w [⟨ylocks_e, 3, .slice ylocks_a ylocks_n ylocks_c, ylocks_n, vals .i64 xlocks_b⟩]) from hb)
  clear ha hb
  dsimp only [StLockResult.val, BS.v, FR.v]
  go_enter Try.func22, Try.ntmps22
  have hk0 : Same w ((w.alloc (.cells #[.int .i64 xcode, .slice xlocks_a xlocks_n xlocks_c] 27)).alloc (.cells #[.int .i64 xcode, .slice ylocks_a ylocks_n ylocks_c] 27)) := ((Kept.refl _ _).alloc _).alloc _
  have HK0 := (show Hid (Same w _) from hk0)
  obtain ⟨_, HBx0, HBy0⟩ := new2 w [.int .i64 xcode, .slice xlocks_a xlocks_n xlocks_c] 27 [.int .i64 xcode, .slice ylocks_a ylocks_n ylocks_c] 27
  clear hk0
  go_wp2_with fail
  refine (eqLockS_own ⟨xlocks_e, xlocks_a, xlocks_n, xlocks_c, xlocks_b⟩ ⟨ylocks_e, ylocks_a, ylocks_n, ylocks_c, xlocks_b⟩ _ (by dsimp only; omega) rfl (Hx0.out.same HK0.out) (Hy0.out.same HK0.out)).mono ?_
  rintro e w1 ⟨rfl, hk⟩
  have HK1 := (show Hid (Same w w1) from HK0.out.trans hk)
  have HBx1 := hid (HBx0.out.same hk)
  have HBy1 := hid (HBy0.out.same hk)
  clear hk HK0 HBx0 HBy0
  go_wp2
  go_ret
  exact ⟨rfl, HK1.out⟩
end Go.Proofs.Ytcdmlgafalnooaa
