/-
  impl.LockMode, impl.LockOthers.
-/
import Derived.Test.YtcdmlgafalnooaaLockOps
import Derived.Test.YtcdmlgafalnooaaTyMLockS
namespace Go.Proofs.Ytcdmlgafalnooaa
set_option maxRecDepth 100000
set_option maxHeartbeats 4000000
open Go Go.RowKit Go.MapKept
set_option linter.unusedVariables false
set_option linter.unusedSimpArgs false

theorem implLockMode_any (x : FR) (txn id : Int) (w : World) (hv : RdF 3 w x) :
    Calls Try.prog 15 #[x.v, .int .i64 txn, .int .i64 id] w fun e w' => e = .returned (.int .i64 (modeP (tri x.bs) txn id)) ∧ Same w w' := by
  have k1 := implLocksFault_any x w hv
  have k2 := fun wx (h : Same w wx) (hr : (tri x.bs).Pairwise ltK) => openLocks_any x wx (hv.same h) hr
  have k3 := fun wx b0 B ck tt (h : Tab wx b0 B tt ck) (hp : (cont tt).Perm (tri x.bs)) (hr : (tri x.bs).Pairwise ltK) => mode8_any wx b0 B ck tt (tri x.bs) txn id h hp hr
  obtain ⟨xe, xa, n, xc, bs⟩ := x
  dsimp only [FR.v] at k1 k2 k3 ⊢
  clear hv
  unfold modeP
  by_cases hf : locksF (tri bs) = 0
  · have HR := hid ((goodL_iff _).1 hf).rise
    rw [if_pos hf]
    rw [hf] at k1
    generalize modeFrom txn id (tri bs) = R at k3 ⊢
    go_enter Try.func15, Try.ntmps15
    go_wp2_with fail
    refine k1.mono ?_
    rintro e w1 ⟨rfl, hk1⟩
    have HK1 := hid hk1
    clear k1 hk1
    go_wp2_with fail
    refine (k2 _ HK1.out HR.out).mono ?_
    rintro e w2 ⟨rfl, tt, ⟨ck, htab⟩, hperm, hk2, _⟩
    have HK2 := hid (HK1.out.trans hk2)
    have k4 := k3 _ _ _ _ _ htab hperm HR.out
    clear k2 k3 hk2 htab hperm
    go_wp2_with fail
    refine k4.mono ?_
    rintro e w3 ⟨rfl, rfl⟩
    clear k4
    go_wp2
    go_ret
    exact ⟨rfl, HK2.out⟩
  · rw [if_neg hf]
    clear k2 k3
    generalize locksF (tri bs) = F at hf k1
    go_enter Try.func15, Try.ntmps15
    go_wp2_with fail
    refine k1.mono ?_
    rintro e w1 ⟨rfl, hk1⟩
    have HK1 := hid hk1
    clear k1 hk1
    go_wp2
    go_ret
    exact ⟨rfl, HK1.out⟩

theorem implLockOthers_any (x : FR) (txn id : Int) (w : World) (hv : RdF 3 w x) :
    Calls Try.prog 12 #[x.v, .int .i64 txn, .int .i64 id] w fun e w' => e = .returned (.int .i64 (othersP (tri x.bs) txn id)) ∧ Same w w' := by
  have k1 := implLocksFault_any x w hv
  have k2 := fun wx (h : Same w wx) (hr : (tri x.bs).Pairwise ltK) => openLocks_any x wx (hv.same h) hr
  have k3 := fun wx b0 B ck tt (h : Tab wx b0 B tt ck) (hp : (cont tt).Perm (tri x.bs)) (hg : ∀ l ∈ tri x.bs, 1 ≤ l.2.2) => others8_any wx b0 B ck tt (tri x.bs) txn id h hp hg
  obtain ⟨xe, xa, n, xc, bs⟩ := x
  dsimp only [FR.v] at k1 k2 k3 ⊢
  clear hv
  unfold othersP
  by_cases hf : locksF (tri bs) = 0
  · have HR := hid ((goodL_iff _).1 hf).rise
    have HG := (show Hid (∀ l ∈ tri bs, 1 ≤ l.2.2) from fun l hl => (((goodL_iff _).1 hf).fine l hl).2.2.1)
    rw [if_pos hf]
    rw [hf] at k1
    generalize othersFrom txn id 0 (tri bs) = R at k3 ⊢
    go_enter Try.func12, Try.ntmps12
    go_wp2_with fail
    refine k1.mono ?_
    rintro e w1 ⟨rfl, hk1⟩
    have HK1 := hid hk1
    clear k1 hk1
    go_wp2_with fail
    refine (k2 _ HK1.out HR.out).mono ?_
    rintro e w2 ⟨rfl, tt, ⟨ck, htab⟩, hperm, hk2, _⟩
    have HK2 := hid (HK1.out.trans hk2)
    have k4 := k3 _ _ _ _ _ htab hperm HG.out
    clear k2 k3 hk2 htab hperm
    go_wp2_with fail
    refine k4.mono ?_
    rintro e w3 ⟨rfl, hk3⟩
    have HK3 := hid (HK2.out.trans hk3)
    clear k4 hk3
    go_wp2
    go_ret
    exact ⟨rfl, HK3.out⟩
  · rw [if_neg hf]
    clear k2 k3
    generalize locksF (tri bs) = F at hf k1
    go_enter Try.func12, Try.ntmps12
    go_wp2_with fail
    refine k1.mono ?_
    rintro e w1 ⟨rfl, hk1⟩
    have HK1 := hid hk1
    clear k1 hk1
    go_wp2
    go_ret
    exact ⟨rfl, HK1.out⟩
end Go.Proofs.Ytcdmlgafalnooaa
