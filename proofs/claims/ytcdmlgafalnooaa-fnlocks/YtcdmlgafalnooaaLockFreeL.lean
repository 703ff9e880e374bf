/-
  impl.LockFree.
-/
import Derived.Test.YtcdmlgafalnooaaLockList
import Derived.Test.YtcdmlgafalnooaaLockModeL
import Derived.Test.YtcdmlgafalnooaaLockMath
import Derived.Test.YtcdmlgafalnooaaTyMLockS
namespace Go.Proofs.Ytcdmlgafalnooaa
set_option maxRecDepth 100000
set_option maxHeartbeats 4000000
open Go Go.RowKit Go.MapKept
set_option linter.unusedVariables false
set_option linter.unusedSimpArgs false

theorem implLockFree_any (x : FR) (txn : Int) (w : World) (hv : RdF 3 w x) :
    Calls Try.prog 10 #[x.v, .int .i64 txn] w fun e w' => ∃ y : StLockResult, e = .returned y.val ∧ y.dat = freeP (tri x.bs) txn ∧ (∀ b, FootL y.rows b → w.heap.size ≤ b) ∧ OwnL w' y.rows ∧ Same w w' := by
  have HK0 := hid (sameA w [.int .i64 0, .slice none 0 0] 27)
  have b0 := Blk.newL w [.int .i64 0, .slice none 0 0] 27
  have k1 := implLocksFault_any x _ (hv.same HK0.out)
  have k2 := fun wx (h : Same w wx) (hr : (tri x.bs).Pairwise ltK) => openLocks_any x wx (hv.same h) hr
  obtain ⟨xe, xa, n, xc, bs⟩ := x
  dsimp only [FR.v] at k1 k2 ⊢
  clear hv
  obtain ⟨R, hR⟩ : ∃ R, freeP (tri bs) txn = R := ⟨_, rfl⟩
  rw [hR]
  unfold freeP at hR
  by_cases hf : locksF (tri bs) = 0
  · have HG := hid ((goodL_iff _).1 hf)
    rw [if_pos hf] at hR
    rw [hf] at k1
    have HR := hid hR
    clear hR
    go_enter Try.func10, Try.ntmps10
    go_wp2_with fail
    refine k1.mono ?_
    rintro e w1 ⟨rfl, hk1⟩
    have HK1 := hid (HK0.out.trans hk1)
    have HB1 := hid (b0.same hk1)
    have hs1 : w.heap.size + 1 ≤ w1.heap.size := by have h := hk1.size; rw [World.size_alloc] at h; omega
    clear hk1 b0 k1
    go_wp2_with fail
    refine (k2 _ HK1.out HG.out.rise).mono ?_
    rintro e w2 ⟨rfl, tt, ⟨ck, htab⟩, hperm, hk2, hfull⟩
    have HK2 := hid (HK1.out.trans hk2)
    have HB2 := hid (HB1.out.same hk2)
    have k3 := free8_any _ _ _ _ _ txn htab
    have HP := hid hperm
    have HU := hid hfull
    clear k2 hk2 htab hperm hfull HB1 HK1
    go_wp2_with fail
    refine k3.mono ?_
    rintro e w3 ⟨rfl, tt', ⟨ck', htab⟩, hperm, hk3, hfull⟩
    have HK3 := (show Hid (Same w w3) from HK2.out.next hk3 (fun i hi hb => by omega))
    have HB3 := hid (HB2.out.kept hk3 (fun hb => by omega))
    have hs3 := HK3.out.size
    have hl3 := HB3.out.lt
    have k4 := list8_any w3 _ _ _ tt' ((tri bs).filter (notB txn)) htab (hperm.trans (HP.out.filter _)) (HG.out.rise.sublist List.filter_sublist) (hfull HU.out) (by have h1 := List.length_filter_le (notB txn) (tri bs); have h2 := HG.out.len; omega)
      (fun l hl => by have h := HG.out.fine l (List.mem_filter.1 hl).1; unfold IsI; omega)
    clear k3 hk3 htab hperm hfull HB2 HK2 HP HU
    go_wp2_with fail
    refine k4.mono ?_
    rintro e w4 ⟨⟨ye, ya, yn, yc, ybs⟩, rfl, hyb, hyf, hyo, hk4⟩
    have HK4 := hid (HK3.out.trans hk4)
    have HB4 := hid (HB3.out.same hk4)
    have HYB := hid hyb
    have HYF := hid hyf
    have HYO := hid hyo
    clear k4 hk4 hyb hyf hyo HB3 HK3
    dsimp only [FR.v]
    obtain ⟨r0, r1⟩ := HB4.out.all2
    have fr := HB4.out.frozen
    have lr := HB4.out.lt
    go_wp2
    refine bodyPost_ret (v := .agg #[.int .i64 0, .slice ya yn yc]) (by simp [results, Try.results10, go_sem, r0, r1]) rfl ⟨⟨0, ⟨ye, ya, yn, yc, ybs⟩⟩, rfl, ?_, ?_, ?_, ?_⟩
    · rw [← HR.out]
      have h := HYB.out
      show ((0 : Int), ybs) = _
      rw [h]
      rfl
    · intro b hb
      have := HYF.out b hb
      omega
    · refine HYO.out.kept (R := fun b => b = w.heap.size) ?_ (fun b hb e => by have := HYF.out b hb; omega)
      (iterate 2 refine Kept.setCell (R := fun b => b = w.heap.size) ?_ (.inr rfl) _)
      exact Kept.refl _ _
    · (iterate 2 refine Kept.setCell ?_ (.inl (Nat.le_refl _)) _)
      exact HK4.out
  · rw [if_neg hf] at hR
    subst hR
    clear k2
    generalize locksF (tri bs) = F at hf k1
    go_enter Try.func10, Try.ntmps10
    go_wp2_with fail
    refine k1.mono ?_
    rintro e w1 ⟨rfl, hk1⟩
    have HK1 := hid (HK0.out.trans hk1)
    have HB1 := hid (b0.same hk1)
    clear hk1 b0 k1
    obtain ⟨r0, r1⟩ := HB1.out.all2
    have fr := HB1.out.frozen
    have lr := HB1.out.lt
    go_wp2
    refine bodyPost_ret (v := .agg #[.int .i64 2, .slice none 0 0]) (by simp [results, Try.results10, go_sem, r0, r1]) rfl ⟨⟨2, ⟨51, none, 0, 0, []⟩⟩, rfl, rfl, ?_, ?_, ?_⟩
    · intro b hb
      have h := (FootL_one _ _).1 hb
      simp [FR.v, Value.ownBlock] at h
    · exact FR.own_nil _
    · (iterate 2 refine Kept.setCell ?_ (.inl (Nat.le_refl _)) _)
      exact HK1.out
end Go.Proofs.Ytcdmlgafalnooaa
