/-
  spec.HoldFree.
-/
import Derived.Test.YtagcefbnhpkdiabHoldSpec
import Derived.Test.YtagcefbnhpkdiabApp3
import Derived.Test.YtagcefbnhpkdiabTyHoldS
namespace Go.Proofs.Ytagcefbnhpkdiab
set_option maxRecDepth 100000
set_option maxHeartbeats 4000000
open Go.RowKit
set_option linter.unusedVariables false
set_option linter.unusedSimpArgs false

def freeH (hs : List T3) (txn : Int) : List Int := if holdsF hs = 0 then flat3 (hs.filter (fun l => decide (l.2.1 ≠ txn))) else []
theorem freeH_small {bs : List Int} {n : Nat} {txn : Int} (hl : bs.length = n * 3) (hp : n ≤ 1048576) : (freeH (tri bs) txn).length ≤ 16777216 := by
  unfold freeH
  split
  · rw [flat3_length]
    have h1 := List.length_filter_le (fun l : T3 => decide (l.2.1 ≠ txn)) (tri bs)
    have h2 := tri_length n bs hl
    omega
  · simp

theorem specHoldFree_any (x : FR) (txn : Int) (w : World) (hv : RdF 3 w x) :
    Calls Try.prog 9 #[x.v, .int .i64 txn] w fun e w' => ∃ y : FR, e = .returned y.v ∧ y.bs = freeH (tri x.bs) txn ∧ (∀ b, FootL (FR.rows 3 y) b → w.heap.size ≤ b) ∧ OwnL w' (FR.rows 3 y) ∧ Same w w' := by
  obtain ⟨i0, hi, hz0, hz1, hz2⟩ := info_parts Try.infoHold
  have k0 := specHoldsFault_any x _ (hv.same ((Kept.refl _ _).alloc (.cells #[] 53)))
  obtain ⟨xe, xa, n, xc, bs⟩ := x
  have hm : n ≤ maxLen := hv.1
  unfold maxLen at hm
  have hl := tri_length n bs hv.2.1
  dsimp only [FR.v] at k0 ⊢
  have HV := hid hv
  clear hv
  obtain ⟨R, hR⟩ : ∃ R, freeH (tri bs) txn = R := ⟨_, rfl⟩
  rw [hR]
  unfold freeH at hR
  obtain ⟨q, hq⟩ : ∃ q, holdsF (tri bs) = q := ⟨_, rfl⟩
  rw [hq] at hR k0
  have HKe0 := hid (sameA w [] 53)
  have HOe0 := hid (ownF_none 53 w)
  by_cases h0 : q = 0
  · subst h0
    have hn := holdsF_len hq
    rw [if_pos rfl] at hR
    have HR := hid hR
    have HL := hid hl
    rw [hl] at hn
    clear hR hl hq
    go_enter Try.func9, Try.ntmps9
    go_wp2_with fail
    refine k0.mono ?_
    rintro e w1 ⟨rfl, hk1⟩
    have HK1 := hid (HKe0.out.trans hk1)
    have HOe := hid (HOe0.out.same hk1)
    clear hk1
    go_wp2_with fail
    go_loopw [5, 6] (fun o i wr => ∃ (k g m c : Nat) (ys : List Int), k ≤ n ∧ m ≤ k ∧ o = .slice (some ⟨g, 0, none⟩) m c ∧ i = .int .i64 k ∧ w.heap.size ≤ g ∧ Hid (OwnF 3 53 wr g m c ys) ∧ Hid (ys = flat3 (((tri bs).take k).filter (fun l => decide (l.2.1 ≠ txn)))) ∧ Hid (Same w wr)) (fun _ i _ => n - (intOf i).toNat)
    case atStart => exact ⟨0, w.heap.size, 0, 0, [], Nat.zero_le _, Nat.zero_le _, rfl, rfl, Nat.le_refl _, HOe, by simp [Hid, flat3], HK1⟩
    case round =>
      obtain ⟨k, g, m, c, ys, hk, hmk, rfl, rfl, hg, HO, HY, HK⟩ := hrel
      by_cases hlt : k < n
      · obtain ⟨b, off, ha, hc⟩ := HV.out.some (show 0 < n by omega)
        dsimp only at ha hc
        subst ha
        have hla : k < (tri bs).length := by rw [HL.out]; omega
        obtain ⟨⟨x, y, z⟩, hxa⟩ : ∃ q, (tri bs)[k] = q := ⟨_, rfl⟩
        have HXa := hid hxa
        obtain ⟨da0, da1, da2⟩ := (HV.out.same HK.out).tri k hla _ _ _ hxa
        clear hxa
        by_cases h2 : y = txn
        · subst h2
          go_wp2
          go_roundw
          case rel => exact ⟨k + 1, g, m, c, ys, by omega, by omega, rfl, by go_num, hg, HO, by unfold Hid; rw [List.take_succ_eq_append_getElem hla, List.filter_append, HXa.out, HY.out]; simp, HK⟩
          case measure => simp [intOf]; omega
        · have e2 : (y != txn) = true := by simp [h2]
          have HKO5 := (show Hid ((wr.alloc (.cells #[.int .i64 x, .int .i64 y, .int .i64 z] 53)).ownsRow 0 53 3 (.slice (some ⟨g, 0, none⟩) m c) m (vals .i64 ys)) from HO.out.same ((Kept.refl _ _).alloc _))
          have HN5 := (show Hid (Blk (wr.alloc (.cells #[.int .i64 x, .int .i64 y, .int .i64 z] 53)) wr.heap.size 53 [.int .i64 x, .int .i64 y, .int .i64 z]) from Blk.newL wr [.int .i64 x, .int .i64 y, .int .i64 z] 53)
          have hgl := HO.out.lt
          go_wp2_with (at_builtin; go_loud (refine wpList_append_lies _ rfl (.tmp 25) (.tmp 30) 24 rfl 0 53 i0 _ 3 24 Try.underlying24 hi hz0 hz1 hz2 rfl (by omega) (.slice (some ⟨g, 0, none⟩) m c) m (vals .i64 ys) rfl (by exact HKO5.out) ⟨wr.heap.size, 0, none⟩ 1 1 [.int .i64 x, .int .i64 y, .int .i64 z] rfl rfl (World.news_of_block (cs := #[.int .i64 x, .int .i64 y, .int .i64 z]) (t := 53) (fr := (0, 0)) (by exact HN5.out)) (by simp [Value.oneCell']) (by omega) (by unfold maxLen; omega) (by omega) (Nat.zero_le _) (wr.heap.size + 1) (by simp) ?_); intro g5 cap5 w5 hown5 hgrow5 hat5 hlt5; have HO5 := (show Hid (OwnF 3 53 w5 g5 (m + 1) cap5 (ys ++ [x, y, z])) from OwnF.of_app3 hown5); have HG5 := (show Hid ((wr.alloc (.cells #[.int .i64 x, .int .i64 y, .int .i64 z] 53)).grownBy w5 (Value.slice (some ⟨g, 0, none⟩) m c).ownBlock) from hgrow5); have HAT5 : Hid ((Value.slice (some ⟨g, 0, none⟩) m c).ownBlock = some g5 ∨ g5 = wr.heap.size + 1) := hat5; clear hown5 hgrow5 hat5)
          have hg5 : w.heap.size ≤ g5 := by
            rcases HAT5.out with h | h
            · have : g = g5 := by simpa [Value.ownBlock] using h
              omega
            · have := HK.out.size; omega
          have HK5 := hid (Same.app HK.out HG5.out (by omega))
          go_roundw
          case rel => exact ⟨k + 1, g5, m + 1, cap5, ys ++ [x, y, z], by omega, by omega, rfl, by go_num, hg5, HO5, by unfold Hid; rw [List.take_succ_eq_append_getElem hla, List.filter_append, HXa.out, HY.out, show List.filter (fun l : T3 => decide (l.2.1 ≠ txn)) [(x, y, z)] = [(x, y, z)] from by simp [h2], flat3_snoc], HK5⟩
          case measure => simp [intOf]; omega
      · obtain rfl : k = n := by omega
        have h := HY.out
        rw [← HL.out, List.take_length] at h
        go_wp2
        go_ret
        exact ⟨⟨53, some ⟨g, 0, none⟩, m, c, ys⟩, rfl, by rw [← HR.out, ← h], fun b hb => by have := FootL_fr hb; omega, HO.out.out, HK.out⟩
  · rw [if_neg h0] at hR
    subst hR
    clear hl hq
    go_enter Try.func9, Try.ntmps9
    go_wp2_with fail
    refine k0.mono ?_
    rintro e w1 ⟨rfl, hk1⟩
    have HK1 := hid (HKe0.out.trans hk1)
    have HOe := hid (HOe0.out.same hk1)
    clear hk1
    go_wp2
    go_ret
    exact ⟨⟨53, some ⟨w.heap.size, 0, none⟩, 0, 0, []⟩, rfl, rfl, fun b hb => by have := FootL_fr hb; omega, HOe.out.out, HK1.out⟩
end Go.Proofs.Ytagcefbnhpkdiab
