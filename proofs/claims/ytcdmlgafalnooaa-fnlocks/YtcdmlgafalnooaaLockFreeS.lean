/-
  spec.LockFree (by tools/gen/lockfree.py).
-/
import Derived.Test.YtcdmlgafalnooaaLockGet
import Derived.Test.YtcdmlgafalnooaaApp3
import Derived.Test.YtcdmlgafalnooaaTyLockResult
namespace Go.Proofs.Ytcdmlgafalnooaa
set_option maxRecDepth 100000
set_option maxHeartbeats 4000000
open Go.RowKit
set_option linter.unusedVariables false
set_option linter.unusedSimpArgs false

def freeP (ls : List T3) (txn : Int) : Int × List Int := if locksF ls = 0 then (0, flat3 (ls.filter (fun l => decide (l.2.1 ≠ txn)))) else (2, [])

theorem specLockFree_any (x : FR) (txn : Int) (w : World) (hv : RdF 3 w x) :
    Calls Try.prog 26 #[x.v, .int .i64 txn] w fun e w' => ∃ y : StLockResult, e = .returned y.val ∧ y.dat = freeP (tri x.bs) txn ∧ (∀ b, FootL y.rows b → w.heap.size ≤ b) ∧ OwnL w' y.rows ∧ Same w w' := by
  obtain ⟨i0, hi, hz0, hz1, hz2⟩ := info_parts Try.infoLock
  have HK0 := hid (sameA w [.int .i64 0, .slice none 0 0] 27)
  have b0 := Blk.newL w [.int .i64 0, .slice none 0 0] 27
  have k0 := specLocksFault_any x _ (hv.same HK0.out)
  obtain ⟨xe, xa, n, xc, bs⟩ := x
  have hm : n ≤ maxLen := hv.1
  unfold maxLen at hm
  have hl := tri_length n bs hv.2.1
  dsimp only [FR.v] at k0 ⊢
  have HV := hid hv
  clear hv
  obtain ⟨R, hR⟩ : ∃ R, freeP (tri bs) txn = R := ⟨_, rfl⟩
  rw [hR]
  unfold freeP at hR
  obtain ⟨q, hq⟩ : ∃ q, locksF (tri bs) = q := ⟨_, rfl⟩
  rw [hq] at hR k0
  by_cases h0 : q = 0
  · subst h0
    have hn := locksF_len hq
    rw [if_pos rfl] at hR
    have HR := hid hR
    have HL := hid hl
    rw [hl] at hn
    clear hR hl hq
    go_enter Try.func26, Try.ntmps26
    go_wp2_with fail
    refine k0.mono ?_
    rintro e w1 ⟨rfl, hk1⟩
    have HK1 := hid (HK0.out.trans hk1)
    have HB1 := hid (b0.same hk1)
    have hs1 : w.heap.size + 1 ≤ w1.heap.size := by have h := hk1.size; rw [World.size_alloc] at h; omega
    clear hk1 b0
    have HKe := (show Hid (Same w (w1.alloc (.cells #[] 51))) from HK1.out.alloc _)
    have HBe := (show Hid (Blk (w1.alloc (.cells #[] 51)) w.heap.size 27 [.int .i64 0, .slice none 0 0]) from HB1.out.same ((Kept.refl _ _).alloc _))
    have HOe := hid (ownF_none 51 w1)
    go_wp2_with fail
    go_loopw [5, 6] (fun o i wr => ∃ (k g m c : Nat) (ys : List Int), k ≤ n ∧ m ≤ k ∧ o = .slice (some ⟨g, 0, none⟩) m c ∧ i = .int .i64 k ∧ w.heap.size < g ∧ Hid (OwnF 3 51 wr g m c ys) ∧ Hid (ys = flat3 (((tri bs).take k).filter (fun l => decide (l.2.1 ≠ txn)))) ∧ Hid (Blk wr w.heap.size 27 [.int .i64 0, .slice none 0 0]) ∧ Hid (Same w wr)) (fun _ i _ => n - (intOf i).toNat)
    case atStart => exact ⟨0, w1.heap.size, 0, 0, [], Nat.zero_le _, Nat.zero_le _, rfl, rfl, by omega, HOe, by simp [Hid, flat3], HBe, HKe⟩
    case round =>
      obtain ⟨k, g, m, c, ys, hk, hmk, rfl, rfl, hg, HO, HY, HB, HK⟩ := hrel
      by_cases hlt : k < n
      · obtain ⟨b, off, ha, hc⟩ := HV.out.some (show 0 < n by omega)
        dsimp only at ha hc
        subst ha
        have hla : k < (tri bs).length := by rw [HL.out]; omega
        obtain ⟨⟨x, y, z⟩, hxa⟩ : ∃ q, (tri bs)[k] = q := ⟨_, rfl⟩
        have HXa := hid hxa
        obtain ⟨da0, da1, da2⟩ := (HV.out.same HK.out).tri k hla _ _ _ hxa
        clear hxa
        by_cases h2 : y = txn
        · subst h2
          go_wp2
          go_roundw
          case rel => exact ⟨k + 1, g, m, c, ys, by omega, by omega, rfl, by go_num, hg, HO, by unfold Hid; rw [List.take_succ_eq_append_getElem hla, List.filter_append, HXa.out, HY.out]; simp, HB, HK⟩
          case measure => simp [intOf]; omega
        · have e2 : (y != txn) = true := by simp [h2]
          have HKO5 := (show Hid ((wr.alloc (.cells #[.int .i64 x, .int .i64 y, .int .i64 z] 51)).ownsRow 0 51 3 (.slice (some ⟨g, 0, none⟩) m c) m (vals .i64 ys)) from HO.out.same ((Kept.refl _ _).alloc _))
          have HN5 := (show Hid (Blk (wr.alloc (.cells #[.int .i64 x, .int .i64 y, .int .i64 z] 51)) wr.heap.size 51 [.int .i64 x, .int .i64 y, .int .i64 z]) from Blk.newL wr [.int .i64 x, .int .i64 y, .int .i64 z] 51)
          have hgl := HO.out.lt
          go_wp2_with (at_builtin; go_loud (refine wpList_append_lies _ rfl (.tmp 25) (.tmp 30) 23 rfl 0 51 i0 _ 3 24 Try.underlying23 hi hz0 hz1 hz2 rfl (by omega) (.slice (some ⟨g, 0, none⟩) m c) m (vals .i64 ys) rfl (by exact HKO5.out) ⟨wr.heap.size, 0, none⟩ 1 1 [.int .i64 x, .int .i64 y, .int .i64 z] rfl rfl (World.news_of_block (cs := #[.int .i64 x, .int .i64 y, .int .i64 z]) (t := 51) (fr := (0, 0)) (by exact HN5.out)) (by simp [Value.oneCell']) (by omega) (by unfold maxLen; omega) (by omega) (Nat.zero_le _) (wr.heap.size + 1) (by simp) ?_); intro g5 cap5 w5 hown5 hgrow5 hat5 hlt5; have HO5 := (show Hid (OwnF 3 51 w5 g5 (m + 1) cap5 (ys ++ [x, y, z])) from OwnF.of_app3 hown5); have HG5 := (show Hid ((wr.alloc (.cells #[.int .i64 x, .int .i64 y, .int .i64 z] 51)).grownBy w5 (Value.slice (some ⟨g, 0, none⟩) m c).ownBlock) from hgrow5); have HAT5 : Hid ((Value.slice (some ⟨g, 0, none⟩) m c).ownBlock = some g5 ∨ g5 = wr.heap.size + 1) := hat5; clear hown5 hgrow5 hat5)
          have hg5 : w.heap.size < g5 := by
            rcases HAT5.out with h | h
            · have : g = g5 := by simpa [Value.ownBlock] using h
              omega
            · have := HK.out.size; omega
          have HK5 := hid (Same.app HK.out HG5.out (by omega))
          have HB5 := (show Hid (Blk w5 w.heap.size 27 [.int .i64 0, .slice none 0 0]) from (HB.out.same ((Kept.refl _ _).alloc _)).kept (Kept.of_grown HG5.out (fun k e => e)) (not_at (by omega)))
          go_roundw
          case rel => exact ⟨k + 1, g5, m + 1, cap5, ys ++ [x, y, z], by omega, by omega, rfl, by go_num, hg5, HO5, by unfold Hid; rw [List.take_succ_eq_append_getElem hla, List.filter_append, HXa.out, HY.out, show List.filter (fun l : T3 => decide (l.2.1 ≠ txn)) [(x, y, z)] = [(x, y, z)] from by simp [h2], flat3_snoc], HB5, HK5⟩
          case measure => simp [intOf]; omega
      · obtain rfl : k = n := by omega
        have h := HY.out
        rw [← HL.out, List.take_length] at h
        obtain ⟨r0, r1⟩ := HB.out.all2
        have fr := HB.out.frozen
        have lr := HB.out.lt
        go_wp2
        refine bodyPost_ret (v := .agg #[.int .i64 0, .slice (some ⟨g, 0, none⟩) m c]) (by simp [results, Try.results26, go_sem, r0, r1]) rfl ⟨⟨0, ⟨51, some ⟨g, 0, none⟩, m, c, ys⟩⟩, rfl, ?_, ?_, ?_, ?_⟩
        · rw [← HR.out, ← h]; rfl
        · intro b hb
          have := FootL_fr hb
          omega
        · refine (HO.out.kept (R := fun b => b = w.heap.size) ?_ (by omega)).out
          (iterate 2 refine Kept.setCell (R := fun b => b = w.heap.size) ?_ (.inr rfl) _)
          exact Kept.refl _ _
        · (iterate 2 refine Kept.setCell ?_ (.inl (Nat.le_refl _)) _)
          exact HK.out
  · rw [if_neg h0] at hR
    subst hR
    clear hl hq
    go_enter Try.func26, Try.ntmps26
    go_wp2_with fail
    refine k0.mono ?_
    rintro e w1 ⟨rfl, hk1⟩
    have HK1 := hid (HK0.out.trans hk1)
    have HB1 := hid (b0.same hk1)
    clear hk1 b0
    obtain ⟨r0, r1⟩ := HB1.out.all2
    have fr := HB1.out.frozen
    have lr := HB1.out.lt
    go_wp2
    refine bodyPost_ret (v := .agg #[.int .i64 2, .slice none 0 0]) (by simp [results, Try.results26, go_sem, r0, r1]) rfl ⟨⟨2, ⟨51, none, 0, 0, []⟩⟩, rfl, rfl, ?_, ?_, ?_⟩
    · intro b hb
      have h := (FootL_one _ _).1 hb
      simp [FR.v, Value.ownBlock] at h
    · exact FR.own_nil _
    · (iterate 2 refine Kept.setCell ?_ (.inl (Nat.le_refl _)) _)
      exact HK1.out
end Go.Proofs.Ytcdmlgafalnooaa
