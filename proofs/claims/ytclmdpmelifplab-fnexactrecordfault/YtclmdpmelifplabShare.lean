/-
  recordsShare.
-/
import Derived.Test.YtclmdpmelifplabAstray
namespace Go.Proofs.Ytclmdpmelifplab
open Go.RowKit
set_option linter.unusedVariables false
set_option linter.unusedSimpArgs false

def shareAt (sl : List Int) (i j : Nat) : Bool := sharesB (sl.getD (2 * i) 0) (sl.getD (2 * i + 1) 0) (sl.getD (2 * j) 0) (sl.getD (2 * j + 1) 0)
def share (sl : List Int) : Bool := (List.range 32).any fun i => (List.range i).any fun j => shareAt sl i j
theorem share_yes (sl : List Int) (i j : Nat) (hi : i < 32) (hj : j < i) (h : shareAt sl i j = true) : share sl = true := by
  unfold share
  rw [List.any_eq_true]
  exact ⟨i, List.mem_range.2 hi, by rw [List.any_eq_true]; exact ⟨j, List.mem_range.2 hj, h⟩⟩
theorem share_no (sl : List Int) (h : ∀ i < 32, ∀ j < i, shareAt sl i j = false) : share sl = false := by
  unfold share
  rw [List.any_eq_false]
  intro i hi
  rw [Bool.not_eq_true, List.any_eq_false]
  intro j hj
  rw [h i (List.mem_range.1 hi) j (List.mem_range.1 hj)]
  simp

set_option maxRecDepth 100000 in
set_option maxHeartbeats 16000000 in
theorem recordsShare_any (P : Nat) (sum : List Int) (lsn num bot : Int) (sl raw : List Int) (w : World) (hp : SP w P sum lsn num bot sl raw) (hs : Small sl) :
    Calls Try.prog 150 #[.pointer (some ⟨P, 0, none⟩)] w fun e w' => e = .returned (.bool (share sl)) ∧ Same w w' := by
  have hPw := hp.blk.lt
  have HP := (show Hid (SP w P sum lsn num bot sl raw) from hp)
  have HSm := (show Hid (Small sl) from hs)
  have HIs := (show Hid ((Try.prog.info? 67).map (·.size) = some (vals .i64 sl).length) from (by rw [vals_length, hp.l2]; exact (by kernel_rfl : (Try.prog.info? 67).map (·.size) = some 64) : (Try.prog.info? 67).map (·.size) = some (vals .i64 sl).length))
  have HRs := (show Hid (w.rangeAt P 7 (vals .i64 sl)) from hp.slRange)
  obtain ⟨ss, hss⟩ : ∃ ss : List Value, vals .i64 sl = ss := ⟨_, rfl⟩
  have HSS := (show Hid (vals .i64 sl = ss) from hss)
  rw [hss] at HIs HRs
  clear hss hp hs
  obtain ⟨R, hR⟩ : ∃ R, share sl = R := ⟨_, rfl⟩
  have HR := (show Hid (share sl = R) from hR)
  rw [hR]
  clear hR
  go_enter Try.func150, Try.ntmps150
  go_wp2_with (refine wpList_load_mid rfl 67 _ rfl P 7 rfl ss _ HRs.out Try.underlying67 rfl HIs.out ?_)
  go_loopw [3, 4, 6, 11] (fun _ _ _ i wr => ∃ k : Nat, k ≤ 32 ∧ i = .int .i64 k ∧ Hid (∀ i < k, ∀ j < i, shareAt sl i j = false) ∧ Hid (Same w wr)) (fun _ _ _ i _ => 32 - (intOf i).toNat)
  case atStart => exact ⟨0, by omega, rfl, fun j hj => by omega, Kept.refl _ _⟩
  case round =>
    obtain ⟨k, hk, rfl, HAl, HKr⟩ := hrel
    by_cases hlt : k < 32
    · have hk2 : (k : Int) < 32 := by omega
      have hk3 : (k : Int) ≤ 32 := by omega
      have hix := fun w => slot_at sl HP.out.l2 k hlt w
      rw [HSS.out] at hix
      have hxb := HSm.out.at (2 * k)
      have hyb := HSm.out.at (2 * k + 1)
      have HAt := (show Hid (∀ j, shareAt sl k j = sharesB (sl.getD (2 * k) 0) (sl.getD (2 * k + 1) 0) (sl.getD (2 * j) 0) (sl.getD (2 * j + 1) 0)) from fun _ => rfl)
      obtain ⟨x, hx⟩ : ∃ x, sl.getD (2 * k) 0 = x := ⟨_, rfl⟩
      obtain ⟨y, hy⟩ : ∃ y, sl.getD (2 * k + 1) 0 = y := ⟨_, rfl⟩
      rw [hx, hy] at hix HAt
      rw [hx] at hxb
      rw [hy] at hyb
      clear hx hy
      go_wp2
      have hb7 := Blk.new wr #[.int .i64 x, .int .i64 y] 66
      have hk7 : Same wr (wr.alloc (.cells #[.int .i64 x, .int .i64 y] 66)) := (Kept.refl _ _).alloc _
      obtain ⟨w7, hw7⟩ : ∃ w7, wr.alloc (.cells #[.int .i64 x, .int .i64 y] 66) = w7 := ⟨_, rfl⟩
      rw [hw7] at hk7 hb7 ⊢
      have HB7 := (show Hid (Blk w7 wr.heap.size 66 [.int .i64 x, .int .i64 y]) from hb7)
      have HK7 := (show Hid (Same w w7) from HKr.out.trans hk7)
      obtain ⟨BI, hBI⟩ : ∃ BI, wr.heap.size = BI := ⟨_, rfl⟩
      have hBI7 := hb7.lt
      rw [hBI] at HB7 hBI7 ⊢
      clear hw7 hk7 hb7 hBI
      go_loopw [6, 21] (fun _ i wi => ∃ j : Nat, j ≤ k ∧ i = .int .i64 j ∧ Hid (∀ m < j, shareAt sl k m = false) ∧ Hid (Same w7 wi)) (fun _ i _ => k - (intOf i).toNat)
      case atStart => exact ⟨0, by omega, rfl, fun j hj => by omega, Kept.refl _ _⟩
      case round =>
        obtain ⟨j, hj, rfl, HAj, HKj⟩ := hrel
        by_cases hjl : j < k
        · have hsp := HP.out.same (HK7.out.trans HKj.out)
          have c0 := hsp.slAt (2 * j) (by omega)
          have c1 := hsp.slAt (2 * j + 1) (by omega)
          rw [show 7 + 2 * j = 7 + j * 2 from by omega] at c0
          rw [show 7 + (2 * j + 1) = 7 + j * 2 + 1 from by omega] at c1
          have hub := HSm.out.at (2 * j)
          have hvb := HSm.out.at (2 * j + 1)
          have HAtj := (show Hid (_) from HAt.out j)
          obtain ⟨u, hu⟩ : ∃ u, sl.getD (2 * j) 0 = u := ⟨_, rfl⟩
          obtain ⟨v, hv⟩ : ∃ v, sl.getD (2 * j + 1) 0 = v := ⟨_, rfl⟩
          rw [hu] at c0 hub
          rw [hv] at c1 hvb
          rw [hu, hv] at HAtj
          clear hu hv hsp
          have hjk : (j : Int) < (k : Int) := by omega
          have hk8 : Same w7 (wr.alloc (.cells #[.int .i64 u, .int .i64 v] 66)) := HKj.out.trans ((Kept.refl _ _).alloc _)
          have d0 : (wr.alloc (.cells #[.int .i64 u, .int .i64 v] 66)).cell? ⟨BI, 0, none⟩ = some (.int .i64 x) := by rw [(HB7.out.same hk8).cell]; rfl
          have d1 : (wr.alloc (.cells #[.int .i64 u, .int .i64 v] 66)).cell? ⟨BI, 1, none⟩ = some (.int .i64 y) := by rw [(HB7.out.same hk8).cell]; rfl
          have HK8 := (show Hid (Same w7 (wr.alloc (.cells #[.int .i64 u, .int .i64 v] 66))) from hk8)
          have hc := shares_any x y u v (wr.alloc (.cells #[.int .i64 u, .int .i64 v] 66)) hxb hyb hub hvb
          have HYes := (show Hid (sharesB x y u v = true → R = true) from fun h => by rw [← HR.out]; exact share_yes sl k j hlt hjl (by rw [HAtj.out]; exact h))
          have HNo := (show Hid (sharesB x y u v = false → ∀ m < j + 1, shareAt sl k m = false) from fun h m hm => by
            by_cases e : m = j
            · rw [e, HAtj.out]; exact h
            · exact HAj.out m (by omega))
          generalize sharesB x y u v = sb at *
          clear hk8
          cases sb with
          | true =>
            have hRt := HYes.out (by first | trivial | rfl)
            go_wp2_with (go_at_call 152; refine hc.mono ?_; rintro e w9 ⟨rfl, hk9⟩)
            go_ret
            try rw [hRt]
            exact ⟨rfl, HK7.out.trans (HK8.out.trans hk9)⟩
          | false =>
            go_wp2_with (go_at_call 152; refine hc.mono ?_; rintro e w9 ⟨rfl, hk9⟩)
            go_roundw
            case rel => exact ⟨j + 1, by omega, by go_num, HNo.out (by first | trivial | rfl), HK8.out.trans hk9⟩
            case measure => simp [intOf]; omega
        · obtain rfl : j = k := by omega
          go_wp2
          go_roundw
          case rel =>
            refine ⟨j + 1, by omega, by go_num, fun i hi m hm => ?_, HK7.out.trans HKj.out⟩
            by_cases e : i = j
            · rw [e] at hm ⊢
              exact HAj.out m hm
            · exact HAl.out i (by omega) m hm
          case measure => simp [intOf]; omega
    · obtain rfl : k = 32 := by omega
      have hRf : R = false := by rw [← HR.out]; exact share_no sl HAl.out
      go_wp2
      go_ret
      try rw [hRf]
      exact ⟨rfl, HKr.out⟩
end Go.Proofs.Ytclmdpmelifplab
