/-
  sz.., to..: how the laws count an argument and copy it.
-/
import Derived.Test.YtednajibnjofmaaRead
import Derived.Test.YtednajibnjofmaaDisk
import Derived.Test.YtednajibnjofmaaCopyB
import Derived.Test.YtednajibnjofmaaSzB
namespace Go.Proofs.Ytednajibnjofmaa
set_option maxHeartbeats 1000000
open Go.RowKit

theorem Try.infoSW : (Try.prog.info? 78).map (fun i => (i.zero, i.size, i.bytes)) = some (some (.agg #[.int .i64 0, .slice none 0 0]), 2, 32) := by kernel_rfl

theorem szSectorWrite_any (sec : Int) (a : Option Addr) (n c : Nat) (left : Int) (w : World) (h0 : 0 ≤ left) (h1 : left ≤ 1048576) (hn : n ≤ maxLen) :
    Calls Try.prog 37 #[.agg #[.int .i64 sec, .slice a n c], .int .i64 left] w fun e w' => ∃ r : Int, e = .returned (.int .i64 r) ∧ ((r = -1 ∧ left < n) ∨ (r = left - n ∧ 0 ≤ r)) ∧ Same w w' := by
  go_enter Try.func37, Try.ntmps37
  go_wp2_with fail
  refine (szByteS_any a n c left _ h0 h1 hn).mono ?_
  rintro e w1 ⟨r, rfl, hr, rfl⟩
  rcases hr with ⟨rfl, hr⟩ | ⟨hr, hr0⟩
  · go_wp2
    go_ret
    exact ⟨_, rfl, .inl ⟨rfl, hr⟩, (Kept.refl _ _).alloc _⟩
  · have HR : Hid (r = left - n) := hr
    clear hr
    go_wp2
    go_ret
    exact ⟨_, rfl, .inr ⟨HR.out, hr0⟩, (Kept.refl _ _).alloc _⟩

theorem szSectorWriteS_any (v : Value) (ps : List PW) (left : Int) (w : World) (h0 : 0 ≤ left) (h1 : left ≤ 1048576) (hp : RdP w v ps) :
    Calls Try.prog 21 #[v, .int .i64 left] w fun e w' => ∃ r : Int, e = .returned (.int .i64 r) ∧ (r = -1 ∨ (r = left - ps.length - sizeP ps ∧ 0 ≤ r)) ∧ Same w w' := by
  have hn := hp.len
  unfold maxLen at hn
  rcases hp.row with ⟨rfl, a, c, rfl⟩ | ⟨b, off, c, rfl, hc⟩
  · clear hp hn
    go_enter Try.func21, Try.ntmps21
    go_wp2
    refine wp_loop_rounds 1 ?_
    rw [rounds_succ]
    go_wp2
    go_ret
    exact ⟨_, rfl, .inr ⟨by simp [sizeP], by omega⟩, Kept.refl _ _⟩
  · have HP : Hid (RdP w (.slice (some ⟨b, off, none⟩) ps.length c) ps) := hp
    have HC : Hid (∀ i (h : i < ps.length), w.cell? ⟨b, off + i * 2, none⟩ = some (.int .i64 ps[i].sec) ∧ w.cell? ⟨b, off + i * 2 + 1, none⟩ = some ps[i].v) := hc
    clear hp hc
    generalize hl : ps.length = len at hn HP ⊢
    have HL : Hid (ps.length = len) := hl
    clear hl
    by_cases h : left < len
    · go_enter Try.func21, Try.ntmps21
      go_wp2
      go_ret
      exact ⟨_, rfl, .inl rfl, Kept.refl _ _⟩
    · go_enter Try.func21, Try.ntmps21
      go_wp2
      go_loopw [1, 5] (fun u i wr => ∃ (k : Nat) (r : Int), k ≤ len ∧ i = .int .i64 k ∧ u = .int .i64 r ∧ 0 ≤ r ∧ r ≤ left ∧ Hid (r = left - len - sizeP (ps.take k)) ∧ Hid (Same w wr)) (fun _ i _ => len - (intOf i).toNat)
      case atStart => exact ⟨0, left - len, Nat.zero_le _, rfl, rfl, by omega, by omega, by simp [sizeP, Hid], Kept.refl _ _⟩
      case round =>
        obtain ⟨k, r, hk, rfl, rfl, hr0, hr1, HR, HK⟩ := hrel
        by_cases hlt : k < len
        · have hlp : k < ps.length := by rw [HL.out]; exact hlt
          obtain ⟨a1, c1, e1⟩ := (HP.out.data _ (List.getElem_mem hlp)).form
          have hm1 := (HP.out.data _ (List.getElem_mem hlp)).1
          have q1 := HK.out.cellOf (HC.out k hlp).1 id
          have q2 := HK.out.cellOf (HC.out k hlp).2 id
          rw [e1] at q2
          clear e1
          go_wp2_with fail
          refine (szSectorWrite_any _ _ _ _ _ _ hr0 (by omega) hm1).mono ?_
          rintro e w1 ⟨r1, rfl, hr2, hk1⟩
          have HK1 : Hid (Same w w1) := HK.out.trans hk1
          clear q1 q2 hk1
          rcases hr2 with ⟨rfl, hr2⟩ | ⟨hr2, hr3⟩
          · go_wp2
            go_ret
            exact ⟨_, rfl, .inl rfl, HK1.out⟩
          · have hr4 : r1 ≤ left := by omega
            have HR1 : Hid (r1 = r - ps[k].bs.length) := hr2
            clear hr2
            go_wp2
            go_roundw
            case rel => exact ⟨k + 1, r1, by omega, by go_num, rfl, hr3, hr4, by have h1 := HR1.out; have h2 := HR.out; have h3 := sizeP_step ps k hlp; unfold Hid; omega, HK1⟩
            case measure => simp [intOf]; omega
        · go_wp2
          go_ret
          obtain rfl : k = len := by omega
          have h1 := HR.out
          have h2 := HL.out
          rw [← h2, List.take_length] at h1
          exact ⟨r, rfl, .inr ⟨by omega, hr0⟩, HK.out⟩

/-- How the laws count a disk: below 0, or the count is left, and all of it is small. -/
theorem szDisk_any (dv pv : Value) (dur : List Int) (ps : List PW) (left : Int) (w : World) (h0 : 0 ≤ left) (h1 : left ≤ 1048576) (hp : RdD w dv pv dur ps) :
    Calls Try.prog 5 #[.agg #[dv, pv], .int .i64 left] w fun e w' => ∃ r : Int, e = .returned (.int .i64 r) ∧ (r = -1 ∨ (r = left - dur.length - ps.length - sizeP ps ∧ 0 ≤ r)) ∧ Same w w' := by
  obtain ⟨a1, c1, rfl⟩ := hp.dur.form
  obtain ⟨a2, c2, rfl⟩ := hp.pend.form
  have hm := hp.dur.1
  have HP := (show Hid (RdP w _ ps) from hp.pend)
  clear hp
  go_enter Try.func5, Try.ntmps5
  go_wp2_with fail
  refine (szByteS_any _ _ _ left _ h0 h1 hm).mono ?_
  rintro e w1 ⟨r, rfl, hr, rfl⟩
  rcases hr with ⟨rfl, hr⟩ | ⟨hr, hr0⟩
  · go_wp2
    go_ret
    exact ⟨_, rfl, .inl rfl, (Kept.refl _ _).alloc _⟩
  · have hr1 : r ≤ left := by omega
    have HR : Hid (r = left - dur.length) := hr
    clear hr
    go_wp2_with fail
    refine (szSectorWriteS_any _ ps r _ hr0 (by omega) (HP.out.same ((Kept.refl _ _).alloc _))).mono ?_
    rintro e w2 ⟨r2, rfl, hr2, hk2⟩
    have HK2 : Hid (Same w w2) := ((Kept.refl _ _).alloc _).trans hk2
    clear hk2
    rcases hr2 with rfl | ⟨hr2, hr3⟩
    · go_wp2
      go_ret
      exact ⟨_, rfl, .inl rfl, HK2.out⟩
    · have HR2 : Hid (r2 = r - ps.length - sizeP ps) := hr2
      clear hr2
      go_wp2
      go_ret
      exact ⟨r2, rfl, .inr ⟨by have h1 := HR.out; have h2 := HR2.out; omega, hr3⟩, HK2.out⟩
end Go.Proofs.Ytednajibnjofmaa
