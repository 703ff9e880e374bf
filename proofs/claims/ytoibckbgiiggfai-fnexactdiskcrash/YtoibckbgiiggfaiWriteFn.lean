/-
  DiskWrite, model and program.
-/
import Derived.Test.YtoibckbgiiggfaiWrite
namespace Go.Proofs.Ytoibckbgiiggfai
open Go.RowKit
set_option linter.unusedSimpArgs false
set_option linter.unusedVariables false

abbrev IsWrite (s : Int) (bs : List Int) (dur : List Int) (ds : List (Int × List Int)) (r : List Int) (rs : List (Int × List Int)) : Prop := Ans (Valid dur.length ds ∧ CanWrite dur.length s bs) (putD dur ds s bs).1 (putD dur ds s bs).2 dur ds r rs

theorem IsWrite.of_writeD {s : Int} {bs dur : List Int} {ds rs : List (Int × List Int)} (hv : Valid dur.length ds) (h : rs = (writeD dur ds s bs).2) : IsWrite s bs dur ds (writeD dur ds s bs).1 rs := by
  subst h
  unfold writeD
  by_cases hc : CanWrite dur.length s bs
  · rw [if_pos hc]; exact .inl ⟨⟨hv, hc⟩, rfl, rfl⟩
  · rw [if_neg hc]; exact .inr ⟨fun h => hc h.2, rfl, rfl⟩
theorem Rd.looks_lt {k : IntKind} {w : World} {v : Value} {bs : List Int} (h : Rd k w v bs) (hb : bs ≠ []) {b : Nat} (hl : looks v b) : b < w.heap.size := by
  obtain ⟨o, n, c, rfl⟩ := hl
  rcases h.2 with ⟨h0, _⟩ | ⟨b', off, c', e, _, hc⟩
  · exact absurd h0 hb
  · simp only [Value.slice.injEq, Option.some.injEq, Addr.mk.injEq, and_true] at e
    obtain ⟨⟨rfl, rfl⟩, _⟩ := e
    exact World.block_lt_of_cell? w _ (hc 0 (by cases bs with | nil => exact absurd rfl hb | cons _ _ => simp))

set_option maxHeartbeats 4000000 in
theorem specWrite_any (dv pv : Value) (dur : List Int) (ps : List PW) (s : Int) (v : Value) (bs : List Int) (w : World) (hd : dur.length ≤ 1099511627776) (hn : ps.length ≤ 1073741824) (hs : ∀ p ∈ ps, p.bs.length ≤ 1099511627776) (hv : RdD w dv pv dur ps) (hbl : bs.length ≤ 1099511627776) (hb : Rd .u8 w v bs) :
    Calls Try.prog 17 #[.agg #[dv, pv], .int .i64 s, v] w fun e w' => ∃ a n c a' n' c' r qs, e = .returned (.agg #[.slice a n c, .slice a' n' c']) ∧ IsWrite s bs dur (dataP ps) r (dataP qs) ∧
      (∀ b, footD (.slice a n c) (.slice a' n' c') qs b → w.heap.size ≤ b) ∧ OwnD 0 65 5 w' (.slice a n c) (.slice a' n' c') r qs ∧ Same w w' := by
  obtain ⟨a1, c1, rfl⟩ := hv.dur.form
  obtain ⟨a2, c2, rfl⟩ := hv.pend.form
  have HV := (show Hid (RdD w (.slice a1 dur.length c1) (.slice a2 ps.length c2) dur ps) from hv)
  obtain ⟨av, cv, rfl⟩ := hb.form
  have HRV := (show Hid (Rd .u8 w (.slice av bs.length cv) bs) from hb)
  have hm := hv.dur.1
  have hbm := hb.1
  unfold maxLen at hbm
  have HS : Hid (∀ p ∈ ps, p.bs.length ≤ 1099511627776) := hs
  clear hv hs hb
  go_enter Try.func17, Try.ntmps17
  go_wp2_with fail
  refine (specValid_any _ _ dur ps _ (HV.out.same (((Kept.refl _ _).alloc _).alloc _))).mono ?_
  rintro e w1 ⟨⟨B, rfl, hB⟩, hk1⟩
  have HB1 : Hid (Box w1 w.heap.size (.slice a1 dur.length c1) (.slice a2 ps.length c2)) := (Box.new _ _ _ _).same (((Kept.refl _ _).alloc _).trans hk1)
  have HX1 : Hid (FBox w1 (w.heap.size + 1) (.slice none 0 0) (.slice none 0 0)) := by have h := FBox.new (w.alloc (.cells #[.slice a1 dur.length c1, .slice a2 ps.length c2] 30)) (.slice none 0 0) (.slice none 0 0) 30; rw [World.size_alloc] at h; exact h.same hk1
  have HK1 : Hid (Same w w1) := (((Kept.refl _ _).alloc _).alloc _).trans hk1
  clear hk1
  obtain ⟨p1, p2⟩ := HB1.out
  have hl1 := HX1.out.lt
  have hl0 := HB1.out.lt
  cases B with
  | false =>
    have HN : Hid (¬ Valid dur.length (dataP ps)) := fun h => by have := hB.2 h; simp at this
    clear hB
    go_wp2_with fail
    refine (copyDisk_any _ _ dur ps _ hd hn HS.out (HV.out.same HK1.out)).mono ?_
    rintro e w2 ⟨a, n, c, a', n', c', qs, rfl, hq, hf, ho, hk⟩
    have HQ : Hid (dataP qs = dataP ps) := hq
    have HF := (show Hid (∀ b, footD (.slice a n c) (.slice a' n' c') qs b → w.heap.size + 1 < b) from fun b hb => by have h1 := hf b hb; omega)
    have HO := (show Hid (OwnD 0 65 5 w2 (.slice a n c) (.slice a' n' c') dur qs) from ho)
    have HK : Hid (Same w w2) := HK1.out.trans hk
    obtain ⟨x1, x2, x3, x4⟩ := HX1.out.same hk
    clear hq hf ho hk p1 p2
    go_wp2
    exact agg_ret (by simp [results, Try.results17, go_sem, x1, x2]) rfl (A := IsWrite s bs dur (dataP ps)) (.inr ⟨fun h => HN.out h.1, rfl, HQ.out⟩) (Nat.le_succ _) HF.out HO.out HK.out
  | true =>
    have HY : Hid (Valid dur.length (dataP ps)) := hB.1 rfl
    clear hB
    by_cases s1 : s < 0
    · go_wp2_with fail
      refine (copyDisk_any _ _ dur ps _ hd hn HS.out (HV.out.same HK1.out)).mono ?_
      rintro e w2 ⟨a, n, c, a', n', c', qs, rfl, hq, hf, ho, hk⟩
      have HQ : Hid (dataP qs = dataP ps) := hq
      have HF := (show Hid (∀ b, footD (.slice a n c) (.slice a' n' c') qs b → w.heap.size + 1 < b) from fun b hb => by have h1 := hf b hb; omega)
      have HO := (show Hid (OwnD 0 65 5 w2 (.slice a n c) (.slice a' n' c') dur qs) from ho)
      have HK : Hid (Same w w2) := HK1.out.trans hk
      obtain ⟨x1, x2, x3, x4⟩ := HX1.out.same hk
      clear hq hf ho hk p1 p2
      go_wp2
      exact agg_ret (by simp [results, Try.results17, go_sem, x1, x2]) rfl (A := IsWrite s bs dur (dataP ps)) (.inr ⟨fun h => by have := h.2.1; omega, rfl, HQ.out⟩) (Nat.le_succ _) HF.out HO.out HK.out
    · by_cases s2 : (dur.length : Int) / 512 ≤ s
      · go_wp2_with (go_at_call 40; refine (l1Sectors_any _ _ _ _ _ _ _ hm).mono ?_; rintro e w' ⟨rfl, rfl⟩)
        refine (copyDisk_any _ _ dur ps _ hd hn HS.out (HV.out.same (HK1.out.alloc _))).mono ?_
        rintro e w2 ⟨a, n, c, a', n', c', qs, rfl, hq, hf, ho, hk⟩
        have HQ : Hid (dataP qs = dataP ps) := hq
        have HF := (show Hid (∀ b, footD (.slice a n c) (.slice a' n' c') qs b → w.heap.size + 1 < b) from fun b hb => by have h1 := hf b hb; rw [World.size_alloc] at h1; omega)
        have HO := (show Hid (OwnD 0 65 5 w2 (.slice a n c) (.slice a' n' c') dur qs) from ho)
        have HK : Hid (Same w w2) := (HK1.out.alloc _).trans hk
        obtain ⟨x1, x2, x3, x4⟩ := (HX1.out.next _).same hk
        clear hq hf ho hk p1 p2
        go_wp2
        exact agg_ret (by simp [results, Try.results17, go_sem, x1, x2]) rfl (A := IsWrite s bs dur (dataP ps)) (.inr ⟨fun h => by have := h.2.2.1; omega, rfl, HQ.out⟩) (Nat.le_succ _) HF.out HO.out HK.out
      · have s3 : ((dur.length / 512 : Nat) : Int) ≤ 1024 := by have := HY.out.1.2.2.1; omega
        by_cases s4 : bs.length = 512
        · have t4 : ((bs.length : Int) != 512) = false := by simp; omega
          have HCW : Hid (CanWrite dur.length s bs) := ⟨by omega, by omega, s4⟩
          clear s4
          go_wp2_with (go_at_call 40; refine (l1Sectors_any _ _ _ _ _ _ _ hm).mono ?_; rintro e w' ⟨rfl, rfl⟩)
          refine (copyDisk_any _ _ dur ps _ hd hn HS.out (HV.out.same (HK1.out.alloc _))).mono ?_
          rintro e w2 ⟨a, n, c, a', n', c', qs, rfl, hq, hf, ho, hk⟩
          have HQ : Hid (dataP qs = dataP ps) := hq
          have HF := (show Hid (∀ b, footD (.slice a n c) (.slice a' n' c') qs b → w.heap.size + 1 < b) from fun b hb => by have h1 := hf b hb; rw [World.size_alloc] at h1; omega)
          have HO := (show Hid (OwnD 0 65 5 w2 (.slice a n c) (.slice a' n' c') dur qs) from ho)
          have HK : Hid (Same w w2) := (HK1.out.alloc _).trans hk
          have HX2 : Hid (FBox w2 (w.heap.size + 1) (.slice none 0 0) (.slice none 0 0)) := (HX1.out.next _).same hk
          clear hq hf ho hk p1 p2
          go_wp2_with fail
          refine (l1Put_any _ _ dur qs s _ bs _ hd hbl HO.out (by rw [HQ.out]; exact HY.out) (HRV.out.same HK.out)).mono ?_
          rintro e w3 ⟨a3, n3, c3, a3', n3', c3', qs3, rfl, hq3, hf3, ho3, hk3⟩
          rw [HQ.out] at hq3 ho3
          have hx3 : ∀ b, (Value.slice a' n' c').ownBlock = some b → w.heap.size + 1 < b := fun b hb => HF.out b (.inr (.inl hb))
          have HQ3 : Hid (dataP qs3 = (putD dur (dataP ps) s bs).2) := hq3
          have HF3 := (show Hid (∀ b, footD (.slice a3 n3 c3) (.slice a3' n3' c3') qs3 b → w.heap.size + 1 < b) from fun b hb => by
            rcases hf3 b hb with h | h
            · exact HF.out b h
            · have := HX2.out.lt; omega)
          have HO3 := (show Hid (OwnD 0 65 5 w3 (.slice a3 n3 c3) (.slice a3' n3' c3') (putD dur (dataP ps) s bs).1 qs3) from ho3)
          have HK3 : Hid (Same w w3) := HK.out.next hk3 (fun b hb e => by have := hx3 b e; omega)
          obtain ⟨x1, x2, x3, x4⟩ := HX2.out.kept hk3 (fun e => by have := hx3 _ e; omega)
          clear hq3 hf3 ho3 hk3 hx3
          go_wp2
          exact agg_ret (by simp [results, Try.results17, go_sem, x1, x2]) rfl (A := IsWrite s bs dur (dataP ps)) (.inl ⟨⟨HY.out, HCW.out⟩, rfl, HQ3.out⟩) (Nat.le_succ _) HF3.out HO3.out HK3.out
        · have t4 : ((bs.length : Int) != 512) = true := by simp; omega
          have HCW : Hid (¬ CanWrite dur.length s bs) := fun h => s4 h.2.2
          clear s4
          go_wp2_with (go_at_call 40; refine (l1Sectors_any _ _ _ _ _ _ _ hm).mono ?_; rintro e w' ⟨rfl, rfl⟩)
          refine (copyDisk_any _ _ dur ps _ hd hn HS.out (HV.out.same (HK1.out.alloc _))).mono ?_
          rintro e w2 ⟨a, n, c, a', n', c', qs, rfl, hq, hf, ho, hk⟩
          have HQ : Hid (dataP qs = dataP ps) := hq
          have HF := (show Hid (∀ b, footD (.slice a n c) (.slice a' n' c') qs b → w.heap.size + 1 < b) from fun b hb => by have h1 := hf b hb; rw [World.size_alloc] at h1; omega)
          have HO := (show Hid (OwnD 0 65 5 w2 (.slice a n c) (.slice a' n' c') dur qs) from ho)
          have HK : Hid (Same w w2) := (HK1.out.alloc _).trans hk
          obtain ⟨x1, x2, x3, x4⟩ := (HX1.out.next _).same hk
          clear hq hf ho hk p1 p2
          go_wp2
          exact agg_ret (by simp [results, Try.results17, go_sem, x1, x2]) rfl (A := IsWrite s bs dur (dataP ps)) (.inr ⟨fun h => HCW.out h.2, rfl, HQ.out⟩) (Nat.le_succ _) HF.out HO.out HK.out

set_option maxHeartbeats 4000000 in
theorem implWrite_any (dv pv : Value) (dur : List Int) (ps : List PW) (s : Int) (v : Value) (bs : List Int) (w : World) (hd : dur.length ≤ 1099511627776) (hn : ps.length ≤ 1073741824) (hs : ∀ p ∈ ps, p.bs.length ≤ 1099511627776) (hv : RdD w dv pv dur ps) (hbl : bs.length ≤ 1099511627776) (hb : Rd .u8 w v bs) :
    Calls Try.prog 19 #[.agg #[dv, pv], .int .i64 s, v] w fun e w' => ∃ a n c a' n' c' r qs, e = .returned (.agg #[.slice a n c, .slice a' n' c']) ∧ IsWrite s bs dur (dataP ps) r (dataP qs) ∧
      (∀ b, footD (.slice a n c) (.slice a' n' c') qs b → w.heap.size ≤ b) ∧ OwnD 0 65 5 w' (.slice a n c) (.slice a' n' c') r qs ∧ Same w w' := by
  obtain ⟨a1, c1, rfl⟩ := hv.dur.form
  obtain ⟨a2, c2, rfl⟩ := hv.pend.form
  have HV := (show Hid (RdD w (.slice a1 dur.length c1) (.slice a2 ps.length c2) dur ps) from hv)
  obtain ⟨av, cv, rfl⟩ := hb.form
  have HRV := (show Hid (Rd .u8 w (.slice av bs.length cv) bs) from hb)
  have hm := hv.dur.1
  have hbm := hb.1
  unfold maxLen at hbm
  have HS : Hid (∀ p ∈ ps, p.bs.length ≤ 1099511627776) := hs
  clear hv hs hb
  go_enter Try.func19, Try.ntmps19
  go_wp2_with fail
  refine (implValid_any _ _ dur ps _ (HV.out.same (((Kept.refl _ _).alloc _).alloc _))).mono ?_
  rintro e w1 ⟨⟨B, rfl, hB⟩, hk1⟩
  have HB1 : Hid (Box w1 w.heap.size (.slice a1 dur.length c1) (.slice a2 ps.length c2)) := (Box.new _ _ _ _).same (((Kept.refl _ _).alloc _).trans hk1)
  have HX1 : Hid (FBox w1 (w.heap.size + 1) (.slice none 0 0) (.slice none 0 0)) := by have h := FBox.new (w.alloc (.cells #[.slice a1 dur.length c1, .slice a2 ps.length c2] 30)) (.slice none 0 0) (.slice none 0 0) 30; rw [World.size_alloc] at h; exact h.same hk1
  have HK1 : Hid (Same w w1) := (((Kept.refl _ _).alloc _).alloc _).trans hk1
  clear hk1
  obtain ⟨p1, p2⟩ := HB1.out
  have hl1 := HX1.out.lt
  have hl0 := HB1.out.lt
  cases B with
  | false =>
    have HN : Hid (¬ Valid dur.length (dataP ps)) := fun h => by have := hB.2 h; simp at this
    clear hB
    go_wp2_with fail
    refine (cloneDisk_any _ _ dur ps _ hd hn HS.out (HV.out.same HK1.out)).mono ?_
    rintro e w2 ⟨a, n, c, a', n', c', qs, rfl, hq, hf, ho, hk⟩
    have HQ : Hid (dataP qs = dataP ps) := hq
    have HF := (show Hid (∀ b, footD (.slice a n c) (.slice a' n' c') qs b → w.heap.size + 1 < b) from fun b hb => by have h1 := hf b hb; omega)
    have HO := (show Hid (OwnD 0 65 5 w2 (.slice a n c) (.slice a' n' c') dur qs) from ho)
    have HK : Hid (Same w w2) := HK1.out.trans hk
    obtain ⟨x1, x2, x3, x4⟩ := HX1.out.same hk
    clear hq hf ho hk p1 p2
    go_wp2
    exact agg_ret (by simp [results, Try.results19, go_sem, x1, x2]) rfl (A := IsWrite s bs dur (dataP ps)) (.inr ⟨fun h => HN.out h.1, rfl, HQ.out⟩) (Nat.le_succ _) HF.out HO.out HK.out
  | true =>
    have HY : Hid (Valid dur.length (dataP ps)) := hB.1 rfl
    clear hB
    go_wp2_with fail
    refine (openDisk_any _ _ dur ps _ (HV.out.same HK1.out) HY.out).mono ?_
    rintro e w2 ⟨B, dv', pv', rfl, hpl, ⟨hf1, hf2, hf3⟩, hk2⟩
    have HPL := (show Hid (Plat w2 B dv' pv' dur (dataP ps)) from hpl)
    have HF := (show Hid (w1.heap.size ≤ B ∧ (∀ b, dv'.ownBlock = some b → w1.heap.size ≤ b) ∧ ∀ b, pv'.ownBlock = some b → w1.heap.size ≤ b) from ⟨hf1, hf2, hf3⟩)
    have HK2 : Hid (Same w w2) := HK1.out.trans hk2
    have HX2 : Hid (FBox w2 (w.heap.size + 1) (.slice none 0 0) (.slice none 0 0)) := HX1.out.same hk2
    have hs2 := hk2.size
    clear hpl hf1 hf2 hf3 hk2 p1 p2
    go_wp2_with fail
    refine (write_any B dv' pv' dur (dataP ps) s _ bs _ HPL.out HY.out (HRV.out.same HK2.out) (fun h0 b hb => ?sep)).mono ?_
    case sep =>
      have hbw : b < w.heap.size := HRV.out.looks_lt h0 hb
      exact ⟨by have := HF.out.1; omega, fun e => by have := HF.out.2.1 b e; omega, fun e => by have := HF.out.2.2 b e; omega⟩
    rintro e w3 ⟨rfl, ⟨pv3, hpl, _⟩, hk3⟩
    have HPL3 := (show Hid (Plat w3 B dv' pv3 (writeD dur (dataP ps) s bs).1 (writeD dur (dataP ps) s bs).2) from hpl)
    have hK : ∀ b, (b = B ∨ dv'.ownBlock = some b ∨ pv'.ownBlock = some b) → w1.heap.size ≤ b := fun b e => by
      rcases e with rfl | e | e
      · exact HF.out.1
      · exact HF.out.2.1 b e
      · exact HF.out.2.2 b e
    have HK3 : Hid (Same w w3) := HK2.out.next hk3 (fun b hb e => by have := hK b e; omega)
    have HX3 : Hid (FBox w3 (w.heap.size + 1) (.slice none 0 0) (.slice none 0 0)) := HX2.out.kept hk3 (fun e => by have := hK _ e; omega)
    have hs3 := hk3.size
    clear hpl hk3 hK
    go_wp2_with fail
    refine (disk_any B dv' pv3 (writeD dur (dataP ps) s bs).1 (writeD dur (dataP ps) s bs).2 _ HPL3.out (by rw [(writeD_valid HY.out).1]; exact (writeD_valid HY.out).2)).mono ?_
    rintro e w4 ⟨a, n, c, a', n', c', qs, rfl, hq, hf, ho, hk⟩
    have HQ : Hid (dataP qs = (writeD dur (dataP ps) s bs).2) := hq
    have HF4 := (show Hid (∀ b, footD (.slice a n c) (.slice a' n' c') qs b → w.heap.size + 1 < b) from fun b hb => by have h1 := hf b hb; omega)
    have HO := (show Hid (OwnD 0 65 5 w4 (.slice a n c) (.slice a' n' c') (writeD dur (dataP ps) s bs).1 qs) from ho)
    have HK : Hid (Same w w4) := HK3.out.trans hk
    obtain ⟨x1, x2, x3, x4⟩ := HX3.out.same hk
    clear hq hf ho hk
    go_wp2
    exact agg_ret (by simp [results, Try.results19, go_sem, x1, x2]) rfl (A := IsWrite s bs dur (dataP ps)) (IsWrite.of_writeD HY.out HQ.out) (Nat.le_succ _) HF4.out HO.out HK.out
end Go.Proofs.Ytoibckbgiiggfai
