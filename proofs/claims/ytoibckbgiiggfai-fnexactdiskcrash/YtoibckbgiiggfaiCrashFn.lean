/-
  DiskCrash, model and program.
-/
import Derived.Test.YtoibckbgiiggfaiCrash
namespace Go.Proofs.Ytoibckbgiiggfai
open Go.RowKit
set_option linter.unusedSimpArgs false
set_option linter.unusedVariables false

abbrev IsCrash (ks : List Int) (dur : List Int) (ds : List (Int × List Int)) (r : List Int) (rs : List (Int × List Int)) : Prop := Ans (Valid dur.length ds) (settleN (keepS ks) dur ds ds.length) [] dur ds r rs

set_option maxHeartbeats 4000000 in
theorem specCrash_any (dv pv : Value) (dur : List Int) (ps : List PW) (kv : Value) (ks : List Int) (w : World) (hd : dur.length ≤ 1099511627776) (hn : ps.length ≤ 1073741824) (hs : ∀ p ∈ ps, p.bs.length ≤ 1099511627776) (hv : RdD w dv pv dur ps) (hkl : ks.length ≤ 1099511627776) (hkv : Rd .i64 w kv ks) :
    Calls Try.prog 23 #[.agg #[dv, pv], kv] w fun e w' => ∃ a n c a' n' c' r qs, e = .returned (.agg #[.slice a n c, .slice a' n' c']) ∧ IsCrash ks dur (dataP ps) r (dataP qs) ∧
      (∀ b, footD (.slice a n c) (.slice a' n' c') qs b → w.heap.size ≤ b) ∧ OwnD 0 65 5 w' (.slice a n c) (.slice a' n' c') r qs ∧ Same w w' := by
  obtain ⟨a1, c1, rfl⟩ := hv.dur.form
  obtain ⟨a2, c2, rfl⟩ := hv.pend.form
  have HV := (show Hid (RdD w (.slice a1 dur.length c1) (.slice a2 ps.length c2) dur ps) from hv)
  obtain ⟨ak, ck, rfl⟩ := hkv.form
  have HKV := (show Hid (Rd .i64 w (.slice ak ks.length ck) ks) from hkv)
  have HS : Hid (∀ p ∈ ps, p.bs.length ≤ 1099511627776) := hs
  clear hv hs hkv
  go_enter Try.func23, Try.ntmps23
  go_wp2_with fail
  refine (specValid_any _ _ dur ps _ (HV.out.same (((Kept.refl _ _).alloc _).alloc _))).mono ?_
  rintro e w1 ⟨⟨B, rfl, hB⟩, hk1⟩
  have HB1 : Hid (Box w1 w.heap.size (.slice a1 dur.length c1) (.slice a2 ps.length c2)) := (Box.new _ _ _ _).same (((Kept.refl _ _).alloc _).trans hk1)
  have HX1 : Hid (FBox w1 (w.heap.size + 1) (.slice none 0 0) (.slice none 0 0)) := by have h := FBox.new (w.alloc (.cells #[.slice a1 dur.length c1, .slice a2 ps.length c2] 30)) (.slice none 0 0) (.slice none 0 0) 30; rw [World.size_alloc] at h; exact h.same hk1
  have HK1 : Hid (Same w w1) := (((Kept.refl _ _).alloc _).alloc _).trans hk1
  clear hk1
  obtain ⟨p1, p2⟩ := HB1.out
  have hl1 := HX1.out.lt
  cases B with
  | false =>
    have HN : Hid (¬ Valid dur.length (dataP ps)) := fun h => by have := hB.2 h; simp at this
    clear hB
    go_wp2_with fail
    refine (copyDisk_any _ _ dur ps _ hd hn HS.out (HV.out.same HK1.out)).mono ?_
    rintro e w2 ⟨a, n, c, a', n', c', qs, rfl, hq, hf, ho, hk⟩
    have HQ : Hid (dataP qs = dataP ps) := hq
    have HF := (show Hid (∀ b, footD (.slice a n c) (.slice a' n' c') qs b → w.heap.size + 1 < b) from fun b hb => by have h1 := hf b hb; omega)
    have HO := (show Hid (OwnD 0 65 5 w2 (.slice a n c) (.slice a' n' c') dur qs) from ho)
    have HK : Hid (Same w w2) := HK1.out.trans hk
    obtain ⟨x1, x2, x3, x4⟩ := HX1.out.same hk
    clear hq hf ho hk p1 p2
    go_wp2
    exact agg_ret (by simp [results, Try.results23, go_sem, x1, x2]) rfl (A := IsCrash ks dur (dataP ps)) (.inr ⟨HN.out, rfl, HQ.out⟩) (Nat.le_succ _) HF.out HO.out HK.out
  | true =>
    have HY : Hid (Valid dur.length (dataP ps)) := hB.1 rfl
    clear hB
    go_wp2_with fail
    refine (l1Settle_keep _ _ dur ps _ ks _ hd (HV.out.same HK1.out) HY.out (HKV.out.same HK1.out)).mono ?_
    rintro e w2 ⟨a, n, c, rfl, hf, ho, hk⟩
    rw [← dataP_length ps] at ho
    have HF := (show Hid (∀ b, (Value.slice a n c).ownBlock = some b → w.heap.size + 1 < b) from fun b hb => by have h1 := hf b hb; omega)
    have HO := (show Hid (Own 0 5 .u8 w2 (.slice a n c) (settleN (keepS ks) dur (dataP ps) (dataP ps).length)) from ho)
    have HK : Hid (Same w w2) := HK1.out.trans hk
    obtain ⟨x1, x2, x3, x4⟩ := HX1.out.same hk
    clear hf ho hk p1 p2
    go_wp2
    exact agg_ret (by simp [results, Try.results23, go_sem, x1, x2]) rfl (A := IsCrash ks dur (dataP ps)) (.inl ⟨HY.out, rfl, rfl⟩) (Nat.le_succ _) (fun b hb => HF.out b (footD_dur hb)) (.ofDur HO.out) HK.out

set_option maxHeartbeats 4000000 in
theorem implCrash_any (dv pv : Value) (dur : List Int) (ps : List PW) (kv : Value) (ks : List Int) (w : World) (hd : dur.length ≤ 1099511627776) (hn : ps.length ≤ 1073741824) (hs : ∀ p ∈ ps, p.bs.length ≤ 1099511627776) (hv : RdD w dv pv dur ps) (hkl : ks.length ≤ 1099511627776) (hkv : Rd .i64 w kv ks) :
    Calls Try.prog 25 #[.agg #[dv, pv], kv] w fun e w' => ∃ a n c a' n' c' r qs, e = .returned (.agg #[.slice a n c, .slice a' n' c']) ∧ IsCrash ks dur (dataP ps) r (dataP qs) ∧
      (∀ b, footD (.slice a n c) (.slice a' n' c') qs b → w.heap.size ≤ b) ∧ OwnD 0 65 5 w' (.slice a n c) (.slice a' n' c') r qs ∧ Same w w' := by
  obtain ⟨a1, c1, rfl⟩ := hv.dur.form
  obtain ⟨a2, c2, rfl⟩ := hv.pend.form
  have HV := (show Hid (RdD w (.slice a1 dur.length c1) (.slice a2 ps.length c2) dur ps) from hv)
  obtain ⟨ak, ck, rfl⟩ := hkv.form
  have HKV := (show Hid (Rd .i64 w (.slice ak ks.length ck) ks) from hkv)
  have HS : Hid (∀ p ∈ ps, p.bs.length ≤ 1099511627776) := hs
  clear hv hs hkv
  go_enter Try.func25, Try.ntmps25
  go_wp2_with fail
  refine (implValid_any _ _ dur ps _ (HV.out.same (((Kept.refl _ _).alloc _).alloc _))).mono ?_
  rintro e w1 ⟨⟨B, rfl, hB⟩, hk1⟩
  have HB1 : Hid (Box w1 w.heap.size (.slice a1 dur.length c1) (.slice a2 ps.length c2)) := (Box.new _ _ _ _).same (((Kept.refl _ _).alloc _).trans hk1)
  have HX1 : Hid (FBox w1 (w.heap.size + 1) (.slice none 0 0) (.slice none 0 0)) := by have h := FBox.new (w.alloc (.cells #[.slice a1 dur.length c1, .slice a2 ps.length c2] 30)) (.slice none 0 0) (.slice none 0 0) 30; rw [World.size_alloc] at h; exact h.same hk1
  have HK1 : Hid (Same w w1) := (((Kept.refl _ _).alloc _).alloc _).trans hk1
  clear hk1
  obtain ⟨p1, p2⟩ := HB1.out
  have hl1 := HX1.out.lt
  cases B with
  | false =>
    have HN : Hid (¬ Valid dur.length (dataP ps)) := fun h => by have := hB.2 h; simp at this
    clear hB
    go_wp2_with fail
    refine (cloneDisk_any _ _ dur ps _ hd hn HS.out (HV.out.same HK1.out)).mono ?_
    rintro e w2 ⟨a, n, c, a', n', c', qs, rfl, hq, hf, ho, hk⟩
    have HQ : Hid (dataP qs = dataP ps) := hq
    have HF := (show Hid (∀ b, footD (.slice a n c) (.slice a' n' c') qs b → w.heap.size + 1 < b) from fun b hb => by have h1 := hf b hb; omega)
    have HO := (show Hid (OwnD 0 65 5 w2 (.slice a n c) (.slice a' n' c') dur qs) from ho)
    have HK : Hid (Same w w2) := HK1.out.trans hk
    obtain ⟨x1, x2, x3, x4⟩ := HX1.out.same hk
    clear hq hf ho hk p1 p2
    go_wp2
    exact agg_ret (by simp [results, Try.results25, go_sem, x1, x2]) rfl (A := IsCrash ks dur (dataP ps)) (.inr ⟨HN.out, rfl, HQ.out⟩) (Nat.le_succ _) HF.out HO.out HK.out
  | true =>
    have HY : Hid (Valid dur.length (dataP ps)) := hB.1 rfl
    clear hB
    go_wp2_with fail
    refine (openDisk_any _ _ dur ps _ (HV.out.same HK1.out) HY.out).mono ?_
    rintro e w2 ⟨B, dv', pv', rfl, hpl, ⟨hf1, hf2, hf3⟩, hk2⟩
    have HPL := (show Hid (Plat w2 B dv' pv' dur (dataP ps)) from hpl)
    have HF := (show Hid (w1.heap.size ≤ B ∧ ∀ b, dv'.ownBlock = some b → w1.heap.size ≤ b) from ⟨hf1, hf2⟩)
    have HK2 : Hid (Same w w2) := HK1.out.trans hk2
    have HX2 : Hid (FBox w2 (w.heap.size + 1) (.slice none 0 0) (.slice none 0 0)) := HX1.out.same hk2
    have hs2 := hk2.size
    clear hpl hf1 hf2 hf3 hk2 p1 p2
    go_wp2_with fail
    refine (crash_any B dv' pv' dur (dataP ps) _ ks _ HPL.out HY.out (HKV.out.same HK2.out) (fun h0 b hb => ?sep)).mono ?_
    case sep =>
      have hbw : b < w.heap.size := HKV.out.looks_lt h0 hb
      exact fun e => by have := HF.out.2 b e; omega
    rintro e w3 ⟨rfl, hpl, hk3⟩
    have HPL3 := (show Hid (Plat w3 B dv' (.slice none 0 0) (settleN (keepS ks) dur (dataP ps) (dataP ps).length) []) from hpl)
    have HK3 : Hid (Same w w3) := HK2.out.next hk3 (fun b hb e => by
      rcases e with rfl | e
      · have := HF.out.1; omega
      · have := HF.out.2 b e; omega)
    have HX3 : Hid (FBox w3 (w.heap.size + 1) (.slice none 0 0) (.slice none 0 0)) := HX2.out.kept hk3 (fun e => by
      rcases e with e | e
      · have := HF.out.1; omega
      · have := HF.out.2 _ e; omega)
    have hs3 := hk3.size
    clear hpl hk3
    go_wp2_with fail
    refine (disk_any B dv' (.slice none 0 0) (settleN (keepS ks) dur (dataP ps) (dataP ps).length) [] _ HPL3.out (by rw [settleN_length _ _ _ HY.out _ (Nat.le_refl _)]; exact ⟨⟨HY.out.1.1, HY.out.1.2.1, HY.out.1.2.2.1, Nat.zero_le _⟩, fun p hp => by simp at hp⟩)).mono ?_
    rintro e w4 ⟨a, n, c, a', n', c', qs, rfl, hq, hf, ho, hk⟩
    have HQ : Hid (dataP qs = []) := hq
    have HF4 := (show Hid (∀ b, footD (.slice a n c) (.slice a' n' c') qs b → w.heap.size + 1 < b) from fun b hb => by have h1 := hf b hb; omega)
    have HO := (show Hid (OwnD 0 65 5 w4 (.slice a n c) (.slice a' n' c') (settleN (keepS ks) dur (dataP ps) (dataP ps).length) qs) from ho)
    have HK : Hid (Same w w4) := HK3.out.trans hk
    obtain ⟨x1, x2, x3, x4⟩ := HX3.out.same hk
    clear hq hf ho hk
    go_wp2
    exact agg_ret (by simp [results, Try.results25, go_sem, x1, x2]) rfl (A := IsCrash ks dur (dataP ps)) (.inl ⟨HY.out, rfl, HQ.out⟩) (Nat.le_succ _) HF4.out HO.out HK.out
end Go.Proofs.Ytoibckbgiiggfai
