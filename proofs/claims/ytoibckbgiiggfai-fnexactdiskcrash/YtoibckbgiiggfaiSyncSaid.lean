/-
  DiskSync, model and program.
-/
import Derived.Test.YtoibckbgiiggfaiDiskOut
namespace Go.Proofs.Ytoibckbgiiggfai
open Go.RowKit
set_option linter.unusedSimpArgs false

/-- What a function of a disk answers: r0 and rs0 where P holds, the disk itself elsewhere. -/
def Ans (P : Prop) (r0 : List Int) (rs0 : List (Int × List Int)) (dur : List Int) (ds : List (Int × List Int)) (r : List Int) (rs : List (Int × List Int)) : Prop := (P ∧ r = r0 ∧ rs = rs0) ∨ (¬ P ∧ r = dur ∧ rs = ds)
theorem Ans.one {P : Prop} {r0 dur r r' : List Int} {rs0 ds rs rs' : List (Int × List Int)} (h : Ans P r0 rs0 dur ds r rs) (h' : Ans P r0 rs0 dur ds r' rs') : r = r' ∧ rs = rs' := by
  rcases h with ⟨h, rfl, rfl⟩ | ⟨h, rfl, rfl⟩ <;> rcases h' with ⟨h', rfl, rfl⟩ | ⟨h', rfl, rfl⟩ <;> simp_all

abbrev IsSync (dur : List Int) (ds : List (Int × List Int)) (r : List Int) (rs : List (Int × List Int)) : Prop := Ans (Valid dur.length ds) (settleN (fun _ => true) dur ds ds.length) [] dur ds r rs

theorem OwnD.ofDur {base : Nat} {tw tb : TypeId} {w : World} {v : Value} {bs : List Int} (h : Own base tb .u8 w v bs) : OwnD base tw tb w v (.slice none 0 0) bs [] := ⟨h, OwnP.nil _ _ _ _, fun b hb => absurd hb (footP_nil b)⟩
theorem footD_dur {v : Value} {b : Nat} (h : footD v (.slice none 0 0) [] b) : v.ownBlock = some b := by
  rcases h with h | h
  · exact h
  · exact absurd h (footP_nil b)

/-- The end of a function whose answer is a disk that goes through its result's box. -/
theorem agg_ret {P : Program} {fn : Func} {w wr : World} {B : Nat} {a : Act} {av : Option Addr} {n c : Nat} {av' : Option Addr} {n' c' : Nat} {r : List Int} {qs : List PW} {A : List Int → List (Int × List Int) → Prop} {tw tb : TypeId}
    (hr : (results fn a.tmps).run P ((wr.setCell ⟨B, 0, none⟩ (.slice av n c)).setCell ⟨B, 1, none⟩ (.slice av' n' c')) = .ok (.agg #[.slice av n c, .slice av' n' c']) ((wr.setCell ⟨B, 0, none⟩ (.slice av n c)).setCell ⟨B, 1, none⟩ (.slice av' n' c')))
    (hd : a.defers = []) (hA : A r (dataP qs)) (hB : w.heap.size ≤ B) (hf : ∀ b, footD (.slice av n c) (.slice av' n' c') qs b → B < b) (ho : OwnD 0 tw tb wr (.slice av n c) (.slice av' n' c') r qs) (hk : Same w wr) :
    bodyPost P fn (fun e w' => ∃ a n c a' n' c' r qs, e = .returned (.agg #[.slice a n c, .slice a' n' c']) ∧ A r (dataP qs) ∧ (∀ b, footD (.slice a n c) (.slice a' n' c') qs b → w.heap.size ≤ b) ∧ OwnD 0 tw tb w' (.slice a n c) (.slice a' n' c') r qs ∧ Same w w') .ret a
      ((wr.setCell ⟨B, 0, none⟩ (.slice av n c)).setCell ⟨B, 1, none⟩ (.slice av' n' c')) := by
  refine bodyPost_ret hr hd ⟨av, n, c, av', n', c', r, qs, rfl, hA, fun b hb => by have := hf b hb; omega, ?_, ?_⟩
  · exact OwnD.kept (R := fun b => b = B) ho (Kept.setTwo (Kept.refl (fun b => b = B) _) (.inr rfl) _ _) (fun b hb e => by have := hf b hb; omega)
  · exact hk.setTwo (.inl hB) _ _

set_option maxHeartbeats 4000000 in
theorem specSync_any (dv pv : Value) (dur : List Int) (ps : List PW) (w : World) (hd : dur.length ≤ 1099511627776) (hn : ps.length ≤ 1073741824) (hs : ∀ p ∈ ps, p.bs.length ≤ 1099511627776) (hv : RdD w dv pv dur ps) :
    Calls Try.prog 21 #[.agg #[dv, pv]] w fun e w' => ∃ a n c a' n' c' r qs, e = .returned (.agg #[.slice a n c, .slice a' n' c']) ∧ IsSync dur (dataP ps) r (dataP qs) ∧
      (∀ b, footD (.slice a n c) (.slice a' n' c') qs b → w.heap.size ≤ b) ∧ OwnD 0 65 5 w' (.slice a n c) (.slice a' n' c') r qs ∧ Same w w' := by
  obtain ⟨a1, c1, rfl⟩ := hv.dur.form
  obtain ⟨a2, c2, rfl⟩ := hv.pend.form
  have HV := (show Hid (RdD w (.slice a1 dur.length c1) (.slice a2 ps.length c2) dur ps) from hv)
  have HS : Hid (∀ p ∈ ps, p.bs.length ≤ 1099511627776) := hs
  clear hv hs
  go_enter Try.func21, Try.ntmps21
  go_wp2_with fail
  refine (specValid_any _ _ dur ps _ (HV.out.same (((Kept.refl _ _).alloc _).alloc _))).mono ?_
  rintro e w1 ⟨⟨B, rfl, hB⟩, hk1⟩
  have HB1 : Hid (Box w1 w.heap.size (.slice a1 dur.length c1) (.slice a2 ps.length c2)) := (Box.new _ _ _ _).same (((Kept.refl _ _).alloc _).trans hk1)
  have HX1 : Hid (FBox w1 (w.heap.size + 1) (.slice none 0 0) (.slice none 0 0)) := by have h := FBox.new (w.alloc (.cells #[.slice a1 dur.length c1, .slice a2 ps.length c2] 30)) (.slice none 0 0) (.slice none 0 0) 30; rw [World.size_alloc] at h; exact h.same hk1
  have HK1 : Hid (Same w w1) := (((Kept.refl _ _).alloc _).alloc _).trans hk1
  clear hk1
  obtain ⟨p1, p2⟩ := HB1.out
  have hl1 := HX1.out.lt
  cases B with
  | false =>
    have HN : Hid (¬ Valid dur.length (dataP ps)) := fun h => by have := hB.2 h; simp at this
    clear hB
    go_wp2_with fail
    refine (copyDisk_any _ _ dur ps _ hd hn HS.out (HV.out.same HK1.out)).mono ?_
    rintro e w2 ⟨a, n, c, a', n', c', qs, rfl, hq, hf, ho, hk⟩
    have HQ : Hid (dataP qs = dataP ps) := hq
    have HF := (show Hid (∀ b, footD (.slice a n c) (.slice a' n' c') qs b → w.heap.size + 1 < b) from fun b hb => by have h1 := hf b hb; omega)
    have HO := (show Hid (OwnD 0 65 5 w2 (.slice a n c) (.slice a' n' c') dur qs) from ho)
    have HK : Hid (Same w w2) := HK1.out.trans hk
    obtain ⟨x1, x2, x3, x4⟩ := HX1.out.same hk
    clear hq hf ho hk p1 p2
    go_wp2
    exact agg_ret (by simp [results, Try.results21, go_sem, x1, x2]) rfl (A := IsSync dur (dataP ps)) (.inr ⟨HN.out, rfl, HQ.out⟩) (Nat.le_succ _) HF.out HO.out HK.out
  | true =>
    have HY : Hid (Valid dur.length (dataP ps)) := hB.1 rfl
    clear hB
    go_wp2_with fail
    refine (l1Settle_all _ _ dur ps _ hd (HV.out.same HK1.out) HY.out).mono ?_
    rintro e w2 ⟨a, n, c, rfl, hf, ho, hk⟩
    rw [← dataP_length ps] at ho
    have HF := (show Hid (∀ b, (Value.slice a n c).ownBlock = some b → w.heap.size + 1 < b) from fun b hb => by have h1 := hf b hb; omega)
    have HO := (show Hid (Own 0 5 .u8 w2 (.slice a n c) (settleN (fun _ => true) dur (dataP ps) (dataP ps).length)) from ho)
    have HK : Hid (Same w w2) := HK1.out.trans hk
    obtain ⟨x1, x2, x3, x4⟩ := HX1.out.same hk
    clear hf ho hk p1 p2
    go_wp2
    exact agg_ret (by simp [results, Try.results21, go_sem, x1, x2]) rfl (A := IsSync dur (dataP ps)) (.inl ⟨HY.out, rfl, rfl⟩) (Nat.le_succ _) (fun b hb => HF.out b (footD_dur hb)) (.ofDur HO.out) HK.out

set_option maxHeartbeats 4000000 in
theorem implSync_any (dv pv : Value) (dur : List Int) (ps : List PW) (w : World) (hd : dur.length ≤ 1099511627776) (hn : ps.length ≤ 1073741824) (hs : ∀ p ∈ ps, p.bs.length ≤ 1099511627776) (hv : RdD w dv pv dur ps) :
    Calls Try.prog 22 #[.agg #[dv, pv]] w fun e w' => ∃ a n c a' n' c' r qs, e = .returned (.agg #[.slice a n c, .slice a' n' c']) ∧ IsSync dur (dataP ps) r (dataP qs) ∧
      (∀ b, footD (.slice a n c) (.slice a' n' c') qs b → w.heap.size ≤ b) ∧ OwnD 0 65 5 w' (.slice a n c) (.slice a' n' c') r qs ∧ Same w w' := by
  obtain ⟨a1, c1, rfl⟩ := hv.dur.form
  obtain ⟨a2, c2, rfl⟩ := hv.pend.form
  have HV := (show Hid (RdD w (.slice a1 dur.length c1) (.slice a2 ps.length c2) dur ps) from hv)
  have HS : Hid (∀ p ∈ ps, p.bs.length ≤ 1099511627776) := hs
  clear hv hs
  go_enter Try.func22, Try.ntmps22
  go_wp2_with fail
  refine (implValid_any _ _ dur ps _ (HV.out.same (((Kept.refl _ _).alloc _).alloc _))).mono ?_
  rintro e w1 ⟨⟨B, rfl, hB⟩, hk1⟩
  have HB1 : Hid (Box w1 w.heap.size (.slice a1 dur.length c1) (.slice a2 ps.length c2)) := (Box.new _ _ _ _).same (((Kept.refl _ _).alloc _).trans hk1)
  have HX1 : Hid (FBox w1 (w.heap.size + 1) (.slice none 0 0) (.slice none 0 0)) := by have h := FBox.new (w.alloc (.cells #[.slice a1 dur.length c1, .slice a2 ps.length c2] 30)) (.slice none 0 0) (.slice none 0 0) 30; rw [World.size_alloc] at h; exact h.same hk1
  have HK1 : Hid (Same w w1) := (((Kept.refl _ _).alloc _).alloc _).trans hk1
  clear hk1
  obtain ⟨p1, p2⟩ := HB1.out
  have hl1 := HX1.out.lt
  cases B with
  | false =>
    have HN : Hid (¬ Valid dur.length (dataP ps)) := fun h => by have := hB.2 h; simp at this
    clear hB
    go_wp2_with fail
    refine (cloneDisk_any _ _ dur ps _ hd hn HS.out (HV.out.same HK1.out)).mono ?_
    rintro e w2 ⟨a, n, c, a', n', c', qs, rfl, hq, hf, ho, hk⟩
    have HQ : Hid (dataP qs = dataP ps) := hq
    have HF := (show Hid (∀ b, footD (.slice a n c) (.slice a' n' c') qs b → w.heap.size + 1 < b) from fun b hb => by have h1 := hf b hb; omega)
    have HO := (show Hid (OwnD 0 65 5 w2 (.slice a n c) (.slice a' n' c') dur qs) from ho)
    have HK : Hid (Same w w2) := HK1.out.trans hk
    obtain ⟨x1, x2, x3, x4⟩ := HX1.out.same hk
    clear hq hf ho hk p1 p2
    go_wp2
    exact agg_ret (by simp [results, Try.results22, go_sem, x1, x2]) rfl (A := IsSync dur (dataP ps)) (.inr ⟨HN.out, rfl, HQ.out⟩) (Nat.le_succ _) HF.out HO.out HK.out
  | true =>
    have HY : Hid (Valid dur.length (dataP ps)) := hB.1 rfl
    clear hB
    go_wp2_with fail
    refine (openDisk_any _ _ dur ps _ (HV.out.same HK1.out) HY.out).mono ?_
    rintro e w2 ⟨B, dv', pv', rfl, hpl, ⟨hf1, hf2, hf3⟩, hk2⟩
    have HPL := (show Hid (Plat w2 B dv' pv' dur (dataP ps)) from hpl)
    have HF := (show Hid (w1.heap.size ≤ B ∧ ∀ b, dv'.ownBlock = some b → w1.heap.size ≤ b) from ⟨hf1, hf2⟩)
    have HK2 : Hid (Same w w2) := HK1.out.trans hk2
    have HX2 : Hid (FBox w2 (w.heap.size + 1) (.slice none 0 0) (.slice none 0 0)) := HX1.out.same hk2
    have hs2 := hk2.size
    clear hpl hf1 hf2 hf3 hk2 p1 p2
    go_wp2_with fail
    refine (sync_any B dv' pv' dur (dataP ps) _ HPL.out HY.out).mono ?_
    rintro e w3 ⟨rfl, hpl, hk3⟩
    have HPL3 := (show Hid (Plat w3 B dv' (.slice none 0 0) (settleN (fun _ => true) dur (dataP ps) (dataP ps).length) []) from hpl)
    have HK3 : Hid (Same w w3) := HK2.out.next hk3 (fun b hb e => by
      rcases e with rfl | e
      · have := HF.out.1; omega
      · have := HF.out.2 b e; omega)
    have HX3 : Hid (FBox w3 (w.heap.size + 1) (.slice none 0 0) (.slice none 0 0)) := HX2.out.kept hk3 (fun e => by
      rcases e with e | e
      · have := HF.out.1; omega
      · have := HF.out.2 _ e; omega)
    have hs3 := hk3.size
    clear hpl hk3
    go_wp2_with fail
    refine (disk_any B dv' (.slice none 0 0) (settleN (fun _ => true) dur (dataP ps) (dataP ps).length) [] _ HPL3.out (by rw [settleN_length _ _ _ HY.out _ (Nat.le_refl _)]; exact ⟨⟨HY.out.1.1, HY.out.1.2.1, HY.out.1.2.2.1, Nat.zero_le _⟩, fun p hp => by simp at hp⟩)).mono ?_
    rintro e w4 ⟨a, n, c, a', n', c', qs, rfl, hq, hf, ho, hk⟩
    have HQ : Hid (dataP qs = []) := hq
    have HF4 := (show Hid (∀ b, footD (.slice a n c) (.slice a' n' c') qs b → w.heap.size + 1 < b) from fun b hb => by have h1 := hf b hb; omega)
    have HO := (show Hid (OwnD 0 65 5 w4 (.slice a n c) (.slice a' n' c') (settleN (fun _ => true) dur (dataP ps) (dataP ps).length) qs) from ho)
    have HK : Hid (Same w w4) := HK3.out.trans hk
    obtain ⟨x1, x2, x3, x4⟩ := HX3.out.same hk
    clear hq hf ho hk
    go_wp2
    exact agg_ret (by simp [results, Try.results22, go_sem, x1, x2]) rfl (A := IsSync dur (dataP ps)) (.inl ⟨HY.out, rfl, HQ.out⟩) (Nat.le_succ _) HF4.out HO.out HK.out
end Go.Proofs.Ytoibckbgiiggfai
