import Derived.Test.YteacihpankkhkaaG07
import Derived.Test.YteacihpankkhkaaG02
import Derived.Deep.DeepCutAuto
namespace Go.Proofs.Yteacihpankkhkaa
set_option maxHeartbeats 4000000
open Go.RowKit
set_option linter.unusedSimpArgs false
def Ans (P : Prop) (r0 : List Int) (rs0 : List (Int × List Int)) (dur : List Int) (ds : List (Int × List Int)) (r : List Int) (rs : List (Int × List Int)) : Prop := (P ∧ r = r0 ∧ rs = rs0) ∨ (¬ P ∧ r = dur ∧ rs = ds)
theorem Ans.one {P : Prop} {r0 dur r r' : List Int} {rs0 ds rs rs' : List (Int × List Int)} (h : Ans P r0 rs0 dur ds r rs) (h' : Ans P r0 rs0 dur ds r' rs') : r = r' ∧ rs = rs' := by
  rcases h with ⟨h, rfl, rfl⟩ | ⟨h, rfl, rfl⟩ <;> rcases h' with ⟨h', rfl, rfl⟩ | ⟨h', rfl, rfl⟩ <;> simp_all
abbrev IsSync (dur : List Int) (ds : List (Int × List Int)) (r : List Int) (rs : List (Int × List Int)) : Prop := Ans (Valid dur.length ds) (settleN (fun _ => true) dur ds ds.length) [] dur ds r rs
theorem OwnD.ofDur {base : Nat} {tw tb : TypeId} {w : World} {v : Value} {bs : List Int} (h : Own base tb .u8 w v bs) : OwnD base tw tb w v (.slice none 0 0) bs [] := ⟨h, OwnP.nil _ _ _ _, fun b hb => absurd hb (footP_nil b)⟩
theorem footD_dur {v : Value} {b : Nat} (h : footD v (.slice none 0 0) [] b) : v.ownBlock = some b := by
  rcases h with h | h
  · exact h
  · exact absurd h (footP_nil b)
theorem agg_ret {P : Program} {fn : Func} {w wr : World} {B : Nat} {a : Act} {av : Option Addr} {n c : Nat} {av' : Option Addr} {n' c' : Nat} {r : List Int} {qs : List PW} {A : List Int → List (Int × List Int) → Prop} {tw tb : TypeId}
    (hr : (results fn a.tmps).run P ((wr.setCell ⟨B, 0, none⟩ (.slice av n c)).setCell ⟨B, 1, none⟩ (.slice av' n' c')) = .ok (.agg #[.slice av n c, .slice av' n' c']) ((wr.setCell ⟨B, 0, none⟩ (.slice av n c)).setCell ⟨B, 1, none⟩ (.slice av' n' c')))
    (hd : a.defers = []) (hA : A r (dataP qs)) (hB : w.heap.size ≤ B) (hf : ∀ b, footD (.slice av n c) (.slice av' n' c') qs b → B < b) (ho : OwnD 0 tw tb wr (.slice av n c) (.slice av' n' c') r qs) (hk : Same w wr) :
    bodyPost P fn (fun e w' => ∃ a n c a' n' c' r qs, e = .returned (.agg #[.slice a n c, .slice a' n' c']) ∧ A r (dataP qs) ∧ (∀ b, footD (.slice a n c) (.slice a' n' c') qs b → w.heap.size ≤ b) ∧ OwnD 0 tw tb w' (.slice a n c) (.slice a' n' c') r qs ∧ Same w w') .ret a
      ((wr.setCell ⟨B, 0, none⟩ (.slice av n c)).setCell ⟨B, 1, none⟩ (.slice av' n' c')) := by
  refine bodyPost_ret hr hd ⟨av, n, c, av', n', c', r, qs, rfl, hA, fun b hb => by have := hf b hb; omega, ?_, ?_⟩
  · exact OwnD.kept (R := fun b => b = B) ho (Kept.setTwo (Kept.refl (fun b => b = B) _) (.inr rfl) _ _) (fun b hb e => by have := hf b hb; omega)
  · exact hk.setTwo (.inl hB) _ _
theorem specSync_any (dv pv : Value) (dur : List Int) (ps : List PW) (w : World) (hd : dur.length ≤ 1099511627776) (hn : ps.length ≤ 1073741824) (hs : ∀ p ∈ ps, p.bs.length ≤ 1099511627776) (hv : RdD w dv pv dur ps) :
    Calls Try.prog 21 #[.agg #[dv, pv]] w fun e w' => ∃ a n c a' n' c' r qs, e = .returned (.agg #[.slice a n c, .slice a' n' c']) ∧ IsSync dur (dataP ps) r (dataP qs) ∧
      (∀ b, footD (.slice a n c) (.slice a' n' c') qs b → w.heap.size ≤ b) ∧ OwnD 0 45 5 w' (.slice a n c) (.slice a' n' c') r qs ∧ Same w w' := by
  obtain ⟨a1, c1, rfl⟩ := hv.dur.form
  obtain ⟨a2, c2, rfl⟩ := hv.pend.form
  have HV := (show Hid (RdD w (.slice a1 dur.length c1) (.slice a2 ps.length c2) dur ps) from hv)
  have HS : Hid (∀ p ∈ ps, p.bs.length ≤ 1099511627776) := hs
  clear hv hs
  go_enter Try.func21, Try.ntmps21
  go_wp2_with fail
  refine (specValid_any _ _ dur ps _ (HV.out.same (((Kept.refl _ _).alloc _).alloc _))).mono ?_
  rintro e w1 ⟨⟨B, rfl, hB⟩, hk1⟩
  have HB1 : Hid (Box w1 w.heap.size (.slice a1 dur.length c1) (.slice a2 ps.length c2)) := (Box.new _ _ _ _).same (((Kept.refl _ _).alloc _).trans hk1)
  have HX1 : Hid (FBox w1 (w.heap.size + 1) (.slice none 0 0) (.slice none 0 0)) := by have h := FBox.new (w.alloc (.cells #[.slice a1 dur.length c1, .slice a2 ps.length c2] 30)) (.slice none 0 0) (.slice none 0 0) 30; rw [World.size_alloc] at h; exact h.same hk1
  have HK1 : Hid (Same w w1) := (((Kept.refl _ _).alloc _).alloc _).trans hk1
  clear hk1
  obtain ⟨p1, p2⟩ := HB1.out
  have hl1 := HX1.out.lt
  cases B with
  | false =>
    have HN : Hid (¬ Valid dur.length (dataP ps)) := fun h => by have := hB.2 h; simp at this
    clear hB
    go_wp2_with fail
    refine (copyDisk_any _ _ dur ps _ hd hn HS.out (HV.out.same HK1.out)).mono ?_
    rintro e w2 ⟨a, n, c, a', n', c', qs, rfl, hq, hf, ho, hk⟩
    have HQ : Hid (dataP qs = dataP ps) := hq
    have HF := (show Hid (∀ b, footD (.slice a n c) (.slice a' n' c') qs b → w.heap.size + 1 < b) from fun b hb => by have h1 := hf b hb; omega)
    have HO := (show Hid (OwnD 0 45 5 w2 (.slice a n c) (.slice a' n' c') dur qs) from ho)
    have HK : Hid (Same w w2) := HK1.out.trans hk
    obtain ⟨x1, x2, x3, x4⟩ := HX1.out.same hk
    clear hq hf ho hk p1 p2
    go_wp2
    exact agg_ret (by simp [results, Try.results21, go_sem, x1, x2]) rfl (A := IsSync dur (dataP ps)) (.inr ⟨HN.out, rfl, HQ.out⟩) (Nat.le_succ _) HF.out HO.out HK.out
  | true =>
    have HY : Hid (Valid dur.length (dataP ps)) := hB.1 rfl
    clear hB
    go_wp2_with fail
    refine (l1Settle_all _ _ dur ps _ hd (HV.out.same HK1.out) HY.out).mono ?_
    rintro e w2 ⟨a, n, c, rfl, hf, ho, hk⟩
    rw [← dataP_length ps] at ho
    have HF := (show Hid (∀ b, (Value.slice a n c).ownBlock = some b → w.heap.size + 1 < b) from fun b hb => by have h1 := hf b hb; omega)
    have HO := (show Hid (Own 0 5 .u8 w2 (.slice a n c) (settleN (fun _ => true) dur (dataP ps) (dataP ps).length)) from ho)
    have HK : Hid (Same w w2) := HK1.out.trans hk
    obtain ⟨x1, x2, x3, x4⟩ := HX1.out.same hk
    clear hf ho hk p1 p2
    go_wp2
    exact agg_ret (by simp [results, Try.results21, go_sem, x1, x2]) rfl (A := IsSync dur (dataP ps)) (.inl ⟨HY.out, rfl, rfl⟩) (Nat.le_succ _) (fun b hb => HF.out b (footD_dur hb)) (.ofDur HO.out) HK.out
theorem implSync_any (dv pv : Value) (dur : List Int) (ps : List PW) (w : World) (hd : dur.length ≤ 1099511627776) (hn : ps.length ≤ 1073741824) (hs : ∀ p ∈ ps, p.bs.length ≤ 1099511627776) (hv : RdD w dv pv dur ps) :
    Calls Try.prog 22 #[.agg #[dv, pv]] w fun e w' => ∃ a n c a' n' c' r qs, e = .returned (.agg #[.slice a n c, .slice a' n' c']) ∧ IsSync dur (dataP ps) r (dataP qs) ∧
      (∀ b, footD (.slice a n c) (.slice a' n' c') qs b → w.heap.size ≤ b) ∧ OwnD 0 45 5 w' (.slice a n c) (.slice a' n' c') r qs ∧ Same w w' := by
  obtain ⟨a1, c1, rfl⟩ := hv.dur.form
  obtain ⟨a2, c2, rfl⟩ := hv.pend.form
  have HV := (show Hid (RdD w (.slice a1 dur.length c1) (.slice a2 ps.length c2) dur ps) from hv)
  have HS : Hid (∀ p ∈ ps, p.bs.length ≤ 1099511627776) := hs
  clear hv hs
  go_enter Try.func22, Try.ntmps22
  go_wp2_with fail
  refine (implValid_any _ _ dur ps _ (HV.out.same (((Kept.refl _ _).alloc _).alloc _))).mono ?_
  rintro e w1 ⟨⟨B, rfl, hB⟩, hk1⟩
  have HB1 : Hid (Box w1 w.heap.size (.slice a1 dur.length c1) (.slice a2 ps.length c2)) := (Box.new _ _ _ _).same (((Kept.refl _ _).alloc _).trans hk1)
  have HX1 : Hid (FBox w1 (w.heap.size + 1) (.slice none 0 0) (.slice none 0 0)) := by have h := FBox.new (w.alloc (.cells #[.slice a1 dur.length c1, .slice a2 ps.length c2] 30)) (.slice none 0 0) (.slice none 0 0) 30; rw [World.size_alloc] at h; exact h.same hk1
  have HK1 : Hid (Same w w1) := (((Kept.refl _ _).alloc _).alloc _).trans hk1
  clear hk1
  obtain ⟨p1, p2⟩ := HB1.out
  have hl1 := HX1.out.lt
  cases B with
  | false =>
    have HN : Hid (¬ Valid dur.length (dataP ps)) := fun h => by have := hB.2 h; simp at this
    clear hB
    go_wp2_with fail
    refine (cloneDisk_any _ _ dur ps _ hd hn HS.out (HV.out.same HK1.out)).mono ?_
    rintro e w2 ⟨a, n, c, a', n', c', qs, rfl, hq, hf, ho, hk⟩
    have HQ : Hid (dataP qs = dataP ps) := hq
    have HF := (show Hid (∀ b, footD (.slice a n c) (.slice a' n' c') qs b → w.heap.size + 1 < b) from fun b hb => by have h1 := hf b hb; omega)
    have HO := (show Hid (OwnD 0 45 5 w2 (.slice a n c) (.slice a' n' c') dur qs) from ho)
    have HK : Hid (Same w w2) := HK1.out.trans hk
    obtain ⟨x1, x2, x3, x4⟩ := HX1.out.same hk
    clear hq hf ho hk p1 p2
    go_wp2
    exact agg_ret (by simp [results, Try.results22, go_sem, x1, x2]) rfl (A := IsSync dur (dataP ps)) (.inr ⟨HN.out, rfl, HQ.out⟩) (Nat.le_succ _) HF.out HO.out HK.out
  | true =>
    have HY : Hid (Valid dur.length (dataP ps)) := hB.1 rfl
    clear hB
    go_wp2_with fail
    refine (openDisk_any _ _ dur ps _ (HV.out.same HK1.out) HY.out).mono ?_
    rintro e w2 ⟨B, dv', pv', rfl, hpl, ⟨hf1, hf2, hf3⟩, hk2⟩
    have HPL := (show Hid (Plat w2 B dv' pv' dur (dataP ps)) from hpl)
    have HF := (show Hid (w1.heap.size ≤ B ∧ ∀ b, dv'.ownBlock = some b → w1.heap.size ≤ b) from ⟨hf1, hf2⟩)
    have HK2 : Hid (Same w w2) := HK1.out.trans hk2
    have HX2 : Hid (FBox w2 (w.heap.size + 1) (.slice none 0 0) (.slice none 0 0)) := HX1.out.same hk2
    have hs2 := hk2.size
    clear hpl hf1 hf2 hf3 hk2 p1 p2
    go_wp2_with fail
    refine (sync_any B dv' pv' dur (dataP ps) _ HPL.out HY.out).mono ?_
    rintro e w3 ⟨rfl, hpl, hk3⟩
    have HPL3 := (show Hid (Plat w3 B dv' (.slice none 0 0) (settleN (fun _ => true) dur (dataP ps) (dataP ps).length) []) from hpl)
    have HK3 : Hid (Same w w3) := HK2.out.next hk3 (fun b hb e => by
      rcases e with rfl | e
      · have := HF.out.1; omega
      · have := HF.out.2 b e; omega)
    have HX3 : Hid (FBox w3 (w.heap.size + 1) (.slice none 0 0) (.slice none 0 0)) := HX2.out.kept hk3 (fun e => by
      rcases e with e | e
      · have := HF.out.1; omega
      · have := HF.out.2 _ e; omega)
    have hs3 := hk3.size
    clear hpl hk3
    go_wp2_with fail
    refine (disk_any B dv' (.slice none 0 0) (settleN (fun _ => true) dur (dataP ps) (dataP ps).length) [] _ HPL3.out (by rw [settleN_length _ _ _ HY.out _ (Nat.le_refl _)]; exact ⟨⟨HY.out.1.1, HY.out.1.2.1, HY.out.1.2.2.1, Nat.zero_le _⟩, fun p hp => by simp at hp⟩)).mono ?_
    rintro e w4 ⟨a, n, c, a', n', c', qs, rfl, hq, hf, ho, hk⟩
    have HQ : Hid (dataP qs = []) := hq
    have HF4 := (show Hid (∀ b, footD (.slice a n c) (.slice a' n' c') qs b → w.heap.size + 1 < b) from fun b hb => by have h1 := hf b hb; omega)
    have HO := (show Hid (OwnD 0 45 5 w4 (.slice a n c) (.slice a' n' c') (settleN (fun _ => true) dur (dataP ps) (dataP ps).length) qs) from ho)
    have HK : Hid (Same w w4) := HK3.out.trans hk
    obtain ⟨x1, x2, x3, x4⟩ := HX3.out.same hk
    clear hq hf ho hk
    go_wp2
    exact agg_ret (by simp [results, Try.results22, go_sem, x1, x2]) rfl (A := IsSync dur (dataP ps)) (.inl ⟨HY.out, rfl, HQ.out⟩) (Nat.le_succ _) HF4.out HO.out HK.out
end Go.Proofs.Yteacihpankkhkaa

namespace Go.Proofs.Yteacihpankkhkaa
theorem Ans.small {P : Prop} {r0 dur r : List Int} {rs0 : List (Int × List Int)} {ps qs : List PW} (h : Ans P r0 rs0 dur (dataP ps) r (dataP qs)) (h0 : P → r0.length ≤ dur.length) (h1 : P → ∃ ps0 : List PW, dataP ps0 = rs0 ∧ ps0.length ≤ 2097152 ∧ sizeP ps0 ≤ 2097152)
    (hd : dur.length ≤ 1048576) (hp : ps.length ≤ 1048576) (hsz : sizeP ps ≤ 1048576) : r.length ≤ 1048576 ∧ qs.length ≤ 2097152 ∧ sizeP qs ≤ 2097152 := by
  rcases h with ⟨h, rfl, e⟩ | ⟨h, rfl, e⟩
  · obtain ⟨ps0, e0, l0, s0⟩ := h1 h
    have e1 : dataP qs = dataP ps0 := e.trans e0.symm
    exact ⟨Nat.le_trans (h0 h) hd, by rw [← dataP_length, e1, dataP_length]; exact l0, by rw [dataP_sizeP e1]; exact s0⟩
  · exact ⟨hd, by rw [← dataP_length, e, dataP_length]; omega, by rw [dataP_sizeP e]; omega⟩
end Go.Proofs.Yteacihpankkhkaa

namespace Go.Proofs.Yteacihpankkhkaa
set_option maxHeartbeats 8000000
open Go.RowKit
theorem IsSync.small {dur r : List Int} {ps qs : List PW} (h : IsSync dur (dataP ps) r (dataP qs)) (hd : dur.length ≤ 1048576) (hp : ps.length ≤ 1048576) (hsz : sizeP ps ≤ 1048576) : r.length ≤ 1048576 ∧ qs.length ≤ 2097152 ∧ sizeP qs ≤ 2097152 :=
  Ans.small h (fun hv => Nat.le_of_eq (settleN_length _ _ _ hv _ (Nat.le_refl _))) (fun _ => ⟨[], rfl, Nat.zero_le _, Nat.zero_le _⟩) hd hp hsz
theorem diskSync_law (dv pv : Value) (dur : List Int) (ps : List PW) (w : World) (hv : RdD w dv pv dur ps) :
    Calls Try.prog 6 #[.agg #[dv, pv]] w fun e w' => e = .returned (.bool true) ∧ Same w w' := by
  obtain ⟨a1, c1, rfl⟩ := hv.dur.form
  obtain ⟨a2, c2, rfl⟩ := hv.pend.form
  have HV := (show Hid (RdD w (.slice a1 dur.length c1) (.slice a2 ps.length c2) dur ps) from hv)
  clear hv
  go_enter Try.func6, Try.ntmps6
  go_wp2_with fail
  refine (szDisk_any _ _ dur ps _ _ (by omega) (by omega) (HV.out.same ((Kept.refl _ _).alloc _))).mono ?_
  rintro e w1 ⟨sz, rfl, hr, hk1⟩
  have HB1 : Hid (Box w1 w.heap.size (.slice a1 dur.length c1) (.slice a2 ps.length c2)) := (Box.new _ _ _ _).same hk1
  have HK1 : Hid (Same w w1) := ((Kept.refl _ _).alloc _).trans hk1
  clear hk1
  rcases hr with rfl | ⟨hr, hr0⟩
  · go_wp2
    go_ret
    exact ⟨rfl, HK1.out⟩
  · have hd : dur.length ≤ 1048576 := by omega
    have hp : ps.length ≤ 1048576 := by omega
    have hsz : sizeP ps ≤ 1048576 := by omega
    have HS : Hid (∀ p ∈ ps, p.bs.length ≤ 1048576) := fun p hp => by have := sizeP_mem ps p hp; omega
    have HS' : Hid (∀ qs : List PW, dataP qs = dataP ps → qs.length ≤ 1073741824 ∧ ∀ p ∈ qs, p.bs.length ≤ 1099511627776) := fun qs hq => ⟨by rw [← dataP_length, hq, dataP_length]; omega, fun p hp => by have := sizeP_mem qs p hp; rw [dataP_sizeP hq] at this; omega⟩
    clear hr
    obtain ⟨b1, b2⟩ := HB1.out
    go_wp2_with fail
    refine (toDisk_any _ _ dur ps _ (by omega) (by omega) (fun p hp => Nat.le_trans (HS.out p hp) (by omega)) (HV.out.same HK1.out)).mono ?_
    rintro e w2 ⟨g1, g1', qs1, rfl, hq1, hf1, ho1, hk2⟩
    have HQ1 : Hid (dataP qs1 = dataP ps) := hq1
    have HO1 := (show Hid (RdD w2 (.slice (some ⟨g1, 0, none⟩) dur.length dur.length) (.slice (some ⟨g1', 0, none⟩) ps.length ps.length) dur qs1) from ho1.rd)
    have HB2 : Hid (Box w2 w.heap.size (.slice a1 dur.length c1) (.slice a2 ps.length c2)) := HB1.out.same hk2
    have HK2 : Hid (Same w w2) := HK1.out.trans hk2
    clear hq1 hf1 ho1 hk2 b1 b2
    go_wp2_with fail
    refine (specSync_any _ _ dur qs1 _ (by omega) (HS'.out qs1 HQ1.out).1 (HS'.out qs1 HQ1.out).2 HO1.out).mono ?_
    rintro e w3 ⟨a3, n3, c3, a3', n3', c3', r, qs3, rfl, hR, hf3, ho3, hk3⟩
    rw [HQ1.out] at hR
    have HR : Hid (IsSync dur (dataP ps) r (dataP qs3)) := hR
    obtain ⟨hrl, hql, hqs⟩ := IsSync.small hR hd hp hsz
    have HSQ : Hid (∀ p ∈ qs3, p.bs.length ≤ 1125899906842624) := fun p hp => by have := sizeP_mem qs3 p hp; omega
    have HO3 := (show Hid (OwnD 0 45 5 w3 (.slice a3 n3 c3) (.slice a3' n3' c3') r qs3) from ho3)
    have HB3 : Hid (Box w3 w.heap.size (.slice a1 dur.length c1) (.slice a2 ps.length c2)) := HB2.out.same hk3
    have HK3 : Hid (Same w w3) := HK2.out.trans hk3
    clear hR ho3 hf3 hk3 HO1
    have hl3 := HB3.out.lt
    obtain ⟨b1, b2⟩ := HB3.out
    go_wp2_with fail
    refine (toDisk_any _ _ dur ps _ (by omega) (by omega) (fun p hp => Nat.le_trans (HS.out p hp) (by omega)) (HV.out.same (HK3.out.alloc _))).mono ?_
    rintro e w4 ⟨g2, g2', qs2, rfl, hq2, hf2, ho2, hk4⟩
    have hk4' : Same w3 w4 := ((Kept.refl _ _).alloc _).trans hk4
    have HQ2 : Hid (dataP qs2 = dataP ps) := hq2
    have HO2 := (show Hid (OwnD 0 45 5 w4 (.slice (some ⟨g2, 0, none⟩) dur.length dur.length) (.slice (some ⟨g2', 0, none⟩) ps.length ps.length) dur qs2) from ho2)
    have HF2 : Hid (∀ b, footD (.slice (some ⟨g2, 0, none⟩) dur.length dur.length) (.slice (some ⟨g2', 0, none⟩) ps.length ps.length) qs2 b → w3.heap.size < b ∧ b < w4.heap.size) := fun b hb => ⟨by have h := hf2 b hb; rw [World.size_alloc] at h; omega, (ho2.lt b hb).2⟩
    have HB4 : Hid (Box w4 w.heap.size (.slice a1 dur.length c1) (.slice a2 ps.length c2)) := HB3.out.same hk4'
    have HZ4 : Hid (Box w4 w3.heap.size (.slice a3 n3 c3) (.slice a3' n3' c3')) := (Box.new _ _ _ _).same hk4
    have HW4 := hid (HO3.out.same hk4')
    have HK4 : Hid (Same w w4) := HK3.out.trans hk4'
    clear hq2 hf2 ho2 hk4 hk4' b1 b2
    have hl4 := HZ4.out.lt
    go_wp2_with fail
    refine (implSync_any _ _ dur qs2 _ (by omega) (HS'.out qs2 HQ2.out).1 (HS'.out qs2 HQ2.out).2 (HO2.out.rd.same ((Kept.refl _ _).alloc _))).mono ?_
    rintro e w5 ⟨a5, n5, c5, a5', n5', c5', r5, qs5, rfl, hR5, hf5, ho5, hk5⟩
    rw [HQ2.out] at hR5
    obtain ⟨rfl, hq5⟩ := hR5.one HR.out
    have HQ5 : Hid (dataP qs5 = dataP qs3) := hq5
    have hk5' : Same w4 w5 := ((Kept.refl _ _).alloc _).trans hk5
    have HB5 : Hid (Box w5 w.heap.size (.slice a1 dur.length c1) (.slice a2 ps.length c2)) := HB4.out.same hk5'
    have HZ5 : Hid (Box w5 w3.heap.size (.slice a3 n3 c3) (.slice a3' n3' c3')) := HZ4.out.same hk5'
    have HX5 : Hid (Box w5 w4.heap.size (.slice (some ⟨g2, 0, none⟩) dur.length dur.length) (.slice (some ⟨g2', 0, none⟩) ps.length ps.length)) := (Box.new _ _ _ _).same hk5
    have HO5 := hid (HO2.out.same hk5')
    have HW5 := hid (HW4.out.same hk5')
    have HG5 := (show Hid (OwnD 0 45 5 w5 (.slice a5 n5 c5) (.slice a5' n5' c5') r5 qs5) from ho5)
    have HGF : Hid (∀ b, footD (.slice a5 n5 c5) (.slice a5' n5' c5') qs5 b → w4.heap.size < b ∧ b < w5.heap.size) := fun b hb => ⟨by have h := hf5 b hb; rw [World.size_alloc] at h; omega, (ho5.lt b hb).2⟩
    have HK5 : Hid (Same w w5) := HK4.out.trans hk5'
    clear hR5 ho5 hf5 hk5 hk5' hq5
    have hl5 := HX5.out.lt
    have hl35 := HZ5.out.lt
    have hq5l : qs5.length ≤ 2097152 := by rw [← dataP_length, HQ5.out, dataP_length]; exact hql
    have HSQ5 : Hid (∀ p ∈ qs5, p.bs.length ≤ 1125899906842624) := fun p hp => by have := sizeP_mem qs5 p hp; rw [dataP_sizeP HQ5.out] at this; omega
    obtain ⟨z1, z2⟩ := HZ5.out
    go_wp2_with fail
    refine (eqDisk_own 0 _ _ _ _ r5 qs5 qs3 _ (by omega) (by omega) HQ5.out HSQ5.out (HG5.out.same ((Kept.refl _ _).alloc _)) (HW5.out.same ((Kept.refl _ _).alloc _))).mono ?_
    rintro e w6 ⟨rfl, hk6'⟩
    have hk6 : Same w5 w6 := ((Kept.refl _ _).alloc _).trans hk6'
    have HB6 : Hid (Box w6 w.heap.size (.slice a1 dur.length c1) (.slice a2 ps.length c2)) := HB5.out.same hk6
    have HZ6 : Hid (Box w6 w3.heap.size (.slice a3 n3 c3) (.slice a3' n3' c3')) := HZ5.out.same hk6
    have HX6 : Hid (Box w6 w4.heap.size (.slice (some ⟨g2, 0, none⟩) dur.length dur.length) (.slice (some ⟨g2', 0, none⟩) ps.length ps.length)) := HX5.out.same hk6
    have HY6 : Hid (Box w6 w5.heap.size (.slice a5 n5 c5) (.slice a5' n5' c5')) := (Box.new _ _ _ _).same hk6'
    have HO6 := hid (HO5.out.same hk6)
    have HW6 := hid (HW5.out.same hk6)
    have HG6 := hid (HG5.out.same hk6)
    have HK6 : Hid (Same w w6) := HK5.out.trans hk6
    clear hk6 hk6' z1 z2
    have hl6 := HY6.out.lt
    obtain ⟨b1, b2⟩ := HB6.out
    obtain ⟨x1, x2⟩ := HX6.out
    go_wp2_with fail
    go_cut [31] (fun v wc => v = .bool false ∧ Hid (Same w6 wc))
    case first =>
      have HD1 : Hid (Same w w6.drew) := HK6.out.drew
      have HD2 : Hid (Same w6 w6.drew) := (Kept.refl _ _).drew
      go_region_with (first | (go_at_call 9; refine (toDisk_any _ _ dur ps _ (by omega) (by omega) (fun p hp => Nat.le_trans (HS.out p hp) (by omega)) (by exact HV.out.same HD1.out)).mono ?_; rintro e w7 ⟨g3, g3', qs7, rfl, hq3, hf3, ho3, hk7⟩; obtain ⟨y1, y2⟩ := HX6.out.same (HD2.out.trans hk7); have HO7 := (show Hid (OwnD 0 45 5 w7 (.slice (some ⟨g3, 0, none⟩) dur.length dur.length) (.slice (some ⟨g3', 0, none⟩) ps.length ps.length) dur qs7) from ho3); have HQ7 : Hid (dataP qs7 = dataP ps) := hq3; have HK7 : Hid (Same w6 w7) := HD2.out.trans hk7; clear ho3 hq3 hf3 hk7) | (go_at_call 11; refine (eqDisk_own 0 _ _ _ _ dur qs2 qs7 _ (by omega) (by have h := (HS'.out qs2 HQ2.out).1; omega) (HQ2.out.trans HQ7.out.symm) (fun p hp => Nat.le_trans ((HS'.out qs2 HQ2.out).2 p hp) (by omega)) (HO6.out.same HK7.out) HO7.out).mono ?_; rintro e w8 ⟨rfl, hk8⟩))
      all_goals
        have HK8 : Hid (Same w6 w8) := HK7.out.trans hk8
        clear hk8
        go_wp2_with fail
        go_meet
        case rel => exact ⟨rfl, HK8⟩
    case rest =>
      obtain ⟨rfl, HKC⟩ := hcut
      have HBc : Hid (Box wc w.heap.size (.slice a1 dur.length c1) (.slice a2 ps.length c2)) := HB6.out.same HKC.out
      have HZc : Hid (Box wc w3.heap.size (.slice a3 n3 c3) (.slice a3' n3' c3')) := HZ6.out.same HKC.out
      have HXc : Hid (Box wc w4.heap.size (.slice (some ⟨g2, 0, none⟩) dur.length dur.length) (.slice (some ⟨g2', 0, none⟩) ps.length ps.length)) := HX6.out.same HKC.out
      have HYc : Hid (Box wc w5.heap.size (.slice a5 n5 c5) (.slice a5' n5' c5')) := HY6.out.same HKC.out
      have HOc := hid (HO6.out.same HKC.out)
      have HWc := hid (HW6.out.same HKC.out)
      have HGc := hid (HG6.out.same HKC.out)
      have HKc : Hid (Same w wc) := HK6.out.trans HKC.out
      clear x1 x2 b1 b2
      obtain ⟨E, hE⟩ : ∃ E, endP (1 + (dur.length : Int)) qs2 = E := ⟨_, rfl⟩
      have hq2l : qs2.length = ps.length := by rw [← dataP_length, HQ2.out, dataP_length]
      have hE0 : 0 ≤ E := by rw [← hE, endP_size]; omega
      have hE1 : E ≤ 1125899906842624 := by rw [← hE, endP_size, dataP_sizeP HQ2.out]; omega
      have HE : Hid (endP (1 + (dur.length : Int)) qs2 = E) := hE
      obtain ⟨M, hM⟩ : ∃ M, endP (1 + (r5.length : Int)) qs5 = M := ⟨_, rfl⟩
      have hM0 : 0 ≤ M := by rw [← hM, endP_size]; omega
      have hM1 : M ≤ 1125899906842624 := by rw [← hM, endP_size, dataP_sizeP HQ5.out]; omega
      have HM : Hid (endP (1 + (r5.length : Int)) qs5 = M) := hM
      have HQL : Hid (qs2.length = ps.length) := hq2l
      clear hE hq2l hM
      obtain ⟨x1, x2⟩ := HXc.out
      go_wp2_with fail
      have hm := markDisk_own 0 (.slice (some ⟨g2, 0, none⟩) dur.length dur.length) (.slice (some ⟨g2', 0, none⟩) ps.length ps.length) dur qs2 1 wc (by omega) (by rw [HE.out]; exact hE1) (by rw [HQL.out]; omega) HOc.out
      rw [HE.out] at hm
      refine hm.mono ?_
      clear hm
      rintro e w9 ⟨rfl, _, hk9⟩
      have HA3 : Hid (∀ b, footD (.slice a3 n3 c3) (.slice a3' n3' c3') qs3 b → b < w3.heap.size) := fun b hb => (HO3.out.lt b hb).2
      have HB9 : Hid (Box w9 w.heap.size (.slice a1 dur.length c1) (.slice a2 ps.length c2)) := HBc.out.kept hk9 (fun e => by have h1 := HF2.out _ e; omega)
      have HZ9 : Hid (Box w9 w3.heap.size (.slice a3 n3 c3) (.slice a3' n3' c3')) := HZc.out.kept hk9 (fun e => by have h1 := HF2.out _ e; omega)
      have HY9 : Hid (Box w9 w5.heap.size (.slice a5 n5 c5) (.slice a5' n5' c5')) := HYc.out.kept hk9 (fun e => by have h1 := HF2.out _ e; omega)
      have HW9 := (show Hid (OwnD 0 45 5 w9 (.slice a3 n3 c3) (.slice a3' n3' c3') r5 qs3) from HWc.out.kept hk9 (fun b hb e => by have h1 := HF2.out _ e; have h2 := HA3.out b hb; omega))
      have HG9 := (show Hid (OwnD 0 45 5 w9 (.slice a5 n5 c5) (.slice a5' n5' c5') r5 qs5) from HGc.out.kept hk9 (fun b hb e => by have h1 := HF2.out _ e; have h2 := HGF.out b hb; omega))
      have HK9 : Hid (Same w w9) := HKc.out.next hk9 (fun b hb e => by have h1 := HF2.out _ e; have h2 := HK3.out.size; omega)
      clear hk9 x1 x2
      have hE2 : ¬ E < 0 := by omega
      obtain ⟨y1, y2⟩ := HY9.out
      obtain ⟨z1, z2⟩ := HZ9.out
      go_wp2_with fail
      refine (eqDisk_own 0 _ _ _ _ r5 qs5 qs3 _ (by omega) (by omega) HQ5.out HSQ5.out HG9.out HW9.out).mono ?_
      rintro e w10 ⟨rfl, hk10⟩
      have HB10 : Hid (Box w10 w.heap.size (.slice a1 dur.length c1) (.slice a2 ps.length c2)) := HB9.out.same hk10
      have HZ10 : Hid (Box w10 w3.heap.size (.slice a3 n3 c3) (.slice a3' n3' c3')) := HZ9.out.same hk10
      have HY10 : Hid (Box w10 w5.heap.size (.slice a5 n5 c5) (.slice a5' n5' c5')) := HY9.out.same hk10
      have HW10 := hid (HW9.out.same hk10)
      have HG10 := hid (HG9.out.same hk10)
      have HK10 : Hid (Same w w10) := HK9.out.trans hk10
      clear hk10 y1 y2 z1 z2
      obtain ⟨y1, y2⟩ := HY10.out
      go_wp2_with fail
      have hm := markDisk_own 0 (.slice a5 n5 c5) (.slice a5' n5' c5') r5 qs5 1 w10 (by omega) (by rw [HM.out]; exact hM1) (by omega) HG10.out
      rw [HM.out] at hm
      refine hm.mono ?_
      clear hm
      rintro e w11 ⟨rfl, ho11, hk11⟩
      have HB11 : Hid (Box w11 w.heap.size (.slice a1 dur.length c1) (.slice a2 ps.length c2)) := HB10.out.kept hk11 (fun e => by have h1 := HGF.out _ e; omega)
      have HZ11 : Hid (Box w11 w3.heap.size (.slice a3 n3 c3) (.slice a3' n3' c3')) := HZ10.out.kept hk11 (fun e => by have h1 := HGF.out _ e; omega)
      have HY11 : Hid (Box w11 w5.heap.size (.slice a5 n5 c5) (.slice a5' n5' c5')) := HY10.out.kept hk11 (fun e => by have h1 := HGF.out _ e; omega)
      have HW11 := (show Hid (OwnD 0 45 5 w11 (.slice a3 n3 c3) (.slice a3' n3' c3') r5 qs3) from HW10.out.kept hk11 (fun b hb e => by have h1 := HGF.out _ e; have h2 := HA3.out b hb; omega))
      have HG11 := (show Hid (OwnD 0 45 5 w11 (.slice a5 n5 c5) (.slice a5' n5' c5') (marks 1 r5.length) (markP (1 + (r5.length : Int)) qs5)) from ho11)
      have HK11 : Hid (Same w w11) := HK10.out.next hk11 (fun b hb e => by have h1 := HGF.out _ e; have h2 := HK4.out.size; omega)
      clear ho11 hk11 y1 y2
      obtain ⟨y1, y2⟩ := HY11.out
      have hM2 : ¬ M < 0 := by omega
      go_wp2_with fail
      have hm := heldDisk_own 0 (.slice a5 n5 c5) (.slice a5' n5' c5') r5 qs5 1 w11 (by omega) (by rw [HM.out]; exact hM1) (by omega) HG11.out
      rw [HM.out] at hm
      refine hm.mono ?_
      clear hm
      rintro e w12 ⟨rfl, hk12⟩
      have HB12 : Hid (Box w12 w.heap.size (.slice a1 dur.length c1) (.slice a2 ps.length c2)) := HB11.out.same hk12
      have HZ12 : Hid (Box w12 w3.heap.size (.slice a3 n3 c3) (.slice a3' n3' c3')) := HZ11.out.same hk12
      have HY12 : Hid (Box w12 w5.heap.size (.slice a5 n5 c5) (.slice a5' n5' c5')) := HY11.out.same hk12
      have HW12 := hid (HW11.out.same hk12)
      have HG12 := hid (HG11.out.same hk12)
      have HK12 : Hid (Same w w12) := HK11.out.trans hk12
      clear hk12 y1 y2
      obtain ⟨b1, b2⟩ := HB12.out
      go_wp2_with fail
      refine (toDisk_any _ _ dur ps _ (by omega) (by omega) (fun p hp => Nat.le_trans (HS.out p hp) (by omega)) (HV.out.same HK12.out)).mono ?_
      rintro e w13 ⟨g4, g4', qs4, rfl, hq4, hf4, ho4, hk13⟩
      have HQ4 : Hid (dataP qs4 = dataP ps) := hq4
      have HO4 := (show Hid (RdD w13 (.slice (some ⟨g4, 0, none⟩) dur.length dur.length) (.slice (some ⟨g4', 0, none⟩) ps.length ps.length) dur qs4) from ho4.rd)
      have HZ13 : Hid (Box w13 w3.heap.size (.slice a3 n3 c3) (.slice a3' n3' c3')) := HZ12.out.same hk13
      have HY13 : Hid (Box w13 w5.heap.size (.slice a5 n5 c5) (.slice a5' n5' c5')) := HY12.out.same hk13
      have HW13 := hid (HW12.out.same hk13)
      have HG13 := hid (HG12.out.same hk13)
      have HK13 : Hid (Same w w13) := HK12.out.trans hk13
      clear hq4 hf4 ho4 hk13 b1 b2
      go_wp2_with fail
      refine (implSync_any _ _ dur qs4 _ (by omega) (HS'.out qs4 HQ4.out).1 (HS'.out qs4 HQ4.out).2 HO4.out).mono ?_
      rintro e w14 ⟨a14, n14, c14, a14', n14', c14', r14, qs14, rfl, hR14, hf14, ho14, hk14⟩
      rw [HQ4.out] at hR14
      obtain ⟨rfl, hq14⟩ := hR14.one HR.out
      have HQ14 : Hid (dataP qs14 = dataP qs3) := hq14
      have HH14 := (show Hid (OwnD 0 45 5 w14 (.slice a14 n14 c14) (.slice a14' n14' c14') r14 qs14) from ho14)
      have HZ14 : Hid (Box w14 w3.heap.size (.slice a3 n3 c3) (.slice a3' n3' c3')) := HZ13.out.same hk14
      have HY14 : Hid (Box w14 w5.heap.size (.slice a5 n5 c5) (.slice a5' n5' c5')) := HY13.out.same hk14
      have HW14 := hid (HW13.out.same hk14)
      have HG14 := hid (HG13.out.same hk14)
      have HK14 : Hid (Same w w14) := HK13.out.trans hk14
      clear hR14 ho14 hf14 hk14 hq14
      have hl14 := HY14.out.lt
      have hl14' := HZ14.out.lt
      obtain ⟨z1, z2⟩ := HZ14.out
      go_wp2_with fail
      refine (eqDisk_own 0 _ _ _ _ r14 qs14 qs3 _ (by omega) (by rw [← dataP_length, HQ14.out, dataP_length]; omega) HQ14.out (fun p hp => by have := sizeP_mem qs14 p hp; rw [dataP_sizeP HQ14.out] at this; omega) (HH14.out.same ((Kept.refl _ _).alloc _)) (HW14.out.same ((Kept.refl _ _).alloc _))).mono ?_
      rintro e w15 ⟨rfl, hk15'⟩
      have hk15 : Same w14 w15 := ((Kept.refl _ _).alloc _).trans hk15'
      have HY15 : Hid (Box w15 w5.heap.size (.slice a5 n5 c5) (.slice a5' n5' c5')) := HY14.out.same hk15
      have HG15 := hid (HG14.out.same hk15)
      have HK15 : Hid (Same w w15) := HK14.out.trans hk15
      clear hk15 hk15' z1 z2
      obtain ⟨y1, y2⟩ := HY15.out
      go_wp2_with fail
      have hm := heldDisk_own 0 (.slice a5 n5 c5) (.slice a5' n5' c5') r14 qs5 1 w15 (by omega) (by rw [HM.out]; exact hM1) (by omega) HG15.out
      rw [HM.out] at hm
      refine hm.mono ?_
      clear hm
      rintro e w16 ⟨rfl, hk16⟩
      have HK16 : Hid (Same w w16) := HK15.out.trans hk16
      clear hk16 y1 y2
      go_wp2
      go_ret
      exact ⟨rfl, HK16.out⟩
end Go.Proofs.Yteacihpankkhkaa

namespace Go.Proofs.Yteacihpankkhkaa.fnExactDiskSync
open Go.ChangeShapes Go.WideShapes Go.ChangeAt Go.RowKit
set_option linter.unusedVariables false
theorem own : ownKnob Try.prog.godebug = none := by kernel_rfl
theorem laidOut : laidOutB Try.prog = true := by kernel_rfl
set_option maxRecDepth 100000 in
theorem lifted (os : Os) (started : os.Started) (H : Type) (enc : TypeId × Value → H) :
    ReturnsInHanded {} Try.checked os 6 .any (Rows.fnExactDiskSyncSpec.pre6 enc Try.prog Try.f6 Rows.fnExactDiskSyncRow.domain false) (Rows.fnExactDiskSyncSpec.post enc Try.prog Try.f6 false true false false) := by
  refine returnsInHanded_of_change (C := Try.checked) own started (by kernel_rfl) Try.func6
    (ChangeSpec.witness6 (enc := enc) (C := Try.checked) false ⟨#[], #[.agg #[.slice none 0 0, .slice none 0 0]], []⟩ 8 (by kernel_rfl) (by kernel_rfl) (by kernel_rfl) (by kernel_rfl)) ?_
  intro W base args ds gs before hval0 hW hcnd _
  have hval : ∀ (j : Nat) t v, Try.f6.params[j]? = some t → args[j]? = some v → Value.okWide Try.prog W .any base t v := hval0
  have hW' := hW
  obtain ⟨p, q, hA0, hV, rfl, hfz, hnd⟩ := hW
  have hA : DataW.TrodAll enc Try.prog W 0 (fun _ => true) true Try.f6.params.toList args.toList ds p := hA0
  rw [Try.params6] at hA hval
  obtain ⟨v0, vs0, d0, ds0, p0, q0, hargs, rfl, rfl, h0, r0⟩ := trodAll_cons hA
  obtain ⟨rfl, rfl, rfl⟩ := trodAll_nil r0
  obtain rfl : args = #[v0] := by cases args; simp_all
  obtain ⟨rfl, rfl⟩ := trodVars_none hV
  have k0 := h0
  have lt0 : ∀ x ∈ p0, x.block < W.heap.size := by obtain ⟨m, hm⟩ := k0; exact DataW.trod_lt m _ _ _ hm
  obtain ⟨dv0, pv0, dur0, ps0, rfl, rd0⟩ := open_disk (hval 0 25 v0 rfl rfl) h0
  clear hA0 hval0
  refine (diskSync_law dv0 pv0 dur0 ps0 W rd0).mono fun e W' ⟨he, hk⟩ => ?_
  have bel : Below W.heap.size W W' := hk.below (Nat.le_refl _) (fun _ _ => id)
  subst he
  exact ⟨_, rfl, _, _, _, [], _, [], hW', trodAll_mk1 (shut_bool Try.underlying4 _), (trodAll_cons_mk (Below.trod laidOut (by kernel_rfl) (of_decide_eq_true (by kernel_rfl)) k0 bel lt0) trodAll_mk0), rfl, bel.frame _, fun h => by cases h⟩
theorem over : Rows.fnExactDiskSyncRow.holds Try.pinned (OpenSpec.ofChange Rows.fnExactDiskSyncSpec) :=
  OpenClaim.holds_of_wide 6 Try.f6 rfl rfl rfl rfl rfl rfl rfl ⟨rfl, rfl, rfl, rfl, rfl⟩ rfl rfl rfl rfl rfl (by kernel_rfl) Try.func6 (by kernel_rfl)
    (of_decide_eq_true (by kernel_rfl)) (by unfold Func.isWrapper; first | (rw [if_pos (by decide +kernel)]; kernel_rfl) | (rw [if_neg (by decide +kernel)]; exact ⟨rfl, rfl⟩))
    (fun os started H enc _ => lifted os started H enc)
end Go.Proofs.Yteacihpankkhkaa.fnExactDiskSync
namespace Go.Proofs.Yteacihpankkhkaa
theorem diskSync_proved : Rows.FnExactDiskSyncSaid := fnExactDiskSync.over
#print axioms diskSync_proved
end Go.Proofs.Yteacihpankkhkaa
