/-
  LogLoad of both sides (by tools/gen/logload.py).
-/
import Derived.Test.YtclmdpmelifplaaLogFlushedC
import Derived.Test.YtclmdpmelifplaaSee
namespace Go.Proofs.Ytclmdpmelifplaa
open Go.RowKit
set_option linter.unusedVariables false
set_option linter.unusedSimpArgs false

theorem Own.take {base : Nat} {e : TypeId} {k : IntKind} {w : World} {g n cap : Nat} {bs : List Int} (h : Own base e k w (.slice (some ⟨g, 0, none⟩) n cap) bs) (m : Nat) (hm : m ≤ bs.length) : Own base e k w (.slice (some ⟨g, 0, none⟩) m cap) (bs.take m) := by
  unfold Own at *
  rcases h with ⟨h1, ⟨h2, _⟩ | ⟨g', cap', cur, hv, hb, hg, hn, hc, hs, ht⟩⟩
  · cases h2
  · injection hv with e1 e2 e3
    injection e1 with e1
    injection e1 with e1
    subst e1 e3
    have hl : (bs.take m).length = m := by simp; omega
    refine ⟨by simp [vals], .inr ⟨g, cap, cur, by rw [hl], hb, hg, by omega, hc, hs, ?_⟩⟩
    have e4 : vals k (bs.take m) = (vals k bs).take m := by simp [vals, List.map_take]
    rw [hl, e4, ← ht, List.take_take]
    congr 1
    omega
theorem seeD_length {s : Int} {dur : List Int} {ds : List (Int × List Int)} (hv : Valid dur.length ds) (h0 : 0 ≤ s) (h1 : s < (dur.length / 512 : Nat)) : (seeD s dur ds).length = 512 := by
  unfold seeD
  cases hl : lastP s ds with
  | none => simp; omega
  | some cs =>
    obtain ⟨p, hp, rfl⟩ := lastP_mem s ds cs hl
    have := (hv.2 p hp).2.2
    simp [this]
/-- Can a log of so many sectors stand on the disk? -/
def Room (len : Nat) (ds : List (Int × List Int)) (s : Int) : Prop := Valid len ds ∧ s + 2 ≤ (len / 512 : Nat)
def LoadOK (len : Nat) (ds : List (Int × List Int)) (s st ep : Int) : Prop := ((16 ≤ s ∧ s ≤ 800) ∧ (512 ≤ st ∧ st ≤ 1099511627776)) ∧ (1 ≤ ep ∧ ep ≤ 4294967295) ∧ Room len ds s
open Classical in
noncomputable def loadD (dur : List Int) (ds : List (Int × List Int)) (s st ep : Int) : Int × Int × Int × Int × List Int :=
  if LoadOK dur.length ds s st ep then (s, ep, st, st, (seeD (logPlace s st) dur ds).take (st % 512).toNat) else (0, 0, 0, 0, [])
theorem loadD_yes {dur : List Int} {ds : List (Int × List Int)} {s st ep : Int} (h : LoadOK dur.length ds s st ep) : loadD dur ds s st ep = (s, ep, st, st, (seeD (logPlace s st) dur ds).take (st % 512).toNat) := if_pos h
theorem loadD_no {dur : List Int} {ds : List (Int × List Int)} {s st ep : Int} (h : ¬ LoadOK dur.length ds s st ep) : loadD dur ds s st ep = (0, 0, 0, 0, []) := if_neg h
theorem loadD_small {dur : List Int} {ds : List (Int × List Int)} {s st ep : Int} {y : StLog} (h : y.dat = loadD dur ds s st ep) : y.size ≤ 1099511627776 := by
  have h2 : y.tail.bs = (loadD dur ds s st ep).2.2.2.2 := by rw [← h]; rfl
  simp only [StLog.size]
  rw [h2]
  by_cases hl : LoadOK dur.length ds s st ep
  · rw [loadD_yes hl]
    simp
    omega
  · rw [loadD_no hl]
    simp
set_option maxHeartbeats 1000000 in
theorem l5Room_any (dv pv : Value) (dur : List Int) (ps : List PW) (s : Int) (w : World) (hs : -1000 ≤ s ∧ s ≤ 1000) (hp : RdD w dv pv dur ps) :
    Calls Try.prog 43 #[.agg #[dv, pv], .int .i64 s] w fun e w' => Says e (Room dur.length (dataP ps) s) ∧ Same w w' := by
  obtain ⟨a1, c1, rfl⟩ := hp.dur.form
  obtain ⟨a2, c2, rfl⟩ := hp.pend.form
  have hm := hp.dur.1
  have hm' := hm
  unfold maxLen at hm'
  have b0 := Box.new w (.slice a1 dur.length c1) (.slice a2 ps.length c2) 46
  have hV := specValid_any _ _ dur ps _ (hp.same ((Kept.refl _ _).alloc (.cells #[.slice a1 dur.length c1, .slice a2 ps.length c2] 46)))
  clear hp
  obtain ⟨hs0, hs1⟩ := hs
  go_enter Try.func43, Try.ntmps43
  go_wp2_with fail
  refine hV.mono ?_
  rintro e w1 ⟨⟨B, rfl, hB⟩, hk1⟩
  obtain ⟨c0, c1'⟩ := b0.same hk1
  have HK1 : Hid (Same w w1) := ((Kept.refl _ _).alloc _).trans hk1
  clear hk1 b0 hV
  cases B with
  | false =>
    have HN : Hid (¬ Valid dur.length (dataP ps)) := fun h => by have := hB.2 h; cases this
    clear hB
    go_wp2
    go_ret
    exact ⟨says_false (fun h => HN.out h.1), HK1.out⟩
  | true =>
    have HV : Hid (Valid dur.length (dataP ps)) := hB.1 rfl
    clear hB
    go_wp2_with (go_at_call 53; refine (l1Sectors_any _ _ _ _ _ _ _ hm).mono ?_; rintro e w2 ⟨rfl, hk2⟩)
    go_ret
    subst hk2
    refine ⟨?_, HK1.out.alloc _⟩
    by_cases h : s + 2 ≤ (dur.length / 512 : Nat)
    · exact ⟨true, by simp; omega, fun _ => ⟨HV.out, h⟩, fun _ => rfl⟩
    · exact ⟨false, by simp; omega, fun h => (by cases h), fun h' => absurd h'.2 h⟩
set_option maxHeartbeats 1000000 in
theorem holdsLog_any (dv pv : Value) (dur : List Int) (ps : List PW) (s : Int) (w : World) (hp : RdD w dv pv dur ps) :
    Calls Try.prog 46 #[.agg #[dv, pv], .int .i64 s] w fun e w' => Says e ((16 ≤ s ∧ s ≤ 800) ∧ Room dur.length (dataP ps) s) ∧ Same w w' := by
  obtain ⟨a1, c1, rfl⟩ := hp.dur.form
  obtain ⟨a2, c2, rfl⟩ := hp.pend.form
  have hm := hp.dur.1
  have hm' := hm
  unfold maxLen at hm'
  have b0 := Box.new w (.slice a1 dur.length c1) (.slice a2 ps.length c2) 46
  have h1 := fun wx => isLogSize_any s wx
  have hV := fun wx (hk : Same w wx) => implValid_any _ _ dur ps wx (hp.same hk)
  clear hp
  by_cases hs : 16 ≤ s ∧ s ≤ 800
  · rw [inB_true hs] at h1
    obtain ⟨hs0, hs1⟩ := hs
    go_enter Try.func46, Try.ntmps46
    go_wp2_with (go_at_call 31; refine (h1 _).mono ?_; rintro e w0 ⟨rfl, hk0⟩; obtain ⟨c0, c1'⟩ := b0.same hk0; have HK0 := (show Hid (Same w w0) from ((Kept.refl _ _).alloc _).trans hk0))
    refine (hV _ HK0.out).mono ?_
    rintro e w1 ⟨⟨B, rfl, hB⟩, hk1⟩
    obtain ⟨d0, d1⟩ := (b0.same hk0).same hk1
    have HK1 : Hid (Same w w1) := HK0.out.trans hk1
    clear hk1 b0 hV hk0
    cases B with
    | false =>
      have HN : Hid (¬ Valid dur.length (dataP ps)) := fun h => by have := hB.2 h; cases this
      clear hB
      go_wp2
      go_ret
      exact ⟨says_false (fun h => HN.out h.2.1), HK1.out⟩
    | true =>
      have HV : Hid (Valid dur.length (dataP ps)) := hB.1 rfl
      clear hB
      go_wp2_with (go_at_call 56; refine (countSectors_any _ _ _ _ _ _ _ hm).mono ?_; rintro e w2 ⟨rfl, hk2⟩)
      go_ret
      subst hk2
      refine ⟨?_, HK1.out.alloc _⟩
      by_cases h : s + 2 ≤ (dur.length / 512 : Nat)
      · exact ⟨true, by simp; omega, fun _ => ⟨⟨hs0, hs1⟩, HV.out, h⟩, fun _ => rfl⟩
      · exact ⟨false, by simp; omega, fun h => (by cases h), fun h' => absurd h'.2.2 h⟩
  · rw [inB_false hs] at h1
    go_enter Try.func46, Try.ntmps46
    go_wp2_with (go_at_call 31; refine (h1 _).mono ?_; rintro e w0 ⟨rfl, hk0⟩)
    go_ret
    exact ⟨says_false (fun h => hs h.1), ((Kept.refl _ _).alloc _).trans hk0⟩

end Go.Proofs.Ytclmdpmelifplaa
