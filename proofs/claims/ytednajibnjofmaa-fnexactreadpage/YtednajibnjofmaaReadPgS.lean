/-
  ReadPage, both sides.
-/
import Derived.Test.YtednajibnjofmaaPgSeeS
namespace Go.Proofs.Ytednajibnjofmaa
set_option maxRecDepth 100000
set_option maxHeartbeats 4000000
open Go.RowKit
set_option linter.unusedVariables false
set_option linter.unusedSimpArgs false

open Classical in
noncomputable def rdPg (p f l g : Int) (dur : List Int) (ds : List (Int × List Int)) : List Int := if fitD p f l dur.length ds ∧ 0 ≤ g ∧ g < p then pgB (2 + l + g * 8) dur ds else []
theorem rdPg_yes {p f l g : Int} {dur : List Int} {ds : List (Int × List Int)} (h : fitD p f l dur.length ds) (h1 : 0 ≤ g) (h2 : g < p) : rdPg p f l g dur ds = pgB (2 + l + g * 8) dur ds := if_pos ⟨h, h1, h2⟩
theorem rdPg_no {p f l g : Int} {dur : List Int} {ds : List (Int × List Int)} (h : ¬ (fitD p f l dur.length ds ∧ 0 ≤ g ∧ g < p)) : rdPg p f l g dur ds = [] := if_neg h
theorem rdPg_length (p f l g : Int) (dur : List Int) (ds : List (Int × List Int)) : (rdPg p f l g dur ds).length ≤ 4096 := by
  by_cases h : fitD p f l dur.length ds ∧ 0 ≤ g ∧ g < p
  · rw [rdPg_yes h.1 h.2.1 h.2.2, pgB_length h.1 h.2.1 h.2.2]; omega
  · rw [rdPg_no h]; simp
theorem not_sec {p f l g : Int} {len : Nat} {ds : List (Int × List Int)} (hf : fitD p f l len ds) (h : ¬ (0 ≤ g ∧ g < p)) : pgSec p f l g = -1 := by
  rcases pgSec_cases p f l g with h1 | ⟨_, h1, h2, _⟩
  · exact h1
  · exact absurd ⟨h1, h2⟩ h

theorem specReadPage_any (p f l g : Int) (dv pv : Value) (dur : List Int) (ps : List PW) (w : World) (hv : RdD w dv pv dur ps) :
    Calls Try.prog 6 #[.agg #[dv, pv], .agg #[.int .i64 p, .int .i64 f, .int .i64 l], .int .i64 g] w fun e w' => ∃ a c, e = .returned (.slice a (rdPg p f l g dur (dataP ps)).length c) ∧ (∀ b, (Value.slice a (rdPg p f l g dur (dataP ps)).length c).ownBlock = some b → w.heap.size ≤ b) ∧ Own 0 5 .u8 w' (.slice a (rdPg p f l g dur (dataP ps)).length c) (rdPg p f l g dur (dataP ps)) ∧ Same w w' := by
  have HV := hid hv
  have kF := fun wx hv => fits_any p f l dv pv dur ps wx hv
  have kS := fun wx => specPgSec_any p f l g wx
  have kP := fun (hF : fitD p f l dur.length (dataP ps)) h1 h2 wx hv => pgSee_any p f l g dv pv dur ps wx hF h1 h2 hv
  obtain ⟨a1, c1, rfl⟩ := hv.dur.form
  obtain ⟨a2, c2, rfl⟩ := hv.pend.form
  clear hv
  obtain ⟨HK0, HA0, HG0⟩ := new2 w [.slice a1 dur.length c1, .slice a2 ps.length c2] 32 [.int .i64 p, .int .i64 f, .int .i64 l] 34
  by_cases hF : fitD p f l dur.length (dataP ps)
  case neg =>
    rw [rdPg_no (fun h => hF h.1)]
    go_enter Try.func6, Try.ntmps6
    go_wp2_with fail
    refine (kF _ (HV.out.same HK0.out)).mono ?_
    rintro e w1 ⟨⟨B, rfl, hB⟩, hk1⟩
    obtain rfl : B = false := by
      cases B
      · rfl
      · exact absurd (hB.1 rfl) hF
    have HK1 := hid (HK0.out.trans hk1)
    clear hB hk1
    go_wp2
    go_ret
    exact ⟨_, _, rfl, fun b hb => by have h : w1.heap.size = b := (by simpa [Value.ownBlock] using hb); have := HK1.out.size; omega, World.ownsRow_made w1 #[] 0 (Nat.zero_le _) (by simp) (by simp), HK1.out.alloc _⟩
  by_cases hg : 0 ≤ g ∧ g < p
  case neg =>
    rw [rdPg_no (fun h => hg h.2)]
    have hs := not_sec hF hg
    rw [hs] at kS
    go_enter Try.func6, Try.ntmps6
    go_wp2_with fail
    refine (kF _ (HV.out.same HK0.out)).mono ?_
    rintro e w1 ⟨⟨B, rfl, hB⟩, hk1⟩
    obtain rfl : B = true := hB.2 hF
    have HK1 := hid (HK0.out.trans hk1)
    have HG1 := hid (HG0.out.same hk1)
    obtain ⟨e2, e3, e4⟩ := HG1.out.all3
    clear hB hk1
    go_wp2_with fail
    refine (kS _).mono ?_
    rintro e w2 ⟨rfl, hk2⟩
    have HK2 := hid (HK1.out.trans hk2)
    clear hk2
    go_wp2
    go_ret
    exact ⟨_, _, rfl, fun b hb => by have h : w2.heap.size = b := (by simpa [Value.ownBlock] using hb); have := HK2.out.size; omega, World.ownsRow_made w2 #[] 0 (Nat.zero_le _) (by simp) (by simp), HK2.out.alloc _⟩
  obtain ⟨hg1, hg2⟩ := hg
  rw [rdPg_yes hF hg1 hg2]
  obtain ⟨s1, s2, s3⟩ := fit_sec hF hg1 hg2
  have kP := fun wx hv => kP hF hg1 hg2 wx hv
  obtain ⟨R, hR⟩ : ∃ R, pgB (2 + l + g * 8) dur (dataP ps) = R := ⟨_, rfl⟩
  rw [s1] at kS
  obtain ⟨F, hFF⟩ : ∃ F, 2 + l + g * 8 = F := ⟨_, rfl⟩
  rw [hR] at kP ⊢
  rw [hFF] at kS s3
  clear s1 s2 hR hFF
  have HFD := hid hF
  clear hF
  go_enter Try.func6, Try.ntmps6
  go_wp2_with fail
  refine (kF _ (HV.out.same HK0.out)).mono ?_
  rintro e w1 ⟨⟨B, rfl, hB⟩, hk1⟩
  obtain rfl : B = true := hB.2 HFD.out
  have HK1 := hid (HK0.out.trans hk1)
  have HG1 := hid (HG0.out.same hk1)
  have HA1 := hid (HA0.out.same hk1)
  obtain ⟨e2, e3, e4⟩ := HG1.out.all3
  clear hB hk1
  go_wp2_with fail
  refine (kS _).mono ?_
  rintro e w2 ⟨rfl, hk2⟩
  have HK2 := hid (HK1.out.trans hk2)
  have HG2 := hid (HG1.out.same hk2)
  have HA2 := hid (HA1.out.same hk2)
  clear e2 e3 e4
  obtain ⟨e0, e1⟩ := HA2.out.all2
  obtain ⟨e2, e3, e4⟩ := HG2.out.all3
  clear hk2
  go_wp2_with fail
  refine (kP _ (HV.out.same HK2.out)).mono ?_
  rintro e w3 ⟨a, n, c, rfl, ho, hf, hk3⟩
  have HK3 := hid (HK2.out.trans hk3)
  have HO3 := hid ho
  have HF3 : Hid (∀ b, (Value.slice a n c).ownBlock = some b → w.heap.size ≤ b) := fun b hb => Nat.le_trans HK2.out.size (hf b hb)
  obtain rfl : n = R.length := by
    rcases HO3.out.form with ⟨h, h'⟩ | ⟨g', cap, h, _⟩
    · cases h; rw [h']; rfl
    · cases h; rfl
  clear ho hf hk3
  go_wp2
  go_ret
  exact ⟨a, c, rfl, HF3.out, HO3.out, HK3.out⟩

end Go.Proofs.Ytednajibnjofmaa
