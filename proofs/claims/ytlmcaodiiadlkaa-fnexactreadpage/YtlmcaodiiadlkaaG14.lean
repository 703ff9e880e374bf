import Derived.Test.YtlmcaodiiadlkaaG00
import Derived.Test.YtlmcaodiiadlkaaG04
import Derived.Test.YtlmcaodiiadlkaaG05
import Derived.Test.YtlmcaodiiadlkaaG06
import Derived.Test.YtlmcaodiiadlkaaG03
import Derived.Deep.DeepCutAuto
namespace Go.Proofs.Ytlmcaodiiadlkaa
set_option maxRecDepth 100000
open Go.ChangeShapes Go.WideShapes Go.ChangeAt Go.RowKit
set_option linter.unusedVariables false
section
variable {H : Type} {enc : TypeId × Value → H} {w : World} {base : Nat} {spare : Nat → Bool} {held : Bool}
theorem read_pend {fuel : Nat} {v : Value} {x : DataW H × List MemPlace} (h : DataW.trod enc Try.prog w base spare held fuel 23 [v] = some x) : ∃ ps, RdP w v ps := by
  rcases Deep.open_slice_pairs Try.underlying23 Try.underlying84 (by kernel_rfl) rfl rfl (by kernel_rfl) (by kernel_rfl) h with ⟨hcs, _⟩ | ⟨a, len, cap, m, n, V0, V1, D0, D1, P0, P1, hcs, _, hl, hm, hmm, _, hx⟩
  · simp at hcs
    subst hcs
    exact ⟨[], by simp, .inl ⟨rfl, _, _, rfl⟩, fun p hp => by simp at hp⟩
  · simp at hcs
    subst hcs
    have hlm : len ≤ m := by rw [hmm]; split <;> omega
    have each : ∀ i, i < len → ∃ p : PW, w.cell? (a.add (i * 2)) = some (.int .i64 p.sec) ∧ w.cell? (a.add (i * 2 + 1)) = some p.v ∧ Rd .u8 w p.v p.bs := fun i hi => by
      obtain ⟨h1, h2, h3, h4⟩ := hx i (by omega)
      obtain ⟨s, e0, _, _⟩ := DataW.trod_int Try.underlying2 h3
      simp at e0
      obtain ⟨bs, hbs⟩ := read_ints Try.underlying22 Try.underlying5 (by kernel_rfl) h4
      exact ⟨⟨s, V1 i, bs⟩, by rw [h1, e0], h2, hbs⟩
    have : Inhabited PW := ⟨zeroPW⟩
    obtain ⟨f, hf⟩ := Deep.choose_lt each
    refine ⟨(List.range len).map f, by simp; omega, ?_, fun p hp => ?_⟩
    · by_cases h0 : len = 0
      · subst h0
        exact .inl ⟨by simp, _, _, rfl⟩
      · obtain ⟨b, off, rfl⟩ := addr_form (by have := (hf 0 (by omega)).1; rwa [Nat.zero_mul] at this)
        refine .inr ⟨b, off, cap, by simp, fun i hi => ?_⟩
        have hi' : i < len := by simpa using hi
        obtain ⟨h1, h2, _⟩ := hf i hi'
        constructor
        · simpa [add_none] using h1
        · simpa [add_none, Nat.add_assoc] using h2
    · obtain ⟨i, hi, rfl⟩ := List.mem_map.1 hp
      exact (hf i (List.mem_range.1 hi)).2.2
theorem open_disk {r : Reach} {b0 : Nat} {v : Value} {d : DataW H} {p : List MemPlace} (hv : Value.okWide Try.prog w r b0 25 v) (h : DataW.Trod enc Try.prog w base spare held 25 v d p) :
    ∃ dv pv dur ps, v = .agg #[dv, pv] ∧ RdD w dv pv dur ps := by
  obtain ⟨v0, v1, y0, y1, n, rfl, _, _, h0, h1⟩ := Joins.open_agg2 Try.underlying25 (by kernel_rfl) (by kernel_rfl) hv h
  obtain ⟨dur, hd⟩ := read_ints Try.underlying22 Try.underlying5 (by kernel_rfl) h0
  obtain ⟨ps, hp⟩ := read_pend h1
  exact ⟨v0, v1, dur, ps, rfl, hd, hp⟩
end
end Go.Proofs.Ytlmcaodiiadlkaa

namespace Go.Proofs.Ytlmcaodiiadlkaa
set_option maxRecDepth 100000
set_option maxHeartbeats 4000000
open Go.RowKit
set_option linter.unusedVariables false
set_option linter.unusedSimpArgs false
def rdPgDec (p f l g : Int) (len : Nat) (ds : List (Int × List Int)) : Decidable (fitD p f l len ds ∧ 0 ≤ g ∧ g < p) := by unfold fitD Valid validHead validP; infer_instance
def rdPg (p f l g : Int) (dur : List Int) (ds : List (Int × List Int)) : List Int := @ite _ (fitD p f l dur.length ds ∧ 0 ≤ g ∧ g < p) (rdPgDec p f l g dur.length ds) (pgB (2 + l + g * 8) dur ds) []
theorem rdPg_yes {p f l g : Int} {dur : List Int} {ds : List (Int × List Int)} (h : fitD p f l dur.length ds) (h1 : 0 ≤ g) (h2 : g < p) : rdPg p f l g dur ds = pgB (2 + l + g * 8) dur ds := if_pos ⟨h, h1, h2⟩
theorem rdPg_no {p f l g : Int} {dur : List Int} {ds : List (Int × List Int)} (h : ¬ (fitD p f l dur.length ds ∧ 0 ≤ g ∧ g < p)) : rdPg p f l g dur ds = [] := if_neg h
theorem rdPg_length (p f l g : Int) (dur : List Int) (ds : List (Int × List Int)) : (rdPg p f l g dur ds).length ≤ 4096 := by
  by_cases h : fitD p f l dur.length ds ∧ 0 ≤ g ∧ g < p
  · rw [rdPg_yes h.1 h.2.1 h.2.2, pgB_length h.1 h.2.1 h.2.2]; omega
  · rw [rdPg_no h]; simp
theorem not_sec {p f l g : Int} {len : Nat} {ds : List (Int × List Int)} (hf : fitD p f l len ds) (h : ¬ (0 ≤ g ∧ g < p)) : pgSec p f l g = -1 := by
  rcases pgSec_cases p f l g with h1 | ⟨_, h1, h2, _⟩
  · exact h1
  · exact absurd ⟨h1, h2⟩ h
theorem specReadPage_any (p f l g : Int) (dv pv : Value) (dur : List Int) (ps : List PW) (w : World) (hv : RdD w dv pv dur ps) :
    Calls Try.prog 7 #[.agg #[dv, pv], .agg #[.int .i64 p, .int .i64 f, .int .i64 l], .int .i64 g] w fun e w' => ∃ a c, e = .returned (.slice a (rdPg p f l g dur (dataP ps)).length c) ∧ (∀ b, (Value.slice a (rdPg p f l g dur (dataP ps)).length c).ownBlock = some b → w.heap.size ≤ b) ∧ Own 0 5 .u8 w' (.slice a (rdPg p f l g dur (dataP ps)).length c) (rdPg p f l g dur (dataP ps)) ∧ Same w w' := by
  have HV := hid hv
  have kF := fun wx hv => fits_any p f l dv pv dur ps wx hv
  have kS := fun wx => specPgSec_any p f l g wx
  have kP := fun (hF : fitD p f l dur.length (dataP ps)) h1 h2 wx hv => pgSee_any p f l g dv pv dur ps wx hF h1 h2 hv
  obtain ⟨a1, c1, rfl⟩ := hv.dur.form
  obtain ⟨a2, c2, rfl⟩ := hv.pend.form
  clear hv
  obtain ⟨HK0, HA0, HG0⟩ := new2 w [.slice a1 dur.length c1, .slice a2 ps.length c2] 32 [.int .i64 p, .int .i64 f, .int .i64 l] 34
  by_cases hF : fitD p f l dur.length (dataP ps)
  case neg =>
    rw [rdPg_no (fun h => hF h.1)]
    go_enter Try.func7, Try.ntmps7
    go_wp2_with fail
    refine (kF _ (HV.out.same HK0.out)).mono ?_
    rintro e w1 ⟨⟨B, rfl, hB⟩, hk1⟩
    obtain rfl : B = false := by
      cases B
      · rfl
      · exact absurd (hB.1 rfl) hF
    have HK1 := hid (HK0.out.trans hk1)
    clear hB hk1
    go_wp2
    go_ret
    exact ⟨_, _, rfl, fun b hb => by have h : w1.heap.size = b := (by simpa [Value.ownBlock] using hb); have := HK1.out.size; omega, World.ownsRow_made w1 #[] 0 (Nat.zero_le _) (by simp) (by simp), HK1.out.alloc _⟩
  by_cases hg : 0 ≤ g ∧ g < p
  case neg =>
    rw [rdPg_no (fun h => hg h.2)]
    have hs := not_sec hF hg
    rw [hs] at kS
    go_enter Try.func7, Try.ntmps7
    go_wp2_with fail
    refine (kF _ (HV.out.same HK0.out)).mono ?_
    rintro e w1 ⟨⟨B, rfl, hB⟩, hk1⟩
    obtain rfl : B = true := hB.2 hF
    have HK1 := hid (HK0.out.trans hk1)
    have HG1 := hid (HG0.out.same hk1)
    obtain ⟨e2, e3, e4⟩ := HG1.out.all3
    clear hB hk1
    go_wp2_with fail
    refine (kS _).mono ?_
    rintro e w2 ⟨rfl, hk2⟩
    have HK2 := hid (HK1.out.trans hk2)
    clear hk2
    go_wp2
    go_ret
    exact ⟨_, _, rfl, fun b hb => by have h : w2.heap.size = b := (by simpa [Value.ownBlock] using hb); have := HK2.out.size; omega, World.ownsRow_made w2 #[] 0 (Nat.zero_le _) (by simp) (by simp), HK2.out.alloc _⟩
  obtain ⟨hg1, hg2⟩ := hg
  rw [rdPg_yes hF hg1 hg2]
  obtain ⟨s1, s2, s3⟩ := fit_sec hF hg1 hg2
  have kP := fun wx hv => kP hF hg1 hg2 wx hv
  obtain ⟨R, hR⟩ : ∃ R, pgB (2 + l + g * 8) dur (dataP ps) = R := ⟨_, rfl⟩
  rw [s1] at kS
  obtain ⟨F, hFF⟩ : ∃ F, 2 + l + g * 8 = F := ⟨_, rfl⟩
  rw [hR] at kP ⊢
  rw [hFF] at kS s3
  clear s1 s2 hR hFF
  have HFD := hid hF
  clear hF
  go_enter Try.func7, Try.ntmps7
  go_wp2_with fail
  refine (kF _ (HV.out.same HK0.out)).mono ?_
  rintro e w1 ⟨⟨B, rfl, hB⟩, hk1⟩
  obtain rfl : B = true := hB.2 HFD.out
  have HK1 := hid (HK0.out.trans hk1)
  have HG1 := hid (HG0.out.same hk1)
  have HA1 := hid (HA0.out.same hk1)
  obtain ⟨e2, e3, e4⟩ := HG1.out.all3
  clear hB hk1
  go_wp2_with fail
  refine (kS _).mono ?_
  rintro e w2 ⟨rfl, hk2⟩
  have HK2 := hid (HK1.out.trans hk2)
  have HG2 := hid (HG1.out.same hk2)
  have HA2 := hid (HA1.out.same hk2)
  clear e2 e3 e4
  obtain ⟨e0, e1⟩ := HA2.out.all2
  obtain ⟨e2, e3, e4⟩ := HG2.out.all3
  clear hk2
  go_wp2_with fail
  refine (kP _ (HV.out.same HK2.out)).mono ?_
  rintro e w3 ⟨a, n, c, rfl, ho, hf, hk3⟩
  have HK3 := hid (HK2.out.trans hk3)
  have HO3 := hid ho
  have HF3 : Hid (∀ b, (Value.slice a n c).ownBlock = some b → w.heap.size ≤ b) := fun b hb => Nat.le_trans HK2.out.size (hf b hb)
  obtain rfl : n = R.length := by
    rcases HO3.out.form with ⟨h, h'⟩ | ⟨g', cap, h, _⟩
    · cases h; rw [h']; rfl
    · cases h; rfl
  clear ho hf hk3
  go_wp2
  go_ret
  exact ⟨a, c, rfl, HF3.out, HO3.out, HK3.out⟩
end Go.Proofs.Ytlmcaodiiadlkaa

namespace Go.Proofs.Ytlmcaodiiadlkaa
set_option maxRecDepth 100000
set_option maxHeartbeats 1000000
open Go.RowKit
set_option linter.unusedVariables false
set_option linter.unusedSimpArgs false
theorem implReadPage_any (p f l g : Int) (dv pv : Value) (dur : List Int) (ps : List PW) (w : World) (hv : RdD w dv pv dur ps) :
    Calls Try.prog 10 #[.agg #[dv, pv], .agg #[.int .i64 p, .int .i64 f, .int .i64 l], .int .i64 g] w fun e w' => ∃ a c, e = .returned (.slice a (rdPg p f l g dur (dataP ps)).length c) ∧ (∀ b, (Value.slice a (rdPg p f l g dur (dataP ps)).length c).ownBlock = some b → w.heap.size ≤ b) ∧ Own 0 60 .u8 w' (.slice a (rdPg p f l g dur (dataP ps)).length c) (rdPg p f l g dur (dataP ps)) ∧ Same w w' := by
  have HV := hid hv
  have kF := fun wx hv => holds_any p f l dv pv dur ps wx hv
  have kS := fun wx => implPgSec_any p f l g wx
  have kN := fun hV wx hv => seen_any dv pv dur ps wx hV hv
  obtain ⟨a1, c1, rfl⟩ := hv.dur.form
  obtain ⟨a2, c2, rfl⟩ := hv.pend.form
  clear hv
  obtain ⟨HK0, HA0, HG0⟩ := new2 w [.slice a1 dur.length c1, .slice a2 ps.length c2] 32 [.int .i64 p, .int .i64 f, .int .i64 l] 34
  by_cases hs : pgSec p f l g = -1
  · rw [rdPg_no (fun h => by have := fit_sec h.1 h.2.1 h.2.2; omega)]
    rw [hs] at kS
    clear hs
    go_enter Try.func10, Try.ntmps10
    go_wp2_with fail
    refine (kS _).mono ?_
    rintro e w1 ⟨rfl, hk1⟩
    have HK1 := hid (HK0.out.trans hk1)
    clear hk1
    go_wp2
    go_ret
    exact ⟨_, _, rfl, fun b hb => by simp [Value.ownBlock] at hb, Own.nil _ _ _ _, HK1.out⟩
  obtain ⟨_, hg1, hg2, hsec⟩ := (pgSec_cases p f l g).resolve_left hs
  by_cases hF : fitD p f l dur.length (dataP ps)
  case neg =>
    rw [rdPg_no (fun h => hF h.1)]
    obtain ⟨F, hFF⟩ : ∃ F, pgSec p f l g = F := ⟨_, rfl⟩
    rw [hFF] at kS hs
    clear hsec hFF
    go_enter Try.func10, Try.ntmps10
    go_wp2_with fail
    refine (kS _).mono ?_
    rintro e w1 ⟨rfl, hk1⟩
    have HK1 := hid (HK0.out.trans hk1)
    have HG1 := hid (HG0.out.same hk1)
    have HA1 := hid (HA0.out.same hk1)
    obtain ⟨e0, e1⟩ := HA1.out.all2
    obtain ⟨e2, e3, e4⟩ := HG1.out.all3
    clear hk1
    go_wp2_with fail
    refine (kF _ (HV.out.same HK1.out)).mono ?_
    rintro e w2 ⟨⟨B, rfl, hB⟩, hk2⟩
    obtain rfl : B = false := by
      cases B
      · rfl
      · exact absurd (hB.1 rfl) hF
    have HK2 := hid (HK1.out.trans hk2)
    clear hB hk2
    go_wp2
    go_ret
    exact ⟨_, _, rfl, fun b hb => by simp [Value.ownBlock] at hb, Own.nil _ _ _ _, HK2.out⟩
  rw [rdPg_yes hF hg1 hg2]
  obtain ⟨s1, s2, s3⟩ := fit_sec hF hg1 hg2
  obtain ⟨F, hFF⟩ : ∃ F : Nat, 2 + l + g * 8 = (F : Int) := ⟨(2 + l + g * 8).toNat, by omega⟩
  have hRL := pgB_length hF hg1 hg2
  have kN := fun wx hv => kN hF.2.1 wx hv
  have HSL : Hid (∀ k : Nat, k < 8 → (seeD ((F : Int) + (k : Int)) dur (dataP ps)).length = 512) := fun k hk => seeD_length hF.2.1 (by omega) (by omega)
  have HN8 : Hid (dur.length / 512 ≤ 1024) := hF.2.1.1.2.2.1
  rw [hFF] at s2 hRL hsec ⊢
  rw [hsec] at kS
  have HF2 : Hid (F + 8 ≤ dur.length / 512) := by unfold Hid; omega
  have hs' : ¬ (F : Int) = -1 := by omega
  have HFD := hid hF
  have HRL := hid hRL
  rw [hRL]
  clear hF s1 s2 s3 hsec hFF hs hRL
  go_enter Try.func10, Try.ntmps10
  go_wp2_with fail
  refine (kS _).mono ?_
  rintro e w1 ⟨rfl, hk1⟩
  have HK1 := hid (HK0.out.trans hk1)
  have HG1 := hid (HG0.out.same hk1)
  have HA1 := hid (HA0.out.same hk1)
  obtain ⟨e0, e1⟩ := HA1.out.all2
  obtain ⟨e2, e3, e4⟩ := HG1.out.all3
  clear hk1
  go_wp2_with fail
  refine (kF _ (HV.out.same HK1.out)).mono ?_
  rintro e w2 ⟨⟨B, rfl, hB⟩, hk2⟩
  obtain rfl : B = true := hB.2 HFD.out
  have HK2 := hid (HK1.out.trans hk2)
  have HA2 := hid (HA1.out.same hk2)
  clear hB hk2 e0 e1 e2 e3 e4
  obtain ⟨e0, e1⟩ := HA2.out.all2
  go_wp2_with fail
  refine (kN _ (HV.out.same HK2.out)).mono ?_
  rintro e w3 ⟨v3, rfl, G3, us, rfl, hul, hG3, hb3, hr3, hk3⟩
  have HK3 := hid (HK2.out.trans hk3)
  have HUL := hid hul
  have HB3 := hid hb3
  have HR3 : Hid (∀ i, i < 8 → ∃ u, us[F + i]? = some u ∧ Rd .u8 w3 u (seeD ((F : Int) + (i : Int)) dur (dataP ps))) := fun i hi => by
    have h1 := HF2.out
    have h2 : F + i < us.length := by omega
    refine ⟨us[F + i], List.getElem?_eq_getElem h2, ?_⟩
    have h := (hr3 (F + i) h2).same hk3
    rwa [show ((F + i : Nat) : Int) = (F : Int) + (i : Int) from by omega] at h
  clear hr3 hk3 hb3 hG3 e0 e1 hul
  go_wp2_with fail
  refine (join_any G3 us.length us F (fun i => seeD ((F : Int) + (i : Int)) dur (dataP ps)) w3 HB3.out (by rw [HUL.out]; exact HF2.out) (by rw [HUL.out]; exact HN8.out) HSL.out HR3.out).mono ?_
  rintro e w4 ⟨rfl, hk4⟩
  have HK4 := hid (HK3.out.trans hk4)
  obtain ⟨ds, hds⟩ : ∃ ds : List Value, vals .u8 (joinS (fun i => seeD ((F : Int) + (i : Int)) dur (dataP ps)) 8) = ds := ⟨_, rfl⟩
  have kL := fun wx => list_any (pgB (F : Int) dur (dataP ps)) wx HRL.out
  have hds2 : vals .u8 (pgB (F : Int) dur (dataP ps)) = ds := hds
  rw [hds2] at kL
  have HDS := hid hds2
  rw [hds]
  have hsl : ds.length = 4096 := by rw [← hds2, vals_length, HRL.out]
  have hone := (show ds.toArray.all (·.oneCell') = true from all_oneCell_toArray (by rw [← hds2]; exact vals_one))
  clear hds hds2 hk4 HSL HR3
  have hst := run_storeCells_new (P := Try.prog) w4 60 Try.zeroCells60 ds.toArray (by rw [List.size_toArray, hsl]; exact (by kernel_rfl : (Try.prog.info? 60).map (·.size) = some 4096)) (by rw [show ds.toArray.size = 4096 from by rw [List.size_toArray, hsl]]; exact Try.zeroCells60_size) hone
  rw [List.toList_toArray] at hst
  have HRG := (show Hid ((w4.alloc (.cells ds.toArray 60)).rangeAt w4.heap.size 0 ds) from (Blk.newL w4 ds 60).rangeAll)
  have HI := (show Hid ((Try.prog.info? 60).map (·.size) = some ds.length) from (by rw [hsl]; exact (by kernel_rfl : (Try.prog.info? 60).map (·.size) = some 4096) : (Try.prog.info? 60).map (·.size) = some ds.length))
  have HK5 := (show Hid (Same w (w4.alloc (.cells ds.toArray 60))) from HK4.out.alloc _)
  clear hone
  go_wp2_with (first
    | (refine wpList_load_mid rfl 60 _ rfl w4.heap.size 0 rfl ds _ HRG.out Try.underlying60 rfl HI.out ?_)
    | (go_at_call 37; (with_reducible refine (kL _).mono ?_); rintro e w6 ⟨rfl, hb6, hk6⟩; have HK6 := hid (HK5.out.trans hk6); rw [← HDS.out] at hb6; rw [World.size_alloc] at hb6; have HO6 := hid (Blk.own hb6 (by rw [HRL.out]; unfold maxLen; omega)); rw [HRL.out] at HO6; clear hb6 hk6 hst))
  have HZ6 := HK5.out.size
  go_ret
  refine ⟨_, _, rfl, fun b hb => ?_, HO6.out, HK6.out⟩
  have h : w4.heap.size + 1 = b := by simpa [Value.ownBlock] using hb
  rw [World.size_alloc] at HZ6
  omega
end Go.Proofs.Ytlmcaodiiadlkaa

namespace Go.Proofs.Ytlmcaodiiadlkaa
open Go.RowKit
set_option linter.unusedVariables false
set_option maxRecDepth 100000 in
set_option maxHeartbeats 16000000 in
theorem readPage_law (dv0 pv0 : Value) (dur0 : List Int) (ps0 : List PW) (gp1 gf1 gl1 : Int) (s2 : Int) (w : World) (hv0 : RdD w dv0 pv0 dur0 ps0) :
    Calls Try.prog 3 #[.agg #[dv0, pv0], .agg #[.int .i64 gp1, .int .i64 gf1, .int .i64 gl1], .int .i64 s2] w fun e w' => e = .returned (.bool true) ∧ Same w w' := by
  obtain ⟨a0a, c0a, rfl⟩ := hv0.dur.form
  obtain ⟨a0b, c0b, rfl⟩ := hv0.pend.form
  have HV0 := (show Hid (RdD w (.slice a0a dur0.length c0a) (.slice a0b ps0.length c0b) dur0 ps0) from hv0)
  clear hv0
  obtain ⟨HKw0, HN1, HN2⟩ := new2 w [(.slice a0a dur0.length c0a), (.slice a0b ps0.length c0b)] 25 [.int .i64 gp1, .int .i64 gf1, .int .i64 gl1] 27
  go_enter Try.func3, Try.ntmps3
  have HKw : Hid (Same w w) := Kept.refl _ _
  go_wp2_with fail
  obtain ⟨w0, hw0⟩ : ∃ x, (w.alloc (.cells #[(.slice a0a dur0.length c0a), (.slice a0b ps0.length c0b)] 25)).alloc (.cells #[.int .i64 gp1, .int .i64 gf1, .int .i64 gl1] 27) = x := ⟨_, rfl⟩
  rw [hw0] at HKw0 HN1 HN2 ⊢
  clear hw0
  have HA0w0 := (show Hid (Box w0 (w.heap.size) (.slice a0a dur0.length c0a) (.slice a0b ps0.length c0b)) from ⟨HN1.out.cell 0, HN1.out.cell 1⟩)
  have HA1w0 := (show Hid (Blk w0 (w.heap.size + 1) 27 [.int .i64 gp1, .int .i64 gf1, .int .i64 gl1]) from HN2.out)
  clear HN1 HN2
  have hzw0 := HA1w0.out.lt
  refine (szDisk_any _ _ dur0 ps0 _ _ (by omega) (by omega) (HV0.out.same HKw0.out)).mono ?_
  rintro e w1 ⟨sz0, rfl, hr, hk⟩
  have hkk : Same w0 w1 := hk
  have hzw1 := hkk.size
  have HA0w1 := (show Hid (Box w1 (w.heap.size) (.slice a0a dur0.length c0a) (.slice a0b ps0.length c0b)) from HA0w0.out.same hkk)
  have HA1w1 := (show Hid (Blk w1 (w.heap.size + 1) 27 [.int .i64 gp1, .int .i64 gf1, .int .i64 gl1]) from HA1w0.out.same hkk)
  have HKw1 := (show Hid (Same w w1) from HKw0.out.trans hkk)
  clear hkk hk
  rcases hr with rfl | ⟨hr, hr0⟩
  · go_wp2
    go_ret
    exact ⟨rfl, HKw1.out⟩
  have hd0 : dur0.length ≤ 1048576 := by omega
  have hp0 : ps0.length ≤ 1048576 := by omega
  have hsz0 : sizeP ps0 ≤ 1048576 := by omega
  have HS0 : Hid (∀ p ∈ ps0, p.bs.length ≤ 1048576) := fun p hp => by have := sizeP_mem ps0 p hp; omega
  have HT0 : Hid (∀ qs : List PW, dataP qs = dataP ps0 → qs.length ≤ 1073741824 ∧ ∀ p ∈ qs, p.bs.length ≤ 1099511627776) := fun qs hq => ⟨by rw [← dataP_length, hq, dataP_length]; omega, fun p hp => by have := sizeP_mem qs p hp; rw [dataP_sizeP hq] at this; omega⟩
  clear hr
  obtain ⟨A01, A02⟩ := HA0w1.out
  have lA0 := HA0w1.out.lt
  have cA1_0 : w1.cell? ⟨w.heap.size + 1, 0, none⟩ = some (.int .i64 gp1) := HA1w1.out.cell 0
  have cA1_1 : w1.cell? ⟨w.heap.size + 1, 1, none⟩ = some (.int .i64 gf1) := HA1w1.out.cell 1
  have cA1_2 : w1.cell? ⟨w.heap.size + 1, 2, none⟩ = some (.int .i64 gl1) := HA1w1.out.cell 2
  have lA1 := HA1w1.out.lt
  go_wp2_with fail
  refine wp_region_V (fun wx : World => wx.cell? ⟨w.heap.size, 0, none⟩ = some ((.slice a0a dur0.length c0a)) ∧ wx.cell? ⟨w.heap.size, 1, none⟩ = some ((.slice a0b ps0.length c0b)) ∧ wx.cell? ⟨w.heap.size + 1, 0, none⟩ = some (.int .i64 gp1) ∧ wx.cell? ⟨w.heap.size + 1, 1, none⟩ = some (.int .i64 gf1) ∧ wx.cell? ⟨w.heap.size + 1, 2, none⟩ = some (.int .i64 gl1)) 99 7 rfl (by kernel_rfl) ?_
  generalize hwd : World.drew w1 = w2
  have hk : Same w1 w2 := by rw [← hwd]; exact (Kept.refl _ _).drew
  clear hwd
  clear A01 A02 lA0
  clear cA1_0 cA1_1 cA1_2 lA1
  have hkk : Same w1 w2 := hk
  have hzw2 := hkk.size
  have HA0w2 := (show Hid (Box w2 (w.heap.size) (.slice a0a dur0.length c0a) (.slice a0b ps0.length c0b)) from HA0w1.out.same hkk)
  have HA1w2 := (show Hid (Blk w2 (w.heap.size + 1) 27 [.int .i64 gp1, .int .i64 gf1, .int .i64 gl1]) from HA1w1.out.same hkk)
  have HKw2 := (show Hid (Same w w2) from HKw1.out.trans hkk)
  clear hkk hk
  have hS : (fun wx : World => wx.cell? ⟨w.heap.size, 0, none⟩ = some ((.slice a0a dur0.length c0a)) ∧ wx.cell? ⟨w.heap.size, 1, none⟩ = some ((.slice a0b ps0.length c0b)) ∧ wx.cell? ⟨w.heap.size + 1, 0, none⟩ = some (.int .i64 gp1) ∧ wx.cell? ⟨w.heap.size + 1, 1, none⟩ = some (.int .i64 gf1) ∧ wx.cell? ⟨w.heap.size + 1, 2, none⟩ = some (.int .i64 gl1)) w2 := ⟨HA0w2.out.1, HA0w2.out.2, HA1w2.out.cell 0, HA1w2.out.cell 1, HA1w2.out.cell 2⟩
  refine tk 0 20 hS ?_
  refine tk 2 22 hS ?_
  refine tk 4 24 hS ?_
  refine wpAnyV_one (i := 1) (by kernel_rfl) rfl (fun K hK => ?_)
  go_simp
  refine (toDisk_any _ _ dur0 ps0 _ (by omega) (by omega) (fun p hp => Nat.le_trans (HS0.out p hp) (by omega)) (HV0.out.same HKw2.out)).mono ?_
  rintro e w3 ⟨gC0, gC0', qsC0, rfl, hq, hf, ho, hk⟩
  have HQC0 : Hid (dataP qsC0 = dataP ps0) := hq
  have HFC0 := (show Hid (∀ b, footD (.slice (some ⟨gC0, 0, none⟩) dur0.length dur0.length) (.slice (some ⟨gC0', 0, none⟩) ps0.length ps0.length) qsC0 b → w2.heap.size ≤ b ∧ b < w3.heap.size) from fun b hb => ⟨hf b hb, (ho.lt b hb).2⟩)
  have HC0w3 := (show Hid (OwnD 0 89 5 w3 (.slice (some ⟨gC0, 0, none⟩) dur0.length dur0.length) (.slice (some ⟨gC0', 0, none⟩) ps0.length ps0.length) dur0 qsC0) from ho)
  clear hf ho hq
  have hkk : Same w2 w3 := hk
  have hzw3 := hkk.size
  have HA0w3 := (show Hid (Box w3 (w.heap.size) (.slice a0a dur0.length c0a) (.slice a0b ps0.length c0b)) from HA0w2.out.same hkk)
  have HA1w3 := (show Hid (Blk w3 (w.heap.size + 1) 27 [.int .i64 gp1, .int .i64 gf1, .int .i64 gl1]) from HA1w2.out.same hkk)
  have HKw3 := (show Hid (Same w w3) from HKw2.out.trans hkk)
  clear hkk hk
  have hS : (fun wx : World => wx.cell? ⟨w.heap.size, 0, none⟩ = some ((.slice a0a dur0.length c0a)) ∧ wx.cell? ⟨w.heap.size, 1, none⟩ = some ((.slice a0b ps0.length c0b)) ∧ wx.cell? ⟨w.heap.size + 1, 0, none⟩ = some (.int .i64 gp1) ∧ wx.cell? ⟨w.heap.size + 1, 1, none⟩ = some (.int .i64 gf1) ∧ wx.cell? ⟨w.heap.size + 1, 2, none⟩ = some (.int .i64 gl1)) w3 := ⟨HA0w3.out.1, HA0w3.out.2, HA1w3.out.cell 0, HA1w3.out.cell 1, HA1w3.out.cell 2⟩
  refine hK.out _ _ (fun _ => hS) ?_
  clear hK K
  try simp only [Act.put, sA, s0, sS]
  refine wpAnyV_one (i := 3) (by kernel_rfl) rfl (fun K hK => ?_)
  go_simp
  refine (toGeo_any gp1 gf1 gl1 _).mono ?_
  rintro e w4 ⟨rfl, hk⟩
  have hkk : Same w3 w4 := hk
  have hzw4 := hkk.size
  have HA0w4 := (show Hid (Box w4 (w.heap.size) (.slice a0a dur0.length c0a) (.slice a0b ps0.length c0b)) from HA0w3.out.same hkk)
  have HA1w4 := (show Hid (Blk w4 (w.heap.size + 1) 27 [.int .i64 gp1, .int .i64 gf1, .int .i64 gl1]) from HA1w3.out.same hkk)
  have HC0w4 := (show Hid (OwnD 0 89 5 w4 (.slice (some ⟨gC0, 0, none⟩) dur0.length dur0.length) (.slice (some ⟨gC0', 0, none⟩) ps0.length ps0.length) dur0 qsC0) from HC0w3.out.same hkk)
  have HKw4 := (show Hid (Same w w4) from HKw3.out.trans hkk)
  clear hkk hk
  have hS : (fun wx : World => wx.cell? ⟨w.heap.size, 0, none⟩ = some ((.slice a0a dur0.length c0a)) ∧ wx.cell? ⟨w.heap.size, 1, none⟩ = some ((.slice a0b ps0.length c0b)) ∧ wx.cell? ⟨w.heap.size + 1, 0, none⟩ = some (.int .i64 gp1) ∧ wx.cell? ⟨w.heap.size + 1, 1, none⟩ = some (.int .i64 gf1) ∧ wx.cell? ⟨w.heap.size + 1, 2, none⟩ = some (.int .i64 gl1)) w4 := ⟨HA0w4.out.1, HA0w4.out.2, HA1w4.out.cell 0, HA1w4.out.cell 1, HA1w4.out.cell 2⟩
  refine hK.out _ _ (fun _ => hS) ?_
  clear hK K
  try simp only [Act.put, sA, s0, sS]
  refine wpAnyV_one (i := 5) (by kernel_rfl) rfl (fun K hK => ?_)
  go_simp
  refine (specReadPage_any gp1 gf1 gl1 s2 _ _ dur0 qsC0 _ (HC0w4.out.rd)).mono ?_
  rintro e w5 ⟨aW, cW, rfl, hf, ho, hk⟩
  rw [HQC0.out] at hf ho ⊢
  have hrl : (rdPg gp1 gf1 gl1 s2 dur0 (dataP ps0)).length ≤ 1048576 := Nat.le_trans (rdPg_length _ _ _ _ _ _) (by omega)
  obtain ⟨r0, hR⟩ : ∃ r, rdPg gp1 gf1 gl1 s2 dur0 (dataP ps0) = r := ⟨_, rfl⟩
  have HR : Hid (rdPg gp1 gf1 gl1 s2 dur0 (dataP ps0) = r0) := hR
  rw [hR] at hrl
  clear hR
  rw [HR.out] at hf ho ⊢
  have HFW := (show Hid (∀ b, (Value.slice aW r0.length cW).ownBlock = some b → w4.heap.size ≤ b ∧ b < w5.heap.size) from fun b hb => ⟨hf b hb, (ho.lt b hb).2⟩)
  have HWw5 := (show Hid (Own 0 5 .u8 w5 (.slice aW r0.length cW) r0) from ho)
  clear hf ho
  have hkk : Same w4 w5 := hk
  have hzw5 := hkk.size
  have HA0w5 := (show Hid (Box w5 (w.heap.size) (.slice a0a dur0.length c0a) (.slice a0b ps0.length c0b)) from HA0w4.out.same hkk)
  have HA1w5 := (show Hid (Blk w5 (w.heap.size + 1) 27 [.int .i64 gp1, .int .i64 gf1, .int .i64 gl1]) from HA1w4.out.same hkk)
  have HC0w5 := (show Hid (OwnD 0 89 5 w5 (.slice (some ⟨gC0, 0, none⟩) dur0.length dur0.length) (.slice (some ⟨gC0', 0, none⟩) ps0.length ps0.length) dur0 qsC0) from HC0w4.out.same hkk)
  have HKw5 := (show Hid (Same w w5) from HKw4.out.trans hkk)
  clear hkk hk
  have hS : (fun wx : World => wx.cell? ⟨w.heap.size, 0, none⟩ = some ((.slice a0a dur0.length c0a)) ∧ wx.cell? ⟨w.heap.size, 1, none⟩ = some ((.slice a0b ps0.length c0b)) ∧ wx.cell? ⟨w.heap.size + 1, 0, none⟩ = some (.int .i64 gp1) ∧ wx.cell? ⟨w.heap.size + 1, 1, none⟩ = some (.int .i64 gf1) ∧ wx.cell? ⟨w.heap.size + 1, 2, none⟩ = some (.int .i64 gl1)) w5 := ⟨HA0w5.out.1, HA0w5.out.2, HA1w5.out.cell 0, HA1w5.out.cell 1, HA1w5.out.cell 2⟩
  refine hK.out _ _ (fun _ => hS) ?_
  clear hK K
  try simp only [Act.put, sA, s0, sS]
  refine tk 6 8 hS ?_
  refine wpAnyV_done (by kernel_rfl) ?_
  clear hS
  obtain ⟨A01, A02⟩ := HA0w5.out
  have lA0 := HA0w5.out.lt
  have cA1_0 : w5.cell? ⟨w.heap.size + 1, 0, none⟩ = some (.int .i64 gp1) := HA1w5.out.cell 0
  have cA1_1 : w5.cell? ⟨w.heap.size + 1, 1, none⟩ = some (.int .i64 gf1) := HA1w5.out.cell 1
  have cA1_2 : w5.cell? ⟨w.heap.size + 1, 2, none⟩ = some (.int .i64 gl1) := HA1w5.out.cell 2
  have lA1 := HA1w5.out.lt
  go_wp2_with fail
  refine (toDisk_any _ _ dur0 ps0 _ (by omega) (by omega) (fun p hp => Nat.le_trans (HS0.out p hp) (by omega)) (HV0.out.same HKw5.out)).mono ?_
  rintro e w6 ⟨gX0, gX0', qsX0, rfl, hq, hf, ho, hk⟩
  have HQX0 : Hid (dataP qsX0 = dataP ps0) := hq
  have HFX0 := (show Hid (∀ b, footD (.slice (some ⟨gX0, 0, none⟩) dur0.length dur0.length) (.slice (some ⟨gX0', 0, none⟩) ps0.length ps0.length) qsX0 b → w5.heap.size ≤ b ∧ b < w6.heap.size) from fun b hb => ⟨hf b hb, (ho.lt b hb).2⟩)
  have HX0w6 := (show Hid (OwnD 0 89 5 w6 (.slice (some ⟨gX0, 0, none⟩) dur0.length dur0.length) (.slice (some ⟨gX0', 0, none⟩) ps0.length ps0.length) dur0 qsX0) from ho)
  clear hf ho hq
  have hkk : Same w5 w6 := hk
  have hzw6 := hkk.size
  have HA0w6 := (show Hid (Box w6 (w.heap.size) (.slice a0a dur0.length c0a) (.slice a0b ps0.length c0b)) from HA0w5.out.same hkk)
  have HA1w6 := (show Hid (Blk w6 (w.heap.size + 1) 27 [.int .i64 gp1, .int .i64 gf1, .int .i64 gl1]) from HA1w5.out.same hkk)
  have HWw6 := (show Hid (Own 0 5 .u8 w6 (.slice aW r0.length cW) r0) from HWw5.out.same hkk)
  have HKw6 := (show Hid (Same w w6) from HKw5.out.trans hkk)
  clear hkk hk
  clear A01 A02 lA0
  clear cA1_0 cA1_1 cA1_2 lA1
  obtain ⟨A01, A02⟩ := HA0w6.out
  have lA0 := HA0w6.out.lt
  have cA1_0 : w6.cell? ⟨w.heap.size + 1, 0, none⟩ = some (.int .i64 gp1) := HA1w6.out.cell 0
  have cA1_1 : w6.cell? ⟨w.heap.size + 1, 1, none⟩ = some (.int .i64 gf1) := HA1w6.out.cell 1
  have cA1_2 : w6.cell? ⟨w.heap.size + 1, 2, none⟩ = some (.int .i64 gl1) := HA1w6.out.cell 2
  have lA1 := HA1w6.out.lt
  go_wp2_with fail
  refine wp_region_V (fun wx : World => wx.cell? ⟨w6.heap.size, 0, none⟩ = some ((.slice (some ⟨gX0, 0, none⟩) dur0.length dur0.length)) ∧ wx.cell? ⟨w6.heap.size, 1, none⟩ = some ((.slice (some ⟨gX0', 0, none⟩) ps0.length ps0.length)) ∧ wx.cell? ⟨w.heap.size + 1, 0, none⟩ = some (.int .i64 gp1) ∧ wx.cell? ⟨w.heap.size + 1, 1, none⟩ = some (.int .i64 gf1) ∧ wx.cell? ⟨w.heap.size + 1, 2, none⟩ = some (.int .i64 gl1)) 99 6 rfl (by kernel_rfl) ?_
  generalize hwd : World.drew (w6.alloc (.cells #[(.slice (some ⟨gX0, 0, none⟩) dur0.length dur0.length), (.slice (some ⟨gX0', 0, none⟩) ps0.length ps0.length)] 32)) = w7
  have hk : Same (w6.alloc (.cells #[(.slice (some ⟨gX0, 0, none⟩) dur0.length dur0.length), (.slice (some ⟨gX0', 0, none⟩) ps0.length ps0.length)] 32)) w7 := by rw [← hwd]; exact (Kept.refl _ _).drew
  clear hwd
  clear A01 A02 lA0
  clear cA1_0 cA1_1 cA1_2 lA1
  have hkk : Same w6 w7 := ((Kept.refl _ _).alloc _).trans hk
  have hzw7 := hk.size
  rw [World.size_alloc] at hzw7
  have HA0w7 := (show Hid (Box w7 (w.heap.size) (.slice a0a dur0.length c0a) (.slice a0b ps0.length c0b)) from HA0w6.out.same hkk)
  have HA1w7 := (show Hid (Blk w7 (w.heap.size + 1) 27 [.int .i64 gp1, .int .i64 gf1, .int .i64 gl1]) from HA1w6.out.same hkk)
  have HWw7 := (show Hid (Own 0 5 .u8 w7 (.slice aW r0.length cW) r0) from HWw6.out.same hkk)
  have HX0w7 := (show Hid (OwnD 0 89 5 w7 (.slice (some ⟨gX0, 0, none⟩) dur0.length dur0.length) (.slice (some ⟨gX0', 0, none⟩) ps0.length ps0.length) dur0 qsX0) from HX0w6.out.same hkk)
  have HT0w7 := (show Hid (Box w7 (w6.heap.size) (.slice (some ⟨gX0, 0, none⟩) dur0.length dur0.length) (.slice (some ⟨gX0', 0, none⟩) ps0.length ps0.length)) from (Box.new _ _ _ _).same hk)
  have HKw7 := (show Hid (Same w w7) from HKw6.out.trans hkk)
  clear hkk hk
  have hS : (fun wx : World => wx.cell? ⟨w6.heap.size, 0, none⟩ = some ((.slice (some ⟨gX0, 0, none⟩) dur0.length dur0.length)) ∧ wx.cell? ⟨w6.heap.size, 1, none⟩ = some ((.slice (some ⟨gX0', 0, none⟩) ps0.length ps0.length)) ∧ wx.cell? ⟨w.heap.size + 1, 0, none⟩ = some (.int .i64 gp1) ∧ wx.cell? ⟨w.heap.size + 1, 1, none⟩ = some (.int .i64 gf1) ∧ wx.cell? ⟨w.heap.size + 1, 2, none⟩ = some (.int .i64 gl1)) w7 := ⟨HT0w7.out.1, HT0w7.out.2, HA1w7.out.cell 0, HA1w7.out.cell 1, HA1w7.out.cell 2⟩
  refine tk 0 28 hS ?_
  refine tk 1 29 hS ?_
  refine tk 3 31 hS ?_
  refine wpAnyV_one (i := 2) (by kernel_rfl) rfl (fun K hK => ?_)
  go_simp
  refine (toGeo_any gp1 gf1 gl1 _).mono ?_
  rintro e w8 ⟨rfl, hk⟩
  have hkk : Same w7 w8 := hk
  have hzw8 := hkk.size
  have HA0w8 := (show Hid (Box w8 (w.heap.size) (.slice a0a dur0.length c0a) (.slice a0b ps0.length c0b)) from HA0w7.out.same hkk)
  have HA1w8 := (show Hid (Blk w8 (w.heap.size + 1) 27 [.int .i64 gp1, .int .i64 gf1, .int .i64 gl1]) from HA1w7.out.same hkk)
  have HWw8 := (show Hid (Own 0 5 .u8 w8 (.slice aW r0.length cW) r0) from HWw7.out.same hkk)
  have HX0w8 := (show Hid (OwnD 0 89 5 w8 (.slice (some ⟨gX0, 0, none⟩) dur0.length dur0.length) (.slice (some ⟨gX0', 0, none⟩) ps0.length ps0.length) dur0 qsX0) from HX0w7.out.same hkk)
  have HT0w8 := (show Hid (Box w8 (w6.heap.size) (.slice (some ⟨gX0, 0, none⟩) dur0.length dur0.length) (.slice (some ⟨gX0', 0, none⟩) ps0.length ps0.length)) from HT0w7.out.same hkk)
  have HKw8 := (show Hid (Same w w8) from HKw7.out.trans hkk)
  clear hkk hk
  have hS : (fun wx : World => wx.cell? ⟨w6.heap.size, 0, none⟩ = some ((.slice (some ⟨gX0, 0, none⟩) dur0.length dur0.length)) ∧ wx.cell? ⟨w6.heap.size, 1, none⟩ = some ((.slice (some ⟨gX0', 0, none⟩) ps0.length ps0.length)) ∧ wx.cell? ⟨w.heap.size + 1, 0, none⟩ = some (.int .i64 gp1) ∧ wx.cell? ⟨w.heap.size + 1, 1, none⟩ = some (.int .i64 gf1) ∧ wx.cell? ⟨w.heap.size + 1, 2, none⟩ = some (.int .i64 gl1)) w8 := ⟨HT0w8.out.1, HT0w8.out.2, HA1w8.out.cell 0, HA1w8.out.cell 1, HA1w8.out.cell 2⟩
  refine hK.out _ _ (fun _ => hS) ?_
  clear hK K
  try simp only [Act.put, sA, s0, sS]
  refine wpAnyV_one (i := 4) (by kernel_rfl) rfl (fun K hK => ?_)
  go_simp
  refine (implReadPage_any gp1 gf1 gl1 s2 _ _ dur0 qsX0 _ (HX0w8.out.rd)).mono ?_
  rintro e w9 ⟨aG, cG, rfl, hf, ho, hk⟩
  rw [HQX0.out] at hf ho ⊢
  rw [HR.out] at hf ho ⊢
  have HFG := (show Hid (∀ b, (Value.slice aG r0.length cG).ownBlock = some b → w8.heap.size ≤ b ∧ b < w9.heap.size) from fun b hb => ⟨hf b hb, (ho.lt b hb).2⟩)
  have HGw9 := (show Hid (Own 0 60 .u8 w9 (.slice aG r0.length cG) r0) from ho)
  clear hf ho
  have hkk : Same w8 w9 := hk
  have hzw9 := hkk.size
  have HA0w9 := (show Hid (Box w9 (w.heap.size) (.slice a0a dur0.length c0a) (.slice a0b ps0.length c0b)) from HA0w8.out.same hkk)
  have HA1w9 := (show Hid (Blk w9 (w.heap.size + 1) 27 [.int .i64 gp1, .int .i64 gf1, .int .i64 gl1]) from HA1w8.out.same hkk)
  have HWw9 := (show Hid (Own 0 5 .u8 w9 (.slice aW r0.length cW) r0) from HWw8.out.same hkk)
  have HX0w9 := (show Hid (OwnD 0 89 5 w9 (.slice (some ⟨gX0, 0, none⟩) dur0.length dur0.length) (.slice (some ⟨gX0', 0, none⟩) ps0.length ps0.length) dur0 qsX0) from HX0w8.out.same hkk)
  have HT0w9 := (show Hid (Box w9 (w6.heap.size) (.slice (some ⟨gX0, 0, none⟩) dur0.length dur0.length) (.slice (some ⟨gX0', 0, none⟩) ps0.length ps0.length)) from HT0w8.out.same hkk)
  have HKw9 := (show Hid (Same w w9) from HKw8.out.trans hkk)
  clear hkk hk
  have hS : (fun wx : World => wx.cell? ⟨w6.heap.size, 0, none⟩ = some ((.slice (some ⟨gX0, 0, none⟩) dur0.length dur0.length)) ∧ wx.cell? ⟨w6.heap.size, 1, none⟩ = some ((.slice (some ⟨gX0', 0, none⟩) ps0.length ps0.length)) ∧ wx.cell? ⟨w.heap.size + 1, 0, none⟩ = some (.int .i64 gp1) ∧ wx.cell? ⟨w.heap.size + 1, 1, none⟩ = some (.int .i64 gf1) ∧ wx.cell? ⟨w.heap.size + 1, 2, none⟩ = some (.int .i64 gl1)) w9 := ⟨HT0w9.out.1, HT0w9.out.2, HA1w9.out.cell 0, HA1w9.out.cell 1, HA1w9.out.cell 2⟩
  refine hK.out _ _ (fun _ => hS) ?_
  clear hK K
  try simp only [Act.put, sA, s0, sS]
  refine tk 5 10 hS ?_
  refine wpAnyV_done (by kernel_rfl) ?_
  clear hS
  obtain ⟨A01, A02⟩ := HA0w9.out
  have lA0 := HA0w9.out.lt
  obtain ⟨T01, T02⟩ := HT0w9.out
  have lT0 := HT0w9.out.lt
  have cA1_0 : w9.cell? ⟨w.heap.size + 1, 0, none⟩ = some (.int .i64 gp1) := HA1w9.out.cell 0
  have cA1_1 : w9.cell? ⟨w.heap.size + 1, 1, none⟩ = some (.int .i64 gf1) := HA1w9.out.cell 1
  have cA1_2 : w9.cell? ⟨w.heap.size + 1, 2, none⟩ = some (.int .i64 gl1) := HA1w9.out.cell 2
  have lA1 := HA1w9.out.lt
  go_wp2_with fail
  refine (eqByteS_own 0 _ _ r0 _ (by omega) HGw9.out HWw9.out).mono ?_
  rintro e w10 ⟨rfl, nn, hww⟩
  have hk : Same w9 w10 := by rw [hww]; exact (Kept.refl _ _).drewN _
  clear hww
  have hkk : Same w9 w10 := hk
  have hzw10 := hkk.size
  have HA0w10 := (show Hid (Box w10 (w.heap.size) (.slice a0a dur0.length c0a) (.slice a0b ps0.length c0b)) from HA0w9.out.same hkk)
  have HA1w10 := (show Hid (Blk w10 (w.heap.size + 1) 27 [.int .i64 gp1, .int .i64 gf1, .int .i64 gl1]) from HA1w9.out.same hkk)
  have HWw10 := (show Hid (Own 0 5 .u8 w10 (.slice aW r0.length cW) r0) from HWw9.out.same hkk)
  have HX0w10 := (show Hid (OwnD 0 89 5 w10 (.slice (some ⟨gX0, 0, none⟩) dur0.length dur0.length) (.slice (some ⟨gX0', 0, none⟩) ps0.length ps0.length) dur0 qsX0) from HX0w9.out.same hkk)
  have HT0w10 := (show Hid (Box w10 (w6.heap.size) (.slice (some ⟨gX0, 0, none⟩) dur0.length dur0.length) (.slice (some ⟨gX0', 0, none⟩) ps0.length ps0.length)) from HT0w9.out.same hkk)
  have HGw10 := (show Hid (Own 0 60 .u8 w10 (.slice aG r0.length cG) r0) from HGw9.out.same hkk)
  have HKw10 := (show Hid (Same w w10) from HKw9.out.trans hkk)
  clear hkk hk
  clear A01 A02 lA0 T01 T02 lT0
  clear cA1_0 cA1_1 cA1_2 lA1
  obtain ⟨A01, A02⟩ := HA0w10.out
  have lA0 := HA0w10.out.lt
  obtain ⟨T01, T02⟩ := HT0w10.out
  have lT0 := HT0w10.out.lt
  have cA1_0 : w10.cell? ⟨w.heap.size + 1, 0, none⟩ = some (.int .i64 gp1) := HA1w10.out.cell 0
  have cA1_1 : w10.cell? ⟨w.heap.size + 1, 1, none⟩ = some (.int .i64 gf1) := HA1w10.out.cell 1
  have cA1_2 : w10.cell? ⟨w.heap.size + 1, 2, none⟩ = some (.int .i64 gl1) := HA1w10.out.cell 2
  have lA1 := HA1w10.out.lt
  go_wp2_with fail
  go_cut [41] (fun v wc => v = .bool false ∧ Hid (Same w10 wc))
  case first =>
    have HD1 : Hid (Same w w10.drew) := HKw10.out.drew
    have HD2 : Hid (Same w10 w10.drew) := (Kept.refl _ _).drew
    go_region_with (first | (go_at_call 8; refine (toDisk_any _ _ dur0 ps0 _ (by omega) (by omega) (fun p hp => Nat.le_trans (HS0.out p hp) (by omega)) (by exact HV0.out.same HD1.out)).mono ?_; rintro e wx7 ⟨g3, g3', qs7, rfl, hq3, hf3, ho3, hk7⟩; obtain ⟨y1, y2⟩ := HT0w10.out.same (HD2.out.trans hk7); have HO7 := (show Hid (OwnD 0 89 5 wx7 (.slice (some ⟨g3, 0, none⟩) dur0.length dur0.length) (.slice (some ⟨g3', 0, none⟩) ps0.length ps0.length) dur0 qs7) from ho3); have HQ7 : Hid (dataP qs7 = dataP ps0) := hq3; have HK7 : Hid (Same w10 wx7) := HD2.out.trans hk7; clear ho3 hq3 hf3 hk7) | (go_at_call 12; refine (eqDisk_own 0 _ _ _ _ dur0 qsX0 qs7 _ (by omega) (by have h := (HT0.out qsX0 HQX0.out).1; omega) (HQX0.out.trans HQ7.out.symm) (fun p hp => Nat.le_trans ((HT0.out qsX0 HQX0.out).2 p hp) (by omega)) (HX0w10.out.same HK7.out) HO7.out).mono ?_; rintro e wx8 ⟨rfl, hk8⟩))
    all_goals
      have HK8 : Hid (Same w10 wx8) := HK7.out.trans hk8
      clear hk8
      go_wp2_with fail
      go_meet
      case rel => exact ⟨rfl, HK8⟩
  case rest =>
  obtain ⟨rfl, HKC⟩ := hcut
  obtain ⟨w11, hwc⟩ : ∃ x, x = wc := ⟨_, rfl⟩
  subst hwc
  clear A01 A02 lA0 T01 T02 lT0
  clear cA1_0 cA1_1 cA1_2 lA1
  have hkk : Same w10 w11 := HKC.out
  have hzw11 := hkk.size
  have HA0w11 := (show Hid (Box w11 (w.heap.size) (.slice a0a dur0.length c0a) (.slice a0b ps0.length c0b)) from HA0w10.out.same hkk)
  have HA1w11 := (show Hid (Blk w11 (w.heap.size + 1) 27 [.int .i64 gp1, .int .i64 gf1, .int .i64 gl1]) from HA1w10.out.same hkk)
  have HWw11 := (show Hid (Own 0 5 .u8 w11 (.slice aW r0.length cW) r0) from HWw10.out.same hkk)
  have HX0w11 := (show Hid (OwnD 0 89 5 w11 (.slice (some ⟨gX0, 0, none⟩) dur0.length dur0.length) (.slice (some ⟨gX0', 0, none⟩) ps0.length ps0.length) dur0 qsX0) from HX0w10.out.same hkk)
  have HT0w11 := (show Hid (Box w11 (w6.heap.size) (.slice (some ⟨gX0, 0, none⟩) dur0.length dur0.length) (.slice (some ⟨gX0', 0, none⟩) ps0.length ps0.length)) from HT0w10.out.same hkk)
  have HGw11 := (show Hid (Own 0 60 .u8 w11 (.slice aG r0.length cG) r0) from HGw10.out.same hkk)
  have HKw11 := (show Hid (Same w w11) from HKw10.out.trans hkk)
  clear hkk
  have hE0 : (0 : Int) ≤ 1 := by omega
  have hE0b : (1 : Int) ≤ 1 := by omega
  have hqlX0 : qsX0.length = ps0.length := by rw [← dataP_length, HQX0.out, dataP_length]
  obtain ⟨E1, hE⟩ : ∃ E, endP (1 + (dur0.length : Int)) qsX0 = E := ⟨_, rfl⟩
  have hE1 : 0 ≤ E1 := by rw [← hE, endP_size]; omega
  have hE1b : E1 ≤ 7000001 := by rw [← hE, endP_size, dataP_sizeP HQX0.out]; omega
  have HE1 : Hid (endP (1 + (dur0.length : Int)) qsX0 = E1) := hE
  clear hE
  obtain ⟨A01, A02⟩ := HA0w11.out
  have lA0 := HA0w11.out.lt
  obtain ⟨T01, T02⟩ := HT0w11.out
  have lT0 := HT0w11.out.lt
  have cA1_0 : w11.cell? ⟨w.heap.size + 1, 0, none⟩ = some (.int .i64 gp1) := HA1w11.out.cell 0
  have cA1_1 : w11.cell? ⟨w.heap.size + 1, 1, none⟩ = some (.int .i64 gf1) := HA1w11.out.cell 1
  have cA1_2 : w11.cell? ⟨w.heap.size + 1, 2, none⟩ = some (.int .i64 gl1) := HA1w11.out.cell 2
  have lA1 := HA1w11.out.lt
  go_wp2_with fail
  have hm := markDisk_own 0 (.slice (some ⟨gX0, 0, none⟩) dur0.length dur0.length) (.slice (some ⟨gX0', 0, none⟩) ps0.length ps0.length) dur0 qsX0 1 w11 (by omega) (by rw [HE1.out]; omega) (by omega) HX0w11.out
  rw [HE1.out] at hm
  refine hm.mono ?_
  clear hm
  rintro e w12 ⟨rfl, _, hk⟩
  have hzw12 := hk.size
  have HA0w12 := (show Hid (Box w12 (w.heap.size) (.slice a0a dur0.length c0a) (.slice a0b ps0.length c0b)) from HA0w11.out.kept hk (fun e => by have h1 := HFX0.out _ e; omega))
  have HA1w12 := (show Hid (Blk w12 (w.heap.size + 1) 27 [.int .i64 gp1, .int .i64 gf1, .int .i64 gl1]) from HA1w11.out.kept hk (fun e => by have h1 := HFX0.out _ e; omega))
  have HWw12 := (show Hid (Own 0 5 .u8 w12 (.slice aW r0.length cW) r0) from HWw11.out.kept hk (fun b hb e => by have h1 := HFX0.out _ e; have h2 := HFW.out b hb; omega))
  have HT0w12 := (show Hid (Box w12 (w6.heap.size) (.slice (some ⟨gX0, 0, none⟩) dur0.length dur0.length) (.slice (some ⟨gX0', 0, none⟩) ps0.length ps0.length)) from HT0w11.out.kept hk (fun e => by have h1 := HFX0.out _ e; omega))
  have HGw12 := (show Hid (Own 0 60 .u8 w12 (.slice aG r0.length cG) r0) from HGw11.out.kept hk (fun b hb e => by have h1 := HFX0.out _ e; have h2 := HFG.out b hb; omega))
  have HKw12 := (show Hid (Same w w12) from HKw11.out.next hk (fun b hb e => by have h1 := HFX0.out _ e; omega))
  clear A01 A02 lA0 T01 T02 lT0
  clear cA1_0 cA1_1 cA1_2 lA1
  clear hk
  have hEn : ¬ E1 < 0 := by omega
  obtain ⟨A01, A02⟩ := HA0w12.out
  have lA0 := HA0w12.out.lt
  have cA1_0 : w12.cell? ⟨w.heap.size + 1, 0, none⟩ = some (.int .i64 gp1) := HA1w12.out.cell 0
  have cA1_1 : w12.cell? ⟨w.heap.size + 1, 1, none⟩ = some (.int .i64 gf1) := HA1w12.out.cell 1
  have cA1_2 : w12.cell? ⟨w.heap.size + 1, 2, none⟩ = some (.int .i64 gl1) := HA1w12.out.cell 2
  have lA1 := HA1w12.out.lt
  go_wp2_with fail
  refine (eqByteS_own 0 _ _ r0 _ (by omega) HGw12.out HWw12.out).mono ?_
  rintro e w13 ⟨rfl, nn, hww⟩
  have hk : Same w12 w13 := by rw [hww]; exact (Kept.refl _ _).drewN _
  clear hww
  have hkk : Same w12 w13 := hk
  have hzw13 := hkk.size
  have HA0w13 := (show Hid (Box w13 (w.heap.size) (.slice a0a dur0.length c0a) (.slice a0b ps0.length c0b)) from HA0w12.out.same hkk)
  have HA1w13 := (show Hid (Blk w13 (w.heap.size + 1) 27 [.int .i64 gp1, .int .i64 gf1, .int .i64 gl1]) from HA1w12.out.same hkk)
  have HWw13 := (show Hid (Own 0 5 .u8 w13 (.slice aW r0.length cW) r0) from HWw12.out.same hkk)
  have HGw13 := (show Hid (Own 0 60 .u8 w13 (.slice aG r0.length cG) r0) from HGw12.out.same hkk)
  have HKw13 := (show Hid (Same w w13) from HKw12.out.trans hkk)
  clear hkk hk
  clear A01 A02 lA0
  clear cA1_0 cA1_1 cA1_2 lA1
  have hM2 : ¬ (1 + (r0.length : Int)) < 0 := by omega
  obtain ⟨A01, A02⟩ := HA0w13.out
  have lA0 := HA0w13.out.lt
  have cA1_0 : w13.cell? ⟨w.heap.size + 1, 0, none⟩ = some (.int .i64 gp1) := HA1w13.out.cell 0
  have cA1_1 : w13.cell? ⟨w.heap.size + 1, 1, none⟩ = some (.int .i64 gf1) := HA1w13.out.cell 1
  have cA1_2 : w13.cell? ⟨w.heap.size + 1, 2, none⟩ = some (.int .i64 gl1) := HA1w13.out.cell 2
  have lA1 := HA1w13.out.lt
  go_wp2_with fail
  refine (markByteS_own 0 _ r0 1 _ (by omega) (by omega) (by omega) HGw13.out).mono ?_
  rintro e w14 ⟨rfl, ho, hk⟩
  have hzw14 := hk.size
  have HA0w14 := (show Hid (Box w14 (w.heap.size) (.slice a0a dur0.length c0a) (.slice a0b ps0.length c0b)) from HA0w13.out.kept hk (fun e => by have h1 := HFG.out _ e; omega))
  have HA1w14 := (show Hid (Blk w14 (w.heap.size + 1) 27 [.int .i64 gp1, .int .i64 gf1, .int .i64 gl1]) from HA1w13.out.kept hk (fun e => by have h1 := HFG.out _ e; omega))
  have HWw14 := (show Hid (Own 0 5 .u8 w14 (.slice aW r0.length cW) r0) from HWw13.out.kept hk (fun b hb e => by have h1 := HFG.out _ e; have h2 := HFW.out b hb; omega))
  have HKw14 := (show Hid (Same w w14) from HKw13.out.next hk (fun b hb e => by have h1 := HFG.out _ e; omega))
  have HUw14 := (show Hid (Own 0 60 .u8 w14 (.slice aG r0.length cG) (marks 1 r0.length)) from ho)
  clear A01 A02 lA0
  clear cA1_0 cA1_1 cA1_2 lA1
  clear hk ho
  obtain ⟨A01, A02⟩ := HA0w14.out
  have lA0 := HA0w14.out.lt
  have cA1_0 : w14.cell? ⟨w.heap.size + 1, 0, none⟩ = some (.int .i64 gp1) := HA1w14.out.cell 0
  have cA1_1 : w14.cell? ⟨w.heap.size + 1, 1, none⟩ = some (.int .i64 gf1) := HA1w14.out.cell 1
  have cA1_2 : w14.cell? ⟨w.heap.size + 1, 2, none⟩ = some (.int .i64 gl1) := HA1w14.out.cell 2
  have lA1 := HA1w14.out.lt
  go_wp2_with fail
  refine (heldByteS_own 0 _ r0.length 1 _ (by omega) (by omega) (by omega) HUw14.out).mono ?_
  rintro e w15 ⟨rfl, hww⟩
  have hk : Same w14 w15 := by rw [hww]; exact Kept.refl _ _
  clear hww
  have hkk : Same w14 w15 := hk
  have hzw15 := hkk.size
  have HA0w15 := (show Hid (Box w15 (w.heap.size) (.slice a0a dur0.length c0a) (.slice a0b ps0.length c0b)) from HA0w14.out.same hkk)
  have HA1w15 := (show Hid (Blk w15 (w.heap.size + 1) 27 [.int .i64 gp1, .int .i64 gf1, .int .i64 gl1]) from HA1w14.out.same hkk)
  have HWw15 := (show Hid (Own 0 5 .u8 w15 (.slice aW r0.length cW) r0) from HWw14.out.same hkk)
  have HUw15 := (show Hid (Own 0 60 .u8 w15 (.slice aG r0.length cG) (marks 1 r0.length)) from HUw14.out.same hkk)
  have HKw15 := (show Hid (Same w w15) from HKw14.out.trans hkk)
  clear hkk hk
  clear A01 A02 lA0
  clear cA1_0 cA1_1 cA1_2 lA1
  obtain ⟨A01, A02⟩ := HA0w15.out
  have lA0 := HA0w15.out.lt
  have cA1_0 : w15.cell? ⟨w.heap.size + 1, 0, none⟩ = some (.int .i64 gp1) := HA1w15.out.cell 0
  have cA1_1 : w15.cell? ⟨w.heap.size + 1, 1, none⟩ = some (.int .i64 gf1) := HA1w15.out.cell 1
  have cA1_2 : w15.cell? ⟨w.heap.size + 1, 2, none⟩ = some (.int .i64 gl1) := HA1w15.out.cell 2
  have lA1 := HA1w15.out.lt
  go_wp2_with fail
  refine wp_region_V (fun wx : World => wx.cell? ⟨w.heap.size, 0, none⟩ = some ((.slice a0a dur0.length c0a)) ∧ wx.cell? ⟨w.heap.size, 1, none⟩ = some ((.slice a0b ps0.length c0b)) ∧ wx.cell? ⟨w.heap.size + 1, 0, none⟩ = some (.int .i64 gp1) ∧ wx.cell? ⟨w.heap.size + 1, 1, none⟩ = some (.int .i64 gf1) ∧ wx.cell? ⟨w.heap.size + 1, 2, none⟩ = some (.int .i64 gl1)) 99 7 rfl (by kernel_rfl) ?_
  generalize hwd : World.drew w15 = w16
  have hk : Same w15 w16 := by rw [← hwd]; exact (Kept.refl _ _).drew
  clear hwd
  clear A01 A02 lA0
  clear cA1_0 cA1_1 cA1_2 lA1
  have hkk : Same w15 w16 := hk
  have hzw16 := hkk.size
  have HA0w16 := (show Hid (Box w16 (w.heap.size) (.slice a0a dur0.length c0a) (.slice a0b ps0.length c0b)) from HA0w15.out.same hkk)
  have HA1w16 := (show Hid (Blk w16 (w.heap.size + 1) 27 [.int .i64 gp1, .int .i64 gf1, .int .i64 gl1]) from HA1w15.out.same hkk)
  have HWw16 := (show Hid (Own 0 5 .u8 w16 (.slice aW r0.length cW) r0) from HWw15.out.same hkk)
  have HUw16 := (show Hid (Own 0 60 .u8 w16 (.slice aG r0.length cG) (marks 1 r0.length)) from HUw15.out.same hkk)
  have HKw16 := (show Hid (Same w w16) from HKw15.out.trans hkk)
  clear hkk hk
  have hS : (fun wx : World => wx.cell? ⟨w.heap.size, 0, none⟩ = some ((.slice a0a dur0.length c0a)) ∧ wx.cell? ⟨w.heap.size, 1, none⟩ = some ((.slice a0b ps0.length c0b)) ∧ wx.cell? ⟨w.heap.size + 1, 0, none⟩ = some (.int .i64 gp1) ∧ wx.cell? ⟨w.heap.size + 1, 1, none⟩ = some (.int .i64 gf1) ∧ wx.cell? ⟨w.heap.size + 1, 2, none⟩ = some (.int .i64 gl1)) w16 := ⟨HA0w16.out.1, HA0w16.out.2, HA1w16.out.cell 0, HA1w16.out.cell 1, HA1w16.out.cell 2⟩
  refine tk 0 64 hS ?_
  refine tk 2 66 hS ?_
  refine tk 4 68 hS ?_
  refine wpAnyV_one (i := 1) (by kernel_rfl) rfl (fun K hK => ?_)
  go_simp
  refine (toDisk_any _ _ dur0 ps0 _ (by omega) (by omega) (fun p hp => Nat.le_trans (HS0.out p hp) (by omega)) (HV0.out.same HKw16.out)).mono ?_
  rintro e w17 ⟨gJ0, gJ0', qsJ0, rfl, hq, hf, ho, hk⟩
  have HQJ0 : Hid (dataP qsJ0 = dataP ps0) := hq
  have HFJ0 := (show Hid (∀ b, footD (.slice (some ⟨gJ0, 0, none⟩) dur0.length dur0.length) (.slice (some ⟨gJ0', 0, none⟩) ps0.length ps0.length) qsJ0 b → w16.heap.size ≤ b ∧ b < w17.heap.size) from fun b hb => ⟨hf b hb, (ho.lt b hb).2⟩)
  have HJ0w17 := (show Hid (OwnD 0 89 5 w17 (.slice (some ⟨gJ0, 0, none⟩) dur0.length dur0.length) (.slice (some ⟨gJ0', 0, none⟩) ps0.length ps0.length) dur0 qsJ0) from ho)
  clear hf ho hq
  have hkk : Same w16 w17 := hk
  have hzw17 := hkk.size
  have HA0w17 := (show Hid (Box w17 (w.heap.size) (.slice a0a dur0.length c0a) (.slice a0b ps0.length c0b)) from HA0w16.out.same hkk)
  have HA1w17 := (show Hid (Blk w17 (w.heap.size + 1) 27 [.int .i64 gp1, .int .i64 gf1, .int .i64 gl1]) from HA1w16.out.same hkk)
  have HWw17 := (show Hid (Own 0 5 .u8 w17 (.slice aW r0.length cW) r0) from HWw16.out.same hkk)
  have HUw17 := (show Hid (Own 0 60 .u8 w17 (.slice aG r0.length cG) (marks 1 r0.length)) from HUw16.out.same hkk)
  have HKw17 := (show Hid (Same w w17) from HKw16.out.trans hkk)
  clear hkk hk
  have hS : (fun wx : World => wx.cell? ⟨w.heap.size, 0, none⟩ = some ((.slice a0a dur0.length c0a)) ∧ wx.cell? ⟨w.heap.size, 1, none⟩ = some ((.slice a0b ps0.length c0b)) ∧ wx.cell? ⟨w.heap.size + 1, 0, none⟩ = some (.int .i64 gp1) ∧ wx.cell? ⟨w.heap.size + 1, 1, none⟩ = some (.int .i64 gf1) ∧ wx.cell? ⟨w.heap.size + 1, 2, none⟩ = some (.int .i64 gl1)) w17 := ⟨HA0w17.out.1, HA0w17.out.2, HA1w17.out.cell 0, HA1w17.out.cell 1, HA1w17.out.cell 2⟩
  refine hK.out _ _ (fun _ => hS) ?_
  clear hK K
  try simp only [Act.put, sA, s0, sS]
  refine wpAnyV_one (i := 3) (by kernel_rfl) rfl (fun K hK => ?_)
  go_simp
  refine (toGeo_any gp1 gf1 gl1 _).mono ?_
  rintro e w18 ⟨rfl, hk⟩
  have hkk : Same w17 w18 := hk
  have hzw18 := hkk.size
  have HA0w18 := (show Hid (Box w18 (w.heap.size) (.slice a0a dur0.length c0a) (.slice a0b ps0.length c0b)) from HA0w17.out.same hkk)
  have HA1w18 := (show Hid (Blk w18 (w.heap.size + 1) 27 [.int .i64 gp1, .int .i64 gf1, .int .i64 gl1]) from HA1w17.out.same hkk)
  have HWw18 := (show Hid (Own 0 5 .u8 w18 (.slice aW r0.length cW) r0) from HWw17.out.same hkk)
  have HUw18 := (show Hid (Own 0 60 .u8 w18 (.slice aG r0.length cG) (marks 1 r0.length)) from HUw17.out.same hkk)
  have HJ0w18 := (show Hid (OwnD 0 89 5 w18 (.slice (some ⟨gJ0, 0, none⟩) dur0.length dur0.length) (.slice (some ⟨gJ0', 0, none⟩) ps0.length ps0.length) dur0 qsJ0) from HJ0w17.out.same hkk)
  have HKw18 := (show Hid (Same w w18) from HKw17.out.trans hkk)
  clear hkk hk
  have hS : (fun wx : World => wx.cell? ⟨w.heap.size, 0, none⟩ = some ((.slice a0a dur0.length c0a)) ∧ wx.cell? ⟨w.heap.size, 1, none⟩ = some ((.slice a0b ps0.length c0b)) ∧ wx.cell? ⟨w.heap.size + 1, 0, none⟩ = some (.int .i64 gp1) ∧ wx.cell? ⟨w.heap.size + 1, 1, none⟩ = some (.int .i64 gf1) ∧ wx.cell? ⟨w.heap.size + 1, 2, none⟩ = some (.int .i64 gl1)) w18 := ⟨HA0w18.out.1, HA0w18.out.2, HA1w18.out.cell 0, HA1w18.out.cell 1, HA1w18.out.cell 2⟩
  refine hK.out _ _ (fun _ => hS) ?_
  clear hK K
  try simp only [Act.put, sA, s0, sS]
  refine wpAnyV_one (i := 5) (by kernel_rfl) rfl (fun K hK => ?_)
  go_simp
  refine (implReadPage_any gp1 gf1 gl1 s2 _ _ dur0 qsJ0 _ (HJ0w18.out.rd)).mono ?_
  rintro e w19 ⟨aL, cL, rfl, hf, ho, hk⟩
  rw [HQJ0.out] at hf ho ⊢
  rw [HR.out] at hf ho ⊢
  have HFL := (show Hid (∀ b, (Value.slice aL r0.length cL).ownBlock = some b → w18.heap.size ≤ b ∧ b < w19.heap.size) from fun b hb => ⟨hf b hb, (ho.lt b hb).2⟩)
  have HLw19 := (show Hid (Own 0 60 .u8 w19 (.slice aL r0.length cL) r0) from ho)
  clear hf ho
  have hkk : Same w18 w19 := hk
  have hzw19 := hkk.size
  have HA0w19 := (show Hid (Box w19 (w.heap.size) (.slice a0a dur0.length c0a) (.slice a0b ps0.length c0b)) from HA0w18.out.same hkk)
  have HA1w19 := (show Hid (Blk w19 (w.heap.size + 1) 27 [.int .i64 gp1, .int .i64 gf1, .int .i64 gl1]) from HA1w18.out.same hkk)
  have HWw19 := (show Hid (Own 0 5 .u8 w19 (.slice aW r0.length cW) r0) from HWw18.out.same hkk)
  have HUw19 := (show Hid (Own 0 60 .u8 w19 (.slice aG r0.length cG) (marks 1 r0.length)) from HUw18.out.same hkk)
  have HJ0w19 := (show Hid (OwnD 0 89 5 w19 (.slice (some ⟨gJ0, 0, none⟩) dur0.length dur0.length) (.slice (some ⟨gJ0', 0, none⟩) ps0.length ps0.length) dur0 qsJ0) from HJ0w18.out.same hkk)
  have HKw19 := (show Hid (Same w w19) from HKw18.out.trans hkk)
  clear hkk hk
  have hS : (fun wx : World => wx.cell? ⟨w.heap.size, 0, none⟩ = some ((.slice a0a dur0.length c0a)) ∧ wx.cell? ⟨w.heap.size, 1, none⟩ = some ((.slice a0b ps0.length c0b)) ∧ wx.cell? ⟨w.heap.size + 1, 0, none⟩ = some (.int .i64 gp1) ∧ wx.cell? ⟨w.heap.size + 1, 1, none⟩ = some (.int .i64 gf1) ∧ wx.cell? ⟨w.heap.size + 1, 2, none⟩ = some (.int .i64 gl1)) w19 := ⟨HA0w19.out.1, HA0w19.out.2, HA1w19.out.cell 0, HA1w19.out.cell 1, HA1w19.out.cell 2⟩
  refine hK.out _ _ (fun _ => hS) ?_
  clear hK K
  try simp only [Act.put, sA, s0, sS]
  refine tk 6 14 hS ?_
  refine wpAnyV_done (by kernel_rfl) ?_
  clear hS
  obtain ⟨A01, A02⟩ := HA0w19.out
  have lA0 := HA0w19.out.lt
  have cA1_0 : w19.cell? ⟨w.heap.size + 1, 0, none⟩ = some (.int .i64 gp1) := HA1w19.out.cell 0
  have cA1_1 : w19.cell? ⟨w.heap.size + 1, 1, none⟩ = some (.int .i64 gf1) := HA1w19.out.cell 1
  have cA1_2 : w19.cell? ⟨w.heap.size + 1, 2, none⟩ = some (.int .i64 gl1) := HA1w19.out.cell 2
  have lA1 := HA1w19.out.lt
  go_wp2_with fail
  refine (eqByteS_own 0 _ _ r0 _ (by omega) HLw19.out HWw19.out).mono ?_
  rintro e w20 ⟨rfl, nn, hww⟩
  have hk : Same w19 w20 := by rw [hww]; exact (Kept.refl _ _).drewN _
  clear hww
  have hkk : Same w19 w20 := hk
  have hzw20 := hkk.size
  have HA0w20 := (show Hid (Box w20 (w.heap.size) (.slice a0a dur0.length c0a) (.slice a0b ps0.length c0b)) from HA0w19.out.same hkk)
  have HA1w20 := (show Hid (Blk w20 (w.heap.size + 1) 27 [.int .i64 gp1, .int .i64 gf1, .int .i64 gl1]) from HA1w19.out.same hkk)
  have HWw20 := (show Hid (Own 0 5 .u8 w20 (.slice aW r0.length cW) r0) from HWw19.out.same hkk)
  have HUw20 := (show Hid (Own 0 60 .u8 w20 (.slice aG r0.length cG) (marks 1 r0.length)) from HUw19.out.same hkk)
  have HLw20 := (show Hid (Own 0 60 .u8 w20 (.slice aL r0.length cL) r0) from HLw19.out.same hkk)
  have HKw20 := (show Hid (Same w w20) from HKw19.out.trans hkk)
  clear hkk hk
  clear A01 A02 lA0
  clear cA1_0 cA1_1 cA1_2 lA1
  obtain ⟨A01, A02⟩ := HA0w20.out
  have lA0 := HA0w20.out.lt
  have cA1_0 : w20.cell? ⟨w.heap.size + 1, 0, none⟩ = some (.int .i64 gp1) := HA1w20.out.cell 0
  have cA1_1 : w20.cell? ⟨w.heap.size + 1, 1, none⟩ = some (.int .i64 gf1) := HA1w20.out.cell 1
  have cA1_2 : w20.cell? ⟨w.heap.size + 1, 2, none⟩ = some (.int .i64 gl1) := HA1w20.out.cell 2
  have lA1 := HA1w20.out.lt
  go_wp2_with fail
  refine (heldByteS_own 0 _ r0.length 1 _ (by omega) (by omega) (by omega) HUw20.out).mono ?_
  rintro e w21 ⟨rfl, hww⟩
  have hk : Same w20 w21 := by rw [hww]; exact Kept.refl _ _
  clear hww
  have hkk : Same w20 w21 := hk
  have hzw21 := hkk.size
  have HA0w21 := (show Hid (Box w21 (w.heap.size) (.slice a0a dur0.length c0a) (.slice a0b ps0.length c0b)) from HA0w20.out.same hkk)
  have HA1w21 := (show Hid (Blk w21 (w.heap.size + 1) 27 [.int .i64 gp1, .int .i64 gf1, .int .i64 gl1]) from HA1w20.out.same hkk)
  have HUw21 := (show Hid (Own 0 60 .u8 w21 (.slice aG r0.length cG) (marks 1 r0.length)) from HUw20.out.same hkk)
  have HKw21 := (show Hid (Same w w21) from HKw20.out.trans hkk)
  clear hkk hk
  clear A01 A02 lA0
  clear cA1_0 cA1_1 cA1_2 lA1
  go_wp2
  go_ret
  exact ⟨rfl, HKw21.out⟩
end Go.Proofs.Ytlmcaodiiadlkaa

namespace Go.Proofs.Ytlmcaodiiadlkaa.fnExactReadPage
open Go.ChangeShapes Go.WideShapes Go.ChangeAt Go.RowKit
set_option linter.unusedVariables false
theorem own : ownKnob Try.prog.godebug = none := by kernel_rfl
theorem laidOut : laidOutB Try.prog = true := by kernel_rfl
set_option maxRecDepth 100000 in
theorem lifted (os : Os) (started : os.Started) (H : Type) (enc : TypeId × Value → H) :
    ReturnsInHanded {} Try.checked os 3 .any (Rows.fnExactReadPageSpec.pre6 enc Try.prog Try.f3 Rows.fnExactReadPageRow.domain false) (Rows.fnExactReadPageSpec.post enc Try.prog Try.f3 false true false false) := by
  refine returnsInHanded_of_change (C := Try.checked) own started (by kernel_rfl) Try.func3
    (ChangeSpec.witness6 (enc := enc) (C := Try.checked) false ⟨#[], #[.agg #[.slice none 0 0, .slice none 0 0], .agg #[.int .i64 0, .int .i64 0, .int .i64 0], .int .i64 0], []⟩ 8 (by kernel_rfl) (by kernel_rfl) (by kernel_rfl) (by kernel_rfl)) ?_
  intro W base args ds gs before hval0 hW hcnd _
  have hval : ∀ (j : Nat) t v, Try.f3.params[j]? = some t → args[j]? = some v → Value.okWide Try.prog W .any base t v := hval0
  have hW' := hW
  obtain ⟨p, q, hA0, hV, rfl, hfz, hnd⟩ := hW
  have hA : DataW.TrodAll enc Try.prog W 0 (fun _ => true) true Try.f3.params.toList args.toList ds p := hA0
  rw [Try.params3] at hA hval
  obtain ⟨v0, vs0, d0, ds0, p0, q0, hargs, rfl, rfl, h0, r0⟩ := trodAll_cons hA
  obtain ⟨v1, vs1, d1, ds1, p1, q1, rfl, rfl, rfl, h1, r1⟩ := trodAll_cons r0
  obtain ⟨v2, vs2, d2, ds2, p2, q2, rfl, rfl, rfl, h2, r2⟩ := trodAll_cons r1
  obtain ⟨rfl, rfl, rfl⟩ := trodAll_nil r2
  obtain rfl : args = #[v0, v1, v2] := by cases args; simp_all
  obtain ⟨rfl, rfl⟩ := trodVars_none hV
  have k0 := h0
  have lt0 : ∀ x ∈ p0, x.block < W.heap.size := by obtain ⟨m, hm⟩ := k0; exact DataW.trod_lt m _ _ _ hm
  obtain ⟨dv0, pv0, dur0, ps0, rfl, rd0⟩ := open_disk (hval 0 25 v0 rfl rfl) h0
  have k1 := h1
  have lt1 : ∀ x ∈ p1, x.block < W.heap.size := by obtain ⟨m, hm⟩ := k1; exact DataW.trod_lt m _ _ _ hm
  obtain ⟨gp1, gf1, gl1, rfl⟩ := open_geo (hval 1 27 v1 rfl rfl) h1
  obtain ⟨a2, rfl, rfl, rfl, w2⟩ := open_int Try.underlying2 (hval 2 2 v2 rfl rfl) h2
  clear hA0 hval0
  refine (readPage_law dv0 pv0 dur0 ps0 gp1 gf1 gl1 a2 W rd0).mono fun e W' ⟨he, hk⟩ => ?_
  have bel : Below W.heap.size W W' := hk.below (Nat.le_refl _) (fun _ _ => id)
  subst he
  exact ⟨_, rfl, _, _, _, [], _, [], hW', trodAll_mk1 (shut_bool Try.underlying4 _), (trodAll_cons_mk (Below.trod laidOut (by kernel_rfl) (of_decide_eq_true (by kernel_rfl)) k0 bel lt0) (trodAll_cons_mk (Below.trod laidOut (by kernel_rfl) (of_decide_eq_true (by kernel_rfl)) k1 bel lt1) (trodAll_cons_mk (shut_int Try.underlying2 w2) trodAll_mk0))), rfl, bel.frame _, fun h => by cases h⟩
theorem over : Rows.fnExactReadPageRow.holds Try.pinned (OpenSpec.ofChange Rows.fnExactReadPageSpec) :=
  OpenClaim.holds_of_wide 3 Try.f3 rfl rfl rfl rfl rfl rfl rfl ⟨rfl, rfl, rfl, rfl, rfl⟩ rfl rfl rfl rfl rfl (by kernel_rfl) Try.func3 (by kernel_rfl)
    (of_decide_eq_true (by kernel_rfl)) (by unfold Func.isWrapper; first | (rw [if_pos (by decide +kernel)]; kernel_rfl) | (rw [if_neg (by decide +kernel)]; exact ⟨rfl, rfl⟩))
    (fun os started H enc _ => lifted os started H enc)
end Go.Proofs.Ytlmcaodiiadlkaa.fnExactReadPage
namespace Go.Proofs.Ytlmcaodiiadlkaa
theorem readPage_proved : Rows.FnExactReadPageSaid := fnExactReadPage.over
#print axioms readPage_proved
end Go.Proofs.Ytlmcaodiiadlkaa
