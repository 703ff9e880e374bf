/-
  ReadPage, both sides.
-/
import Derived.Test.YtednajibnjofmaaReadPgS
import Derived.Test.YtednajibnjofmaaJoin
import Derived.Test.YtednajibnjofmaaPageFn
namespace Go.Proofs.Ytednajibnjofmaa
set_option maxRecDepth 100000
set_option maxHeartbeats 1000000
open Go.RowKit
set_option linter.unusedVariables false
set_option linter.unusedSimpArgs false

theorem implReadPage_any (p f l g : Int) (dv pv : Value) (dur : List Int) (ps : List PW) (w : World) (hv : RdD w dv pv dur ps) :
    Calls Try.prog 9 #[.agg #[dv, pv], .agg #[.int .i64 p, .int .i64 f, .int .i64 l], .int .i64 g] w fun e w' => ∃ a c, e = .returned (.slice a (rdPg p f l g dur (dataP ps)).length c) ∧ (∀ b, (Value.slice a (rdPg p f l g dur (dataP ps)).length c).ownBlock = some b → w.heap.size ≤ b) ∧ Own 0 52 .u8 w' (.slice a (rdPg p f l g dur (dataP ps)).length c) (rdPg p f l g dur (dataP ps)) ∧ Same w w' := by
  have HV := hid hv
  have kF := fun wx hv => holds_any p f l dv pv dur ps wx hv
  have kS := fun wx => implPgSec_any p f l g wx
  have kN := fun hV wx hv => seen_any dv pv dur ps wx hV hv
  obtain ⟨a1, c1, rfl⟩ := hv.dur.form
  obtain ⟨a2, c2, rfl⟩ := hv.pend.form
  clear hv
  obtain ⟨HK0, HA0, HG0⟩ := new2 w [.slice a1 dur.length c1, .slice a2 ps.length c2] 32 [.int .i64 p, .int .i64 f, .int .i64 l] 34
  by_cases hs : pgSec p f l g = -1
  · rw [rdPg_no (fun h => by have := fit_sec h.1 h.2.1 h.2.2; omega)]
    rw [hs] at kS
    clear hs
    go_enter Try.func9, Try.ntmps9
    go_wp2_with fail
    refine (kS _).mono ?_
    rintro e w1 ⟨rfl, hk1⟩
    have HK1 := hid (HK0.out.trans hk1)
    clear hk1
    go_wp2
    go_ret
    exact ⟨_, _, rfl, fun b hb => by simp [Value.ownBlock] at hb, Own.nil _ _ _ _, HK1.out⟩
  obtain ⟨_, hg1, hg2, hsec⟩ := (pgSec_cases p f l g).resolve_left hs
  by_cases hF : fitD p f l dur.length (dataP ps)
  case neg =>
    rw [rdPg_no (fun h => hF h.1)]
    obtain ⟨F, hFF⟩ : ∃ F, pgSec p f l g = F := ⟨_, rfl⟩
    rw [hFF] at kS hs
    clear hsec hFF
    go_enter Try.func9, Try.ntmps9
    go_wp2_with fail
    refine (kS _).mono ?_
    rintro e w1 ⟨rfl, hk1⟩
    have HK1 := hid (HK0.out.trans hk1)
    have HG1 := hid (HG0.out.same hk1)
    have HA1 := hid (HA0.out.same hk1)
    obtain ⟨e0, e1⟩ := HA1.out.all2
    obtain ⟨e2, e3, e4⟩ := HG1.out.all3
    clear hk1
    go_wp2_with fail
    refine (kF _ (HV.out.same HK1.out)).mono ?_
    rintro e w2 ⟨⟨B, rfl, hB⟩, hk2⟩
    obtain rfl : B = false := by
      cases B
      · rfl
      · exact absurd (hB.1 rfl) hF
    have HK2 := hid (HK1.out.trans hk2)
    clear hB hk2
    go_wp2
    go_ret
    exact ⟨_, _, rfl, fun b hb => by simp [Value.ownBlock] at hb, Own.nil _ _ _ _, HK2.out⟩
  rw [rdPg_yes hF hg1 hg2]
  obtain ⟨s1, s2, s3⟩ := fit_sec hF hg1 hg2
  obtain ⟨F, hFF⟩ : ∃ F : Nat, 2 + l + g * 8 = (F : Int) := ⟨(2 + l + g * 8).toNat, by omega⟩
  have hRL := pgB_length hF hg1 hg2
  have kN := fun wx hv => kN hF.2.1 wx hv
  have HSL : Hid (∀ k : Nat, k < 8 → (seeD ((F : Int) + (k : Int)) dur (dataP ps)).length = 512) := fun k hk => seeD_length hF.2.1 (by omega) (by omega)
  have HN8 : Hid (dur.length / 512 ≤ 1024) := hF.2.1.1.2.2.1
  rw [hFF] at s2 hRL hsec ⊢
  rw [hsec] at kS
  have HF2 : Hid (F + 8 ≤ dur.length / 512) := by unfold Hid; omega
  have hs' : ¬ (F : Int) = -1 := by omega
  have HFD := hid hF
  have HRL := hid hRL
  rw [hRL]
  clear hF s1 s2 s3 hsec hFF hs hRL
  go_enter Try.func9, Try.ntmps9
  go_wp2_with fail
  refine (kS _).mono ?_
  rintro e w1 ⟨rfl, hk1⟩
  have HK1 := hid (HK0.out.trans hk1)
  have HG1 := hid (HG0.out.same hk1)
  have HA1 := hid (HA0.out.same hk1)
  obtain ⟨e0, e1⟩ := HA1.out.all2
  obtain ⟨e2, e3, e4⟩ := HG1.out.all3
  clear hk1
  go_wp2_with fail
  refine (kF _ (HV.out.same HK1.out)).mono ?_
  rintro e w2 ⟨⟨B, rfl, hB⟩, hk2⟩
  obtain rfl : B = true := hB.2 HFD.out
  have HK2 := hid (HK1.out.trans hk2)
  have HA2 := hid (HA1.out.same hk2)
  clear hB hk2 e0 e1 e2 e3 e4
  obtain ⟨e0, e1⟩ := HA2.out.all2
  go_wp2_with fail
  refine (kN _ (HV.out.same HK2.out)).mono ?_
  rintro e w3 ⟨v3, rfl, G3, us, rfl, hul, hG3, hb3, hr3, hk3⟩
  have HK3 := hid (HK2.out.trans hk3)
  have HUL := hid hul
  have HB3 := hid hb3
  have HR3 : Hid (∀ i, i < 8 → ∃ u, us[F + i]? = some u ∧ Rd .u8 w3 u (seeD ((F : Int) + (i : Int)) dur (dataP ps))) := fun i hi => by
    have h1 := HF2.out
    have h2 : F + i < us.length := by omega
    refine ⟨us[F + i], List.getElem?_eq_getElem h2, ?_⟩
    have h := (hr3 (F + i) h2).same hk3
    rwa [show ((F + i : Nat) : Int) = (F : Int) + (i : Int) from by omega] at h
  clear hr3 hk3 hb3 hG3 e0 e1 hul
  go_wp2_with fail
  refine (join_any G3 us.length us F (fun i => seeD ((F : Int) + (i : Int)) dur (dataP ps)) w3 HB3.out (by rw [HUL.out]; exact HF2.out) (by rw [HUL.out]; exact HN8.out) HSL.out HR3.out).mono ?_
  rintro e w4 ⟨rfl, hk4⟩
  have HK4 := hid (HK3.out.trans hk4)
  obtain ⟨ds, hds⟩ : ∃ ds : List Value, vals .u8 (joinS (fun i => seeD ((F : Int) + (i : Int)) dur (dataP ps)) 8) = ds := ⟨_, rfl⟩
  have kL := fun wx => list_any (pgB (F : Int) dur (dataP ps)) wx HRL.out
  have hds2 : vals .u8 (pgB (F : Int) dur (dataP ps)) = ds := hds
  rw [hds2] at kL
  have HDS := hid hds2
  rw [hds]
  have hsl : ds.length = 4096 := by rw [← hds2, vals_length, HRL.out]
  have hone := (show ds.toArray.all (·.oneCell') = true from all_oneCell_toArray (by rw [← hds2]; exact vals_one))
  clear hds hds2 hk4 HSL HR3
  have hst := run_storeCells_new (P := Try.prog) w4 52 Try.zeroCells52 ds.toArray (by rw [List.size_toArray, hsl]; exact (by kernel_rfl : (Try.prog.info? 52).map (·.size) = some 4096)) (by rw [show ds.toArray.size = 4096 from by rw [List.size_toArray, hsl]]; exact Try.zeroCells52_size) hone
  rw [List.toList_toArray] at hst
  have HRG := (show Hid ((w4.alloc (.cells ds.toArray 52)).rangeAt w4.heap.size 0 ds) from (Blk.newL w4 ds 52).rangeAll)
  have HI := (show Hid ((Try.prog.info? 52).map (·.size) = some ds.length) from (by rw [hsl]; exact (by kernel_rfl : (Try.prog.info? 52).map (·.size) = some 4096) : (Try.prog.info? 52).map (·.size) = some ds.length))
  have HK5 := (show Hid (Same w (w4.alloc (.cells ds.toArray 52))) from HK4.out.alloc _)
  clear hone
  go_wp2_with (first
    | (refine wpList_load_mid rfl 52 _ rfl w4.heap.size 0 rfl ds _ HRG.out Try.underlying52 rfl HI.out ?_)
    | (go_at_call 31; (with_reducible refine (kL _).mono ?_); rintro e w6 ⟨rfl, hb6, hk6⟩; have HK6 := hid (HK5.out.trans hk6); rw [← HDS.out] at hb6; rw [World.size_alloc] at hb6; have HO6 := hid (Blk.own hb6 (by rw [HRL.out]; unfold maxLen; omega)); rw [HRL.out] at HO6; clear hb6 hk6 hst))
  have HZ6 := HK5.out.size
  go_ret
  refine ⟨_, _, rfl, fun b hb => ?_, HO6.out, HK6.out⟩
  have h : w4.heap.size + 1 = b := by simpa [Value.ownBlock] using hb
  rw [World.size_alloc] at HZ6
  omega
end Go.Proofs.Ytednajibnjofmaa
