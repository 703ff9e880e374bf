/-
  PageWhole: the model's and the program's, at any world.
-/
import Derived.Test.YtbcklddadfnkgabWhole
import Derived.Test.YtbcklddadfnkgabL3Num
namespace Go.Proofs.Ytbcklddadfnkgab
open Go.RowKit
set_option linter.unusedVariables false
set_option linter.unusedSimpArgs false

theorem Kept.ranges {w w' : World} {b o : Nat} {cs : List Value} (hk : Same w w') (h : w.rangeAt b o cs) : w'.rangeAt b o cs := fun j v hv => hk.cellOf (h j v hv) id

set_option maxRecDepth 100000 in
set_option maxHeartbeats 4000000 in
theorem implWhole_any (v : Value) (bs : List Int) (w : World) (hB : IsB bs) (hn : bs.length ≤ 1099511627776) (hv : Rd .u8 w v bs) :
    Calls Try.prog 16 #[v] w fun e w' => e = .returned (.bool (pageWhole bs)) ∧ Same w w' := by
  obtain ⟨a, c, rfl⟩ := hv.form
  by_cases hl : bs.length = 4096
  · have hR : pageWhole bs = (sealB bs == bs) := by unfold pageWhole; rw [hl]; rfl
    have hsl : (sealB bs).length = 4096 := by rw [sealB_length _ (by omega), hl]
    obtain ⟨b, off, rfl, hc⟩ := rd_some hv (by omega)
    have hrg := rd_range hv (by omega)
    have hcl := vals_length .u8 bs
    have hI : (Try.prog.info? 36).map (·.size) = some (vals .u8 bs).length := by rw [hcl, hl]; exact page_info
    have hSd := sealed_any bs w.drew hB hl
    have heq := fun w => run_eql_pages w (sealB bs) bs hsl hl
    obtain ⟨cs, hcs⟩ : ∃ cs : List Value, vals .u8 bs = cs := ⟨_, rfl⟩
    obtain ⟨ds, hds⟩ : ∃ ds : Array Value, (vals .u8 (sealB bs)).toArray = ds := ⟨_, rfl⟩
    rw [hcs] at hSd hrg hI heq
    rw [hds] at hSd heq
    rw [hR, hl]
    obtain ⟨r, hr⟩ : ∃ r, (sealB bs == bs) = r := ⟨_, rfl⟩
    rw [hr] at heq ⊢
    have harr := run_arrayP
    clear hcs hds hcl hv hB hn hR hsl hr hl
    go_enter Try.func16, Try.ntmps16
    go_wp2_with fail
    have hS : (fun wx : World => wx.rangeAt b off cs) w.drew := by exact Kept.ranges (Kept.refl _ _).drew hrg
    refine wp_region_V (fun wx : World => wx.rangeAt b off cs) 99 14 rfl (by kernel_rfl) ?_
    refine wpAnyV_take (i := 0) (v := ?vq1) (some 3) rfl rfl (by kernel_rfl) (by kernel_rfl) (by kernel_rfl) (by kernel_rfl) (fun _ _ _ h => h) (Or.inl ⟨by rfl, ?hyq1⟩) hS ?_
    case hyq1 => (intro w hSw; (try dsimp only at hSw); go_simp; (try with_reducible rfl))
    try simp only [Act.put, List.setIfInBounds_toArray, List.set_cons_zero, List.set_cons_succ]
    refine wpAnyV_take (i := 1) (v := ?vq2) (some 4) rfl rfl (by kernel_rfl) (by kernel_rfl) (by kernel_rfl) (by kernel_rfl) (fun _ _ _ h => h) (Or.inl ⟨by rfl, ?hyq2⟩) hS ?_
    case hyq2 => (intro w hSw; (try dsimp only at hSw); go_simp; (try with_reducible rfl))
    try simp only [Act.put, List.setIfInBounds_toArray, List.set_cons_zero, List.set_cons_succ]
    refine wpAnyV_take (i := 2) (v := ?vq3) (some 5) rfl rfl (by kernel_rfl) (by kernel_rfl) (by kernel_rfl) (by kernel_rfl) (fun _ _ _ h => h) (Or.inl ⟨by rfl, ?hyq3⟩) hS ?_
    case hyq3 => (intro w hSw; (try dsimp only at hSw); go_simp; (try with_reducible rfl))
    try simp only [Act.put, List.setIfInBounds_toArray, List.set_cons_zero, List.set_cons_succ]
    refine wpAnyV_take (i := 3) (v := ?vq4) (some 6) rfl rfl (by kernel_rfl) (by kernel_rfl) (by kernel_rfl) (by kernel_rfl) (fun _ _ _ h => h) (Or.inl ⟨by rfl, ?hyq4⟩) hS ?_
    case hyq4 => (intro w hSw; (try dsimp only at hSw); go_simp; (try with_reducible rfl))
    try simp only [Act.put, List.setIfInBounds_toArray, List.set_cons_zero, List.set_cons_succ]
    refine wpAnyV_take (i := 4) (v := ?vq5) (some 7) rfl rfl (by kernel_rfl) (by kernel_rfl) (by kernel_rfl) (by kernel_rfl) (fun _ _ _ h => h) (Or.inl ⟨by rfl, ?hyq5⟩) hS ?_
    case hyq5 => (intro w hSw; (try dsimp only at hSw); go_simp; (try with_reducible rfl))
    try simp only [Act.put, List.setIfInBounds_toArray, List.set_cons_zero, List.set_cons_succ]
    refine wpAnyV_take (i := 5) (v := ?vq6) (some 8) rfl rfl (by kernel_rfl) (by kernel_rfl) (by kernel_rfl) (by kernel_rfl) (fun _ _ _ h => h) (Or.inl ⟨by rfl, ?hyq6⟩) hS ?_
    case hyq6 => (intro w hSw; (try dsimp only at hSw); go_simp; (try with_reducible rfl))
    try simp only [Act.put, List.setIfInBounds_toArray, List.set_cons_zero, List.set_cons_succ]
    refine wpAnyV_take (i := 6) (v := .agg cs.toArray) (some 9) rfl rfl (by kernel_rfl) (by kernel_rfl) (by kernel_rfl) (by kernel_rfl) (fun _ _ _ h => h) (yieldsIf_load_mid (by rfl) 36 _ rfl b off rfl cs _ (fun _ h => h) Try.underlying36 rfl hI) hS ?_
    try simp only [Act.put, List.setIfInBounds_toArray, List.set_cons_zero, List.set_cons_succ]
    refine wpAnyV_take (i := 8) (v := ?vq7) (some 11) rfl rfl (by kernel_rfl) (by kernel_rfl) (by kernel_rfl) (by kernel_rfl) (fun _ _ _ h => h) (Or.inl ⟨by rfl, ?hyq7⟩) hS ?_
    case hyq7 => (intro w hSw; (try dsimp only at hSw); go_simp; (try with_reducible rfl))
    try simp only [Act.put, List.setIfInBounds_toArray, List.set_cons_zero, List.set_cons_succ]
    refine wpAnyV_take (i := 9) (v := ?vq8) (some 12) rfl rfl (by kernel_rfl) (by kernel_rfl) (by kernel_rfl) (by kernel_rfl) (fun _ _ _ h => h) (Or.inl ⟨by rfl, ?hyq8⟩) hS ?_
    case hyq8 => (intro w hSw; (try dsimp only at hSw); go_simp; (try with_reducible rfl))
    try simp only [Act.put, List.setIfInBounds_toArray, List.set_cons_zero, List.set_cons_succ]
    refine wpAnyV_take (i := 10) (v := .agg cs.toArray) (some 13) rfl rfl (by kernel_rfl) (by kernel_rfl) (by kernel_rfl) (by kernel_rfl) (fun _ _ _ h => h) (yieldsIf_load_mid (by rfl) 36 _ rfl b off rfl cs _ (fun _ h => h) Try.underlying36 rfl hI) hS ?_
    try simp only [Act.put, List.setIfInBounds_toArray, List.set_cons_zero, List.set_cons_succ]
    refine wpAnyV_one (i := 7) (by kernel_rfl) rfl (fun K hK => ?_)
    go_simp
    with_reducible refine hSd.mono ?_
    rintro e w2 ⟨rfl, hkk⟩
    have hk2 : Same w w2 := (Kept.refl _ _).drew.trans hkk
    have hS2 : (fun wx : World => wx.rangeAt b off cs) w2 := Kept.ranges hk2 hrg
    refine hK.out _ _ (fun _ => hS2) ?_
    clear hK K
    try simp only [Act.put, List.setIfInBounds_toArray, List.set_cons_zero, List.set_cons_succ]
    refine wpAnyV_take (i := 11) (v := ?vq9) (some 14) rfl rfl (by kernel_rfl) (by kernel_rfl) (by kernel_rfl) (by kernel_rfl) (fun _ _ _ h => h) (Or.inl ⟨by rfl, ?hyq9⟩) hS2 ?_
    case hyq9 => (intro w hSw; (try dsimp only at hSw); go_simp; (try with_reducible rfl))
    try simp only [Act.put, List.setIfInBounds_toArray, List.set_cons_zero, List.set_cons_succ]
    refine wpAnyV_take (i := 12) (v := ?vq10) (some 15) rfl rfl (by kernel_rfl) (by kernel_rfl) (by kernel_rfl) (by kernel_rfl) (fun _ _ _ h => h) (Or.inl ⟨by rfl, ?hyq10⟩) hS2 ?_
    case hyq10 => (intro w hSw; (try dsimp only at hSw); go_simp; (try with_reducible rfl))
    try simp only [Act.put, List.setIfInBounds_toArray, List.set_cons_zero, List.set_cons_succ]
    refine wpAnyV_take (i := 13) (v := ?vq11) (some 2) rfl rfl (by kernel_rfl) (by kernel_rfl) (by kernel_rfl) (by kernel_rfl) (fun _ _ _ h => h) (Or.inl ⟨by rfl, ?hyq11⟩) hS2 ?_
    case hyq11 => (intro w hSw; (try dsimp only at hSw); go_simp; (try with_reducible rfl))
    try simp only [Act.put, List.setIfInBounds_toArray, List.set_cons_zero, List.set_cons_succ]
    refine wpAnyV_done (by kernel_rfl) ?_
    go_wp2
    go_ret
    exact ⟨rfl, hk2⟩
  · have hR : pageWhole bs = false := by unfold pageWhole; simp [hl]
    rw [hR]
    have hl' : ¬ (bs.length : Int) = 4096 := by omega
    clear hv hB
    go_enter Try.func16, Try.ntmps16
    go_wp2
    go_quiet (fail)
    go_wp2
    go_ret
    exact ⟨rfl, (Kept.refl _ _).drewN _⟩

set_option maxRecDepth 100000 in
set_option maxHeartbeats 4000000 in
theorem specWhole_any (v : Value) (bs : List Int) (w : World) (hB : IsB bs) (hn : bs.length ≤ 1099511627776) (hv : Rd .u8 w v bs) :
    Calls Try.prog 15 #[v] w fun e w' => e = .returned (.bool (pageWhole bs)) ∧ Same w w' := by
  obtain ⟨a, c, rfl⟩ := hv.form
  by_cases hl : bs.length = 4096
  · have hR : pageWhole bs = (sealB bs == bs) := by unfold pageWhole; rw [hl]; rfl
    obtain ⟨b, off, rfl, hc⟩ := rd_some hv (by omega)
    have hwi := whole_iff bs hB hl
    have HRd := (show Hid (∀ wx, Same w wx → Rd .u8 wx (.slice (some ⟨b, off + 4, none⟩) 4092 (c - 4)) (bs.drop 4)) from fun wx hx => by
      have h := Rd.back (hv.same hx) 4 (by omega)
      rwa [show bs.length - 4 = 4092 from by omega] at h)
    have HC := (show Hid (∀ wx, Same w wx → Calls Try.prog 29 #[.slice (some ⟨b, off + 4, none⟩) 4092 (c - 4)] wx fun e w' => e = .returned (.int .i64 (crcOn 0 (bs.drop 4))) ∧ Same wx w') from fun wx hx =>
      specCrc_any _ _ wx (isB_drop hB 4) (by rw [List.length_drop, hl]; decide) (HRd.out wx hx))
    rw [hl] at hv hc
    have HNu := (show Hid (∀ wx, Same w wx → Calls Try.prog 32 #[.slice (some ⟨b, off, none⟩) 4096 c, .int .i64 0, .int .i64 4] wx fun e w' => e = .returned (.int .i64 (getN (bs.take 4))) ∧ Same wx w') from fun wx hx =>
      l3Number_any b off 4096 c bs 0 4 wx hB hl (by decide) (by decide) (by decide) (hv.same hx))
    have hc4 : (4 : Int) ≤ (c : Int) := by omega
    have hc5 : 4 < c := by omega
    have hc6 : ¬ c = 4 := by omega
    rw [hR, ← hwi, hl]
    clear hv hB hn hR hl hwi HRd
    generalize getN (bs.take 4) = G at *
    generalize crcOn 0 (bs.drop 4) = C at *
    go_enter Try.func15, Try.ntmps15
    go_wp2_with fail
    have hS : (fun _ : World => True) w.drew := by trivial
    refine wp_region_V (fun _ : World => True) 99 12 rfl (by kernel_rfl) ?_
    refine wpAnyV_take (i := 0) (v := ?vq1) (some 3) rfl rfl (by kernel_rfl) (by kernel_rfl) (by kernel_rfl) (by kernel_rfl) (fun _ _ _ h => h) (Or.inl ⟨by rfl, ?hyq1⟩) hS ?_
    case hyq1 => (intro w hSw; (try dsimp only at hSw); go_simp; (try with_reducible rfl))
    try simp only [Act.put, List.setIfInBounds_toArray, List.set_cons_zero, List.set_cons_succ]
    refine wpAnyV_take (i := 1) (v := ?vq2) (some 4) rfl rfl (by kernel_rfl) (by kernel_rfl) (by kernel_rfl) (by kernel_rfl) (fun _ _ _ h => h) (Or.inl ⟨by rfl, ?hyq2⟩) hS ?_
    case hyq2 => (intro w hSw; (try dsimp only at hSw); go_simp; (try with_reducible rfl))
    try simp only [Act.put, List.setIfInBounds_toArray, List.set_cons_zero, List.set_cons_succ]
    refine wpAnyV_take (i := 2) (v := ?vq3) (some 5) rfl rfl (by kernel_rfl) (by kernel_rfl) (by kernel_rfl) (by kernel_rfl) (fun _ _ _ h => h) (Or.inl ⟨by rfl, ?hyq3⟩) hS ?_
    case hyq3 => (intro w hSw; (try dsimp only at hSw); go_simp; (try with_reducible rfl))
    try simp only [Act.put, List.setIfInBounds_toArray, List.set_cons_zero, List.set_cons_succ]
    refine wpAnyV_take (i := 3) (v := ?vq4) (some 6) rfl rfl (by kernel_rfl) (by kernel_rfl) (by kernel_rfl) (by kernel_rfl) (fun _ _ _ h => h) (Or.inl ⟨by rfl, ?hyq4⟩) hS ?_
    case hyq4 => (intro w hSw; (try dsimp only at hSw); go_simp; (try with_reducible rfl))
    try simp only [Act.put, List.setIfInBounds_toArray, List.set_cons_zero, List.set_cons_succ]
    refine wpAnyV_take (i := 4) (v := ?vq5) (some 7) rfl rfl (by kernel_rfl) (by kernel_rfl) (by kernel_rfl) (by kernel_rfl) (fun _ _ _ h => h) (Or.inl ⟨by rfl, ?hyq5⟩) hS ?_
    case hyq5 => (intro w hSw; (try dsimp only at hSw); go_simp; (try with_reducible rfl))
    try simp only [Act.put, List.setIfInBounds_toArray, List.set_cons_zero, List.set_cons_succ]
    refine wpAnyV_take (i := 6) (v := ?vq6) (some 9) rfl rfl (by kernel_rfl) (by kernel_rfl) (by kernel_rfl) (by kernel_rfl) (fun _ _ _ h => h) (Or.inl ⟨by rfl, ?hyq6⟩) hS ?_
    case hyq6 => (intro w hSw; (try dsimp only at hSw); go_simp; (try with_reducible rfl))
    try simp only [Act.put, List.setIfInBounds_toArray, List.set_cons_zero, List.set_cons_succ]
    refine wpAnyV_take (i := 7) (v := ?vq7) (some 10) rfl rfl (by kernel_rfl) (by kernel_rfl) (by kernel_rfl) (by kernel_rfl) (fun _ _ _ h => h) (Or.inl ⟨by rfl, ?hyq7⟩) hS ?_
    case hyq7 => (intro w hSw; (try dsimp only at hSw); go_simp; (try with_reducible rfl))
    try simp only [Act.put, List.setIfInBounds_toArray, List.set_cons_zero, List.set_cons_succ]
    refine wpAnyV_one (i := 5) (by kernel_rfl) rfl (fun K hK => ?_)
    go_simp
    with_reducible refine (HNu.out _ (Kept.refl _ _).drew).mono ?_
    rintro e w2 ⟨rfl, hkk⟩
    have hkw2 : Same w w2 := (Kept.refl _ _).drew.trans hkk
    clear hkk
    refine hK.out _ _ (fun _ => trivial) ?_
    clear hK K
    try simp only [Act.put, List.setIfInBounds_toArray, List.set_cons_zero, List.set_cons_succ]
    refine wpAnyV_one (i := 8) (by kernel_rfl) rfl (fun K hK => ?_)
    go_simp
    with_reducible refine (HC.out _ hkw2).mono ?_
    rintro e w3 ⟨rfl, hkk⟩
    have hkw3 : Same w w3 := hkw2.trans hkk
    clear hkk
    refine hK.out _ _ (fun _ => trivial) ?_
    clear hK K
    try simp only [Act.put, List.setIfInBounds_toArray, List.set_cons_zero, List.set_cons_succ]
    refine wpAnyV_take (i := 9) (v := ?vq8) (some 12) rfl rfl (by kernel_rfl) (by kernel_rfl) (by kernel_rfl) (by kernel_rfl) (fun _ _ _ h => h) (Or.inl ⟨by rfl, ?hyq8⟩) hS ?_
    case hyq8 => (intro w hSw; (try dsimp only at hSw); go_simp; (try with_reducible rfl))
    try simp only [Act.put, List.setIfInBounds_toArray, List.set_cons_zero, List.set_cons_succ]
    refine wpAnyV_take (i := 10) (v := ?vq9) (some 13) rfl rfl (by kernel_rfl) (by kernel_rfl) (by kernel_rfl) (by kernel_rfl) (fun _ _ _ h => h) (Or.inl ⟨by rfl, ?hyq9⟩) hS ?_
    case hyq9 => (intro w hSw; (try dsimp only at hSw); go_simp; (try with_reducible rfl))
    try simp only [Act.put, List.setIfInBounds_toArray, List.set_cons_zero, List.set_cons_succ]
    refine wpAnyV_take (i := 11) (v := ?vq10) (some 2) rfl rfl (by kernel_rfl) (by kernel_rfl) (by kernel_rfl) (by kernel_rfl) (fun _ _ _ h => h) (Or.inl ⟨by rfl, ?hyq10⟩) hS ?_
    case hyq10 => (intro w hSw; (try dsimp only at hSw); go_simp; (try with_reducible rfl))
    try simp only [Act.put, List.setIfInBounds_toArray, List.set_cons_zero, List.set_cons_succ]
    refine wpAnyV_done (by kernel_rfl) ?_
    go_wp2
    go_ret
    exact ⟨rfl, hkw3⟩
  · have hR : pageWhole bs = false := by unfold pageWhole; simp [hl]
    rw [hR]
    have hl' : ¬ (bs.length : Int) = 4096 := by omega
    clear hv hB
    go_enter Try.func15, Try.ntmps15
    go_wp2
    go_quiet (fail)
    go_wp2
    go_ret
    exact ⟨rfl, (Kept.refl _ _).drewN _⟩
end Go.Proofs.Ytbcklddadfnkgab
