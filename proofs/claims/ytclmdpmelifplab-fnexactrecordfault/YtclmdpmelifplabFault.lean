/-
  fault, PageFault (the program's).
-/
import Derived.Test.YtclmdpmelifplabShare
import Derived.Test.YtclmdpmelifplabWhole
import Derived.Deep.DeepCutAuto
namespace Go.Proofs.Ytclmdpmelifplab
open Go.RowKit
set_option linter.unusedVariables false
set_option linter.unusedSimpArgs false

def headBad (sum : List Int) (lsn num bot : Int) (sl raw : List Int) : Bool := !isLSN lsn || encB sum lsn num bot sl raw != raw
def faultP (sum : List Int) (lsn num bot : Int) (sl raw : List Int) (number : Int) : Int :=
  if num ≠ number then 2 else if headBad sum lsn num bot sl raw then 3 else if bot < 148 ∨ 4096 < bot then 4 else if astray bot sl then 5 else if share sl then 6 else 0
theorem isLSN_spec {x : Int} (h : isLSN x = true) : 0 ≤ x ∧ x ≤ 9223372036854775807 := by
  simp [isLSN] at h
  omega

set_option maxRecDepth 100000 in
set_option maxHeartbeats 16000000 in
theorem fault_any (P : Nat) (sum : List Int) (lsn num bot : Int) (sl raw : List Int) (number : Int) (w : World) (hp : SP w P sum lsn num bot sl raw) (hs : Small sl) (hnum : 0 ≤ num ∧ num ≤ 9223372036854775807) (hbot : 0 ≤ bot ∧ bot ≤ 9223372036854775807) :
    Calls Try.prog 147 #[.pointer (some ⟨P, 0, none⟩), .int .i64 number] w fun e w' => e = .returned (.int .i64 (faultP sum lsn num bot sl raw number)) ∧ Same w w' := by
  have HP := (show Hid (SP w P sum lsn num bot sl raw) from hp)
  have HSm := (show Hid (Small sl) from hs)
  obtain ⟨c4, c5, c6⟩ := hp.num3
  by_cases h2 : num = number
  · have h2b : (num != number) = false := by simp [h2]
    have HF1 := (show Hid (faultP sum lsn num bot sl raw number = if headBad sum lsn num bot sl raw then 3 else if bot < 148 ∨ 4096 < bot then 4 else if astray bot sl then 5 else if share sl then 6 else 0) from (by unfold faultP; rw [if_neg (by simp [h2])] : faultP sum lsn num bot sl raw number = _))
    obtain ⟨F, hF⟩ : ∃ F, faultP sum lsn num bot sl raw number = F := ⟨_, rfl⟩
    rw [hF] at HF1
    rw [hF]
    obtain ⟨hb, hhb⟩ : ∃ hb, headBad sum lsn num bot sl raw = hb := ⟨_, rfl⟩
    have HHB := (show Hid (headBad sum lsn num bot sl raw = hb) from hhb)
    rw [hhb] at HF1
    clear h2 hp hs hF hhb
    go_enter Try.func147, Try.ntmps147
    go_upto_region 3 with fail
    go_cut [12] (fun c wc => c = .bool hb ∧ Hid (Same w wc))
    case first =>
      have hrl := HP.out.rawRange
      have hI80 : (Try.prog.info? 69).map (·.size) = some (vals .u8 raw).length := by rw [vals_length, HP.out.l3]; exact page_info
      obtain ⟨rl, hrle⟩ : ∃ rl : List Value, vals .u8 raw = rl := ⟨_, rfl⟩
      rw [hrle] at hrl hI80
      have hSx : ∀ wx, Same w wx → (fun wx : World => wx.cell? ⟨P, 4, none⟩ = some (.int .i64 lsn) ∧ wx.rangeAt P 71 rl) wx := fun wx h => ⟨h.cellOf c4 id, Kept.ranges h hrl⟩
      have hcl := isLSN_any lsn w.drew
      by_cases hL : isLSN lsn = true
      · rw [hL] at hcl
        have hHB : headBad sum lsn num bot sl raw = (encB sum lsn num bot sl raw != raw) := by simp [headBad, hL]
        have hn3 : Num3 lsn num bot sl := ⟨isLSN_spec hL, hnum, hbot, fun x hx => by have := HSm.out x hx; omega⟩
        have hen := fun wx (h : Same w wx) => encode_any P sum lsn num bot sl raw wx (HP.out.same h) hn3
        have hne := fun wx => run_neq_pages wx (encB sum lsn num bot sl raw) raw (encB_length HP.out.l1 HP.out.l2 HP.out.l3) HP.out.l3
        rw [hrle] at hne
        have hHB2 : (encB sum lsn num bot sl raw != raw) = hb := hHB.symm.trans HHB.out
        obtain ⟨el, hel⟩ : ∃ el : Array Value, (vals .u8 (encB sum lsn num bot sl raw)).toArray = el := ⟨_, rfl⟩
        rw [hel] at hen hne
        rw [hHB2] at hne
        clear hHB hHB2 hel hL hn3 hrle
        have hS : (fun wx : World => wx.cell? ⟨P, 4, none⟩ = some (.int .i64 lsn) ∧ wx.rangeAt P 71 rl) w.drew := by exact hSx _ (Kept.refl _ _).drew
        refine wp_region_V (fun wx : World => wx.cell? ⟨P, 4, none⟩ = some (.int .i64 lsn) ∧ wx.rangeAt P 71 rl) 99 16 rfl (by kernel_rfl) ?_
        refine wpAnyV_take (i := 0) (v := ?vq1) (some 13) rfl rfl (by kernel_rfl) (by kernel_rfl) (by kernel_rfl) (by kernel_rfl) (fun _ _ _ h => h) (Or.inl ⟨by rfl, ?hyq1⟩) hS ?_
        case hyq1 => (intro w hSw; (try dsimp only at hSw); go_simp; (try with_reducible rfl))
        try simp only [Act.put, List.setIfInBounds_toArray, List.set_cons_zero, List.set_cons_succ]
        refine wpAnyV_take (i := 1) (v := ?vq2) (some 14) rfl rfl (by kernel_rfl) (by kernel_rfl) (by kernel_rfl) (by kernel_rfl) (fun _ _ _ h => h) (Or.inl ⟨by rfl, ?hyq2⟩) hS ?_
        case hyq2 => (intro w hSw; (try dsimp only at hSw); go_simp; (try with_reducible rfl))
        try simp only [Act.put, List.setIfInBounds_toArray, List.set_cons_zero, List.set_cons_succ]
        refine wpAnyV_take (i := 2) (v := ?vq3) (some 15) rfl rfl (by kernel_rfl) (by kernel_rfl) (by kernel_rfl) (by kernel_rfl) (fun _ _ _ h => h) (Or.inl ⟨by rfl, ?hyq3⟩) hS ?_
        case hyq3 => (intro w hSw; (try dsimp only at hSw); go_simp; (try with_reducible rfl))
        try simp only [Act.put, List.setIfInBounds_toArray, List.set_cons_zero, List.set_cons_succ]
        refine wpAnyV_take (i := 3) (v := ?vq4) (some 16) rfl rfl (by kernel_rfl) (by kernel_rfl) (by kernel_rfl) (by kernel_rfl) (fun _ _ _ h => h) (Or.inl ⟨by rfl, ?hyq4⟩) hS ?_
        case hyq4 => (intro w hSw; (try dsimp only at hSw); go_simp; (try with_reducible rfl))
        try simp only [Act.put, List.setIfInBounds_toArray, List.set_cons_zero, List.set_cons_succ]
        refine wpAnyV_one (i := 4) (by kernel_rfl) rfl (fun K hK => ?_)
        go_simp
        with_reducible refine (hcl).mono ?_
        rintro e w2 ⟨rfl, hkk⟩
        have hkw2 : Same w w2 := Kept.trans ((Kept.refl _ _).drew) hkk
        clear hkk
        have hS : (fun wx : World => wx.cell? ⟨P, 4, none⟩ = some (.int .i64 lsn) ∧ wx.rangeAt P 71 rl) w2 := hSx _ hkw2
        refine hK.out _ _ (fun _ => hS) ?_
        clear hK K
        try simp only [Act.put, List.setIfInBounds_toArray, List.set_cons_zero, List.set_cons_succ]
        refine wpAnyV_take (i := 5) (v := ?vq5) (some 18) rfl rfl (by kernel_rfl) (by kernel_rfl) (by kernel_rfl) (by kernel_rfl) (fun _ _ _ h => h) (Or.inl ⟨by rfl, ?hyq5⟩) hS ?_
        case hyq5 => (intro w hSw; (try dsimp only at hSw); go_simp; (try with_reducible rfl))
        try simp only [Act.put, List.setIfInBounds_toArray, List.set_cons_zero, List.set_cons_succ]
        refine wpAnyV_take (i := 6) (v := ?vq6) (some 19) rfl rfl (by kernel_rfl) (by kernel_rfl) (by kernel_rfl) (by kernel_rfl) (fun _ _ _ h => h) (Or.inl ⟨by rfl, ?hyq6⟩) hS ?_
        case hyq6 => (intro w hSw; (try dsimp only at hSw); go_simp; (try with_reducible rfl))
        try simp only [Act.put, List.setIfInBounds_toArray, List.set_cons_zero, List.set_cons_succ]
        refine wpAnyV_take (i := 7) (v := ?vq7) (some 20) rfl rfl (by kernel_rfl) (by kernel_rfl) (by kernel_rfl) (by kernel_rfl) (fun _ _ _ h => h) (Or.inl ⟨by rfl, ?hyq7⟩) hS ?_
        case hyq7 => (intro w hSw; (try dsimp only at hSw); go_simp; (try with_reducible rfl))
        try simp only [Act.put, List.setIfInBounds_toArray, List.set_cons_zero, List.set_cons_succ]
        refine wpAnyV_take (i := 9) (v := ?vq8) (some 22) rfl rfl (by kernel_rfl) (by kernel_rfl) (by kernel_rfl) (by kernel_rfl) (fun _ _ _ h => h) (Or.inl ⟨by rfl, ?hyq8⟩) hS ?_
        case hyq8 => (intro w hSw; (try dsimp only at hSw); go_simp; (try with_reducible rfl))
        try simp only [Act.put, List.setIfInBounds_toArray, List.set_cons_zero, List.set_cons_succ]
        refine wpAnyV_take (i := 10) (v := ?vq9) (some 23) rfl rfl (by kernel_rfl) (by kernel_rfl) (by kernel_rfl) (by kernel_rfl) (fun _ _ _ h => h) (Or.inl ⟨by rfl, ?hyq9⟩) hS ?_
        case hyq9 => (intro w hSw; (try dsimp only at hSw); go_simp; (try with_reducible rfl))
        try simp only [Act.put, List.setIfInBounds_toArray, List.set_cons_zero, List.set_cons_succ]
        refine wpAnyV_take (i := 11) (v := ?vq10) (some 24) rfl rfl (by kernel_rfl) (by kernel_rfl) (by kernel_rfl) (by kernel_rfl) (fun _ _ _ h => h) (Or.inl ⟨by rfl, ?hyq10⟩) hS ?_
        case hyq10 => (intro w hSw; (try dsimp only at hSw); go_simp; (try with_reducible rfl))
        try simp only [Act.put, List.setIfInBounds_toArray, List.set_cons_zero, List.set_cons_succ]
        refine wpAnyV_take (i := 12) (v := .agg rl.toArray) (some 25) rfl rfl (by kernel_rfl) (by kernel_rfl) (by kernel_rfl) (by kernel_rfl) (fun _ _ _ h => h) (yieldsIf_load_mid (by rfl) 69 _ rfl P 71 rfl rl _ (fun _ h => h.2) Try.underlying69 rfl hI80) hS ?_
        try simp only [Act.put, List.setIfInBounds_toArray, List.set_cons_zero, List.set_cons_succ]
        refine wpAnyV_one (i := 8) (by kernel_rfl) rfl (fun K hK => ?_)
        go_simp
        with_reducible refine (hen _ hkw2).mono ?_
        rintro e w3 ⟨rfl, hkk⟩
        have hkw3 : Same w w3 := Kept.trans (hkw2) hkk
        clear hkk
        have hS : (fun wx : World => wx.cell? ⟨P, 4, none⟩ = some (.int .i64 lsn) ∧ wx.rangeAt P 71 rl) w3 := hSx _ hkw3
        refine hK.out _ _ (fun _ => hS) ?_
        clear hK K
        try simp only [Act.put, List.setIfInBounds_toArray, List.set_cons_zero, List.set_cons_succ]
        refine wpAnyV_take (i := 13) (v := ?vq11) (some 26) rfl rfl (by kernel_rfl) (by kernel_rfl) (by kernel_rfl) (by kernel_rfl) (fun _ _ _ h => h) (Or.inl ⟨by rfl, ?hyq11⟩) hS ?_
        case hyq11 => (intro w hSw; (try dsimp only at hSw); go_simp; (try with_reducible rfl))
        try simp only [Act.put, List.setIfInBounds_toArray, List.set_cons_zero, List.set_cons_succ]
        refine wpAnyV_take (i := 14) (v := ?vq12) (some 27) rfl rfl (by kernel_rfl) (by kernel_rfl) (by kernel_rfl) (by kernel_rfl) (fun _ _ _ h => h) (Or.inl ⟨by rfl, ?hyq12⟩) hS ?_
        case hyq12 => (intro w hSw; (try dsimp only at hSw); go_simp; (try with_reducible rfl))
        try simp only [Act.put, List.setIfInBounds_toArray, List.set_cons_zero, List.set_cons_succ]
        refine wpAnyV_take (i := 15) (v := ?vq13) (some 12) rfl rfl (by kernel_rfl) (by kernel_rfl) (by kernel_rfl) (by kernel_rfl) (fun _ _ _ h => h) (Or.inl ⟨by rfl, ?hyq13⟩) hS ?_
        case hyq13 => (intro w hSw; (try dsimp only at hSw); go_simp; (try with_reducible rfl))
        try simp only [Act.put, List.setIfInBounds_toArray, List.set_cons_zero, List.set_cons_succ]
        refine wpAnyV_done (by kernel_rfl) ?_
        go_wp2
        go_meet
        exact ⟨rfl, hkw3⟩
      · have hLf : isLSN lsn = false := by simpa using hL
        rw [hLf] at hcl
        have hHB : headBad sum lsn num bot sl raw = true := by simp [headBad, hLf]
        obtain rfl : hb = true := HHB.out.symm.trans hHB
        clear hHB hrle hL
        have hS : (fun wx : World => wx.cell? ⟨P, 4, none⟩ = some (.int .i64 lsn) ∧ wx.rangeAt P 71 rl) w.drew := by exact hSx _ (Kept.refl _ _).drew
        refine wp_region_V (fun wx : World => wx.cell? ⟨P, 4, none⟩ = some (.int .i64 lsn) ∧ wx.rangeAt P 71 rl) 99 16 rfl (by kernel_rfl) ?_
        refine wpAnyV_take (i := 0) (v := ?vq14) (some 13) rfl rfl (by kernel_rfl) (by kernel_rfl) (by kernel_rfl) (by kernel_rfl) (fun _ _ _ h => h) (Or.inl ⟨by rfl, ?hyq14⟩) hS ?_
        case hyq14 => (intro w hSw; (try dsimp only at hSw); go_simp; (try with_reducible rfl))
        try simp only [Act.put, List.setIfInBounds_toArray, List.set_cons_zero, List.set_cons_succ]
        refine wpAnyV_take (i := 1) (v := ?vq15) (some 14) rfl rfl (by kernel_rfl) (by kernel_rfl) (by kernel_rfl) (by kernel_rfl) (fun _ _ _ h => h) (Or.inl ⟨by rfl, ?hyq15⟩) hS ?_
        case hyq15 => (intro w hSw; (try dsimp only at hSw); go_simp; (try with_reducible rfl))
        try simp only [Act.put, List.setIfInBounds_toArray, List.set_cons_zero, List.set_cons_succ]
        refine wpAnyV_take (i := 2) (v := ?vq16) (some 15) rfl rfl (by kernel_rfl) (by kernel_rfl) (by kernel_rfl) (by kernel_rfl) (fun _ _ _ h => h) (Or.inl ⟨by rfl, ?hyq16⟩) hS ?_
        case hyq16 => (intro w hSw; (try dsimp only at hSw); go_simp; (try with_reducible rfl))
        try simp only [Act.put, List.setIfInBounds_toArray, List.set_cons_zero, List.set_cons_succ]
        refine wpAnyV_take (i := 3) (v := ?vq17) (some 16) rfl rfl (by kernel_rfl) (by kernel_rfl) (by kernel_rfl) (by kernel_rfl) (fun _ _ _ h => h) (Or.inl ⟨by rfl, ?hyq17⟩) hS ?_
        case hyq17 => (intro w hSw; (try dsimp only at hSw); go_simp; (try with_reducible rfl))
        try simp only [Act.put, List.setIfInBounds_toArray, List.set_cons_zero, List.set_cons_succ]
        refine wpAnyV_one (i := 4) (by kernel_rfl) rfl (fun K hK => ?_)
        go_simp
        with_reducible refine (hcl).mono ?_
        rintro e w2 ⟨rfl, hkk⟩
        have hkw2 : Same w w2 := Kept.trans ((Kept.refl _ _).drew) hkk
        clear hkk
        have hS : (fun wx : World => wx.cell? ⟨P, 4, none⟩ = some (.int .i64 lsn) ∧ wx.rangeAt P 71 rl) w2 := hSx _ hkw2
        refine hK.out _ _ (fun _ => hS) ?_
        clear hK K
        try simp only [Act.put, List.setIfInBounds_toArray, List.set_cons_zero, List.set_cons_succ]
        refine wpAnyV_take (i := 5) (v := ?vq18) (some 18) rfl rfl (by kernel_rfl) (by kernel_rfl) (by kernel_rfl) (by kernel_rfl) (fun _ _ _ h => h) (Or.inl ⟨by rfl, ?hyq18⟩) hS ?_
        case hyq18 => (intro w hSw; (try dsimp only at hSw); go_simp; (try with_reducible rfl))
        try simp only [Act.put, List.setIfInBounds_toArray, List.set_cons_zero, List.set_cons_succ]
        refine wpAnyV_take (i := 6) (v := ?vq19) (some 19) rfl rfl (by kernel_rfl) (by kernel_rfl) (by kernel_rfl) (by kernel_rfl) (fun _ _ _ h => h) (Or.inl ⟨by rfl, ?hyq19⟩) hS ?_
        case hyq19 => (intro w hSw; (try dsimp only at hSw); go_simp; (try with_reducible rfl))
        try simp only [Act.put, List.setIfInBounds_toArray, List.set_cons_zero, List.set_cons_succ]
        refine wpAnyV_take (i := 7) (v := undef) (some 20) rfl rfl (by kernel_rfl) (by kernel_rfl) (by kernel_rfl) (by kernel_rfl) (fun _ _ _ h => h) (Or.inr ⟨by rfl, rfl⟩) hS ?_
        try simp only [Act.put, List.setIfInBounds_toArray, List.set_cons_zero, List.set_cons_succ]
        refine wpAnyV_take (i := 8) (v := undef) (some 21) rfl rfl (by kernel_rfl) (by kernel_rfl) (by kernel_rfl) (by kernel_rfl) (fun _ _ _ h => h) (Or.inr ⟨by rfl, rfl⟩) hS ?_
        try simp only [Act.put, List.setIfInBounds_toArray, List.set_cons_zero, List.set_cons_succ]
        refine wpAnyV_take (i := 9) (v := undef) (some 22) rfl rfl (by kernel_rfl) (by kernel_rfl) (by kernel_rfl) (by kernel_rfl) (fun _ _ _ h => h) (Or.inr ⟨by rfl, rfl⟩) hS ?_
        try simp only [Act.put, List.setIfInBounds_toArray, List.set_cons_zero, List.set_cons_succ]
        refine wpAnyV_take (i := 10) (v := undef) (some 23) rfl rfl (by kernel_rfl) (by kernel_rfl) (by kernel_rfl) (by kernel_rfl) (fun _ _ _ h => h) (Or.inr ⟨by rfl, rfl⟩) hS ?_
        try simp only [Act.put, List.setIfInBounds_toArray, List.set_cons_zero, List.set_cons_succ]
        refine wpAnyV_take (i := 11) (v := undef) (some 24) rfl rfl (by kernel_rfl) (by kernel_rfl) (by kernel_rfl) (by kernel_rfl) (fun _ _ _ h => h) (Or.inr ⟨by rfl, rfl⟩) hS ?_
        try simp only [Act.put, List.setIfInBounds_toArray, List.set_cons_zero, List.set_cons_succ]
        refine wpAnyV_take (i := 12) (v := undef) (some 25) rfl rfl (by kernel_rfl) (by kernel_rfl) (by kernel_rfl) (by kernel_rfl) (fun _ _ _ h => h) (Or.inr ⟨by rfl, rfl⟩) hS ?_
        try simp only [Act.put, List.setIfInBounds_toArray, List.set_cons_zero, List.set_cons_succ]
        refine wpAnyV_take (i := 13) (v := undef) (some 26) rfl rfl (by kernel_rfl) (by kernel_rfl) (by kernel_rfl) (by kernel_rfl) (fun _ _ _ h => h) (Or.inr ⟨by rfl, rfl⟩) hS ?_
        try simp only [Act.put, List.setIfInBounds_toArray, List.set_cons_zero, List.set_cons_succ]
        refine wpAnyV_take (i := 14) (v := ?vq20) (some 27) rfl rfl (by kernel_rfl) (by kernel_rfl) (by kernel_rfl) (by kernel_rfl) (fun _ _ _ h => h) (Or.inl ⟨by rfl, ?hyq20⟩) hS ?_
        case hyq20 => (intro w hSw; (try dsimp only at hSw); go_simp; (try with_reducible rfl))
        try simp only [Act.put, List.setIfInBounds_toArray, List.set_cons_zero, List.set_cons_succ]
        refine wpAnyV_take (i := 15) (v := ?vq21) (some 12) rfl rfl (by kernel_rfl) (by kernel_rfl) (by kernel_rfl) (by kernel_rfl) (fun _ _ _ h => h) (Or.inl ⟨by rfl, ?hyq21⟩) hS ?_
        case hyq21 => (intro w hSw; (try dsimp only at hSw); go_simp; (try with_reducible rfl))
        try simp only [Act.put, List.setIfInBounds_toArray, List.set_cons_zero, List.set_cons_succ]
        refine wpAnyV_done (by kernel_rfl) ?_
        go_wp2
        go_meet
        exact ⟨rfl, hkw2⟩
    case rest =>
      obtain ⟨rfl, HKc⟩ := hcut
      have k6 := HKc.out.cellOf c6 id
      clear c4 c5 c6
      cases hb with
      | true =>
        obtain rfl : F = 3 := by have h := HF1.out; rw [if_pos rfl] at h; exact h
        go_wp2
        go_ret
        exact ⟨rfl, HKc.out⟩
      | false =>
        have h5 := HF1.out
        rw [if_neg (by decide)] at h5
        clear HF1
        by_cases h4 : bot < 148
        · obtain rfl : F = 4 := by rw [if_pos (.inl h4)] at h5; exact h5
          clear h5
          go_wp2
          go_ret
          exact ⟨rfl, HKc.out⟩
        · by_cases h4' : 4096 < bot
          · obtain rfl : F = 4 := by rw [if_pos (.inr h4')] at h5; exact h5
            clear h5
            go_wp2
            go_ret
            exact ⟨rfl, HKc.out⟩
          · rw [if_neg (by omega)] at h5
            have ha := slotsAstray_any P sum lsn num bot sl raw wc (HP.out.same HKc.out) HSm.out
            have hsh := fun wx (h : Same w wx) => recordsShare_any P sum lsn num bot sl raw wx (HP.out.same h) HSm.out
            generalize astray bot sl = A at *
            generalize share sl = H at *
            cases A with
            | true =>
              obtain rfl : F = 5 := by rw [if_pos rfl] at h5; exact h5
              clear h5
              go_wp2_with (go_at_call 149; refine ha.mono ?_; rintro e w4 ⟨rfl, hk4⟩)
              go_ret
              exact ⟨rfl, HKc.out.trans hk4⟩
            | false =>
              rw [if_neg (by decide)] at h5
              cases H with
              | true =>
                obtain rfl : F = 6 := by rw [if_pos rfl] at h5; exact h5
                clear h5
                go_wp2_with (first | (go_at_call 149; refine ha.mono ?_; rintro e w4 ⟨rfl, hk4⟩; have hk4' := HKc.out.trans hk4) | (go_at_call 150; refine (hsh _ hk4').mono ?_; rintro e w5 ⟨rfl, hk5⟩))
                go_ret
                exact ⟨rfl, hk4'.trans hk5⟩
              | false =>
                obtain rfl : F = 0 := by rw [if_neg (by decide)] at h5; exact h5
                clear h5
                go_wp2_with (first | (go_at_call 149; refine ha.mono ?_; rintro e w4 ⟨rfl, hk4⟩; have hk4' := HKc.out.trans hk4) | (go_at_call 150; refine (hsh _ hk4').mono ?_; rintro e w5 ⟨rfl, hk5⟩))
                go_ret
                exact ⟨rfl, hk4'.trans hk5⟩
  · have h2b : (num != number) = true := by simp [h2]
    have e : faultP sum lsn num bot sl raw number = 2 := by unfold faultP; rw [if_pos h2]
    rw [e]
    clear h2 hp hs e
    go_enter Try.func147, Try.ntmps147
    go_wp2
    go_ret
    exact ⟨rfl, Kept.refl _ _⟩
end Go.Proofs.Ytclmdpmelifplab
