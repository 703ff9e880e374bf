import Derived.Test.YtlmcaodiiadlkaaG09
import Derived.Test.YtlmcaodiiadlkaaG04
import Derived.Test.YtlmcaodiiadlkaaG05
import Derived.Test.YtlmcaodiiadlkaaInts
import Derived.Test.YtlmcaodiiadlkaaG01
import Derived.Deep.DeepCutAuto
namespace Go.Proofs.Ytlmcaodiiadlkaa
set_option maxRecDepth 100000
set_option maxHeartbeats 16000000
set_option linter.unusedVariables false
set_option linter.unusedSimpArgs false
open Go.RowKit
def headBad (sum : List Int) (lsn num bot : Int) (sl raw : List Int) : Bool := !isLSN lsn || encB sum lsn num bot sl raw != raw
def faultP (sum : List Int) (lsn num bot : Int) (sl raw : List Int) (number : Int) : Int :=
 if num ≠ number then 2 else if headBad sum lsn num bot sl raw then 3 else if bot < 148 ∨ 4096 < bot then 4 else if astray bot sl then 5 else if share sl then 6 else 0
theorem isLSN_spec {x : Int} (h : isLSN x = true) : 0 ≤ x ∧ x ≤ 9223372036854775807 := by
 simp [isLSN] at h
 omega
theorem fault_any (P : Nat) (sum : List Int) (lsn num bot : Int) (sl raw : List Int) (number : Int) (w : World) (hp : SP w P sum lsn num bot sl raw) (hs : Small sl) (hnum : 0 ≤ num ∧ num ≤ 9223372036854775807) (hbot : 0 ≤ bot ∧ bot ≤ 9223372036854775807) :
  Calls Try.prog 67 #[.pointer (some ⟨P, 0, none⟩), .int .i64 number] w fun e w' => e = .returned (.int .i64 (faultP sum lsn num bot sl raw number)) ∧ Same w w' := by
 have HP := (show Hid (SP w P sum lsn num bot sl raw) from hp)
 have HSm := (show Hid (Small sl) from hs)
 obtain ⟨c4, c5, c6⟩ := hp.num3
 by_cases h2 : num = number
 ·have h2b : (num != number) = false := by simp [h2]
  have HF1 := (show Hid (faultP sum lsn num bot sl raw number = if headBad sum lsn num bot sl raw then 3 else if bot < 148 ∨ 4096 < bot then 4 else if astray bot sl then 5 else if share sl then 6 else 0) from (by unfold faultP; rw [if_neg (by simp [h2])] : faultP sum lsn num bot sl raw number = _))
  obtain ⟨F, hF⟩ : ∃ F, faultP sum lsn num bot sl raw number = F := ⟨_, rfl⟩
  rw [hF] at HF1
  rw [hF]
  obtain ⟨hb, hhb⟩ : ∃ hb, headBad sum lsn num bot sl raw = hb := ⟨_, rfl⟩
  have HHB := (show Hid (headBad sum lsn num bot sl raw = hb) from hhb)
  rw [hhb] at HF1
  clear h2 hp hs hF hhb
  go_enter Try.func67, Try.ntmps67
  go_upto_region 3 with fail
  go_cut [12] (fun c wc => c = .bool hb ∧ Hid (Same w wc))
  case first =>
   have hrl := HP.out.rawRange
   have hI80 : (Try.prog.info? 60).map (·.size) = some (vals .u8 raw).length := by rw [vals_length, HP.out.l3]; exact page_info
   obtain ⟨rl, hrle⟩ : ∃ rl : List Value, vals .u8 raw = rl := ⟨_, rfl⟩
   rw [hrle] at hrl hI80
   have hSx : ∀ wx, Same w wx → (fun wx : World => wx.cell? ⟨P, 4, none⟩ = some (.int .i64 lsn) ∧ wx.rangeAt P 71 rl) wx := fun wx h => ⟨h.cellOf c4 id, Kept.ranges h hrl⟩
   have hcl := isLSN_any lsn w.drew
   by_cases hL : isLSN lsn = true
   ·rw [hL] at hcl
    have hHB : headBad sum lsn num bot sl raw = (encB sum lsn num bot sl raw != raw) := by simp [headBad, hL]
    have hn3 : Num3 lsn num bot sl := ⟨isLSN_spec hL, hnum, hbot, fun x hx => by have := HSm.out x hx; omega⟩
    have hen := fun wx (h : Same w wx) => encode_any P sum lsn num bot sl raw wx (HP.out.same h) hn3
    have hne := fun wx => run_neq_pages wx (encB sum lsn num bot sl raw) raw (encB_length HP.out.l1 HP.out.l2 HP.out.l3) HP.out.l3
    rw [hrle] at hne
    have hHB2 : (encB sum lsn num bot sl raw != raw) = hb := hHB.symm.trans HHB.out
    obtain ⟨el, hel⟩ : ∃ el : Array Value, (vals .u8 (encB sum lsn num bot sl raw)).toArray = el := ⟨_, rfl⟩
    rw [hel] at hen hne
    rw [hHB2] at hne
    clear hHB hHB2 hel hL hn3 hrle
    have hS : (fun wx : World => wx.cell? ⟨P, 4, none⟩ = some (.int .i64 lsn) ∧ wx.rangeAt P 71 rl) w.drew := by exact hSx _ (Kept.refl _ _).drew
    refine wp_region_V (fun wx : World => wx.cell? ⟨P, 4, none⟩ = some (.int .i64 lsn) ∧ wx.rangeAt P 71 rl) 99 16 rfl (by kernel_rfl) ?_
    refine tk 0 13 hS ?_
    refine tk 1 14 hS ?_
    refine tk 2 15 hS ?_
    refine tk 3 16 hS ?_
    refine wpAnyV_one (i := 4) (by kernel_rfl) rfl (fun K hK => ?_)
    go_simp
    with_reducible refine (hcl).mono ?_
    rintro e w2 ⟨rfl, hkk⟩
    have hkw2 : Same w w2 := Kept.trans ((Kept.refl _ _).drew) hkk
    clear hkk
    have hS : (fun wx : World => wx.cell? ⟨P, 4, none⟩ = some (.int .i64 lsn) ∧ wx.rangeAt P 71 rl) w2 := hSx _ hkw2
    refine hK.out _ _ (fun _ => hS) ?_
    clear hK K
    try simp only [Act.put, sA, s0, sS]
    refine tk 5 18 hS ?_
    refine tk 6 19 hS ?_
    refine tk 7 20 hS ?_
    refine tk 9 22 hS ?_
    refine tk 10 23 hS ?_
    refine tk 11 24 hS ?_
    refine wpAnyV_take (i := 12) (v := .agg rl.toArray) (some 25) rfl rfl (by kernel_rfl) (by kernel_rfl) (by kernel_rfl) (by kernel_rfl) (fun _ _ _ h => h) (yieldsIf_load_mid (by rfl) 60 _ rfl P 71 rfl rl _ (fun _ h => h.2) Try.underlying60 rfl hI80) hS ?_
    try simp only [Act.put, sA, s0, sS]
    refine wpAnyV_one (i := 8) (by kernel_rfl) rfl (fun K hK => ?_)
    go_simp
    with_reducible refine (hen _ hkw2).mono ?_
    rintro e w3 ⟨rfl, hkk⟩
    have hkw3 : Same w w3 := Kept.trans (hkw2) hkk
    clear hkk
    have hS : (fun wx : World => wx.cell? ⟨P, 4, none⟩ = some (.int .i64 lsn) ∧ wx.rangeAt P 71 rl) w3 := hSx _ hkw3
    refine hK.out _ _ (fun _ => hS) ?_
    clear hK K
    try simp only [Act.put, sA, s0, sS]
    refine tk 13 26 hS ?_
    refine tk 14 27 hS ?_
    refine tk 15 12 hS ?_
    refine wpAnyV_done (by kernel_rfl) ?_
    go_wp2
    go_meet
    exact ⟨rfl, hkw3⟩
   ·have hLf : isLSN lsn = false := by simpa using hL
    rw [hLf] at hcl
    have hHB : headBad sum lsn num bot sl raw = true := by simp [headBad, hLf]
    obtain rfl : hb = true := HHB.out.symm.trans hHB
    clear hHB hrle hL
    have hS : (fun wx : World => wx.cell? ⟨P, 4, none⟩ = some (.int .i64 lsn) ∧ wx.rangeAt P 71 rl) w.drew := by exact hSx _ (Kept.refl _ _).drew
    refine wp_region_V (fun wx : World => wx.cell? ⟨P, 4, none⟩ = some (.int .i64 lsn) ∧ wx.rangeAt P 71 rl) 99 16 rfl (by kernel_rfl) ?_
    refine tk 0 13 hS ?_
    refine tk 1 14 hS ?_
    refine tk 2 15 hS ?_
    refine tk 3 16 hS ?_
    refine wpAnyV_one (i := 4) (by kernel_rfl) rfl (fun K hK => ?_)
    go_simp
    with_reducible refine (hcl).mono ?_
    rintro e w2 ⟨rfl, hkk⟩
    have hkw2 : Same w w2 := Kept.trans ((Kept.refl _ _).drew) hkk
    clear hkk
    have hS : (fun wx : World => wx.cell? ⟨P, 4, none⟩ = some (.int .i64 lsn) ∧ wx.rangeAt P 71 rl) w2 := hSx _ hkw2
    refine hK.out _ _ (fun _ => hS) ?_
    clear hK K
    try simp only [Act.put, sA, s0, sS]
    refine tk 5 18 hS ?_
    refine tk 6 19 hS ?_
    refine tkS 7 20 hS ?_
    refine tkS 8 21 hS ?_
    refine tkS 9 22 hS ?_
    refine tkS 10 23 hS ?_
    refine tkS 11 24 hS ?_
    refine tkS 12 25 hS ?_
    refine tkS 13 26 hS ?_
    refine tk 14 27 hS ?_
    refine tk 15 12 hS ?_
    refine wpAnyV_done (by kernel_rfl) ?_
    go_wp2
    go_meet
    exact ⟨rfl, hkw2⟩
  case rest =>
   obtain ⟨rfl, HKc⟩ := hcut
   have k6 := HKc.out.cellOf c6 id
   clear c4 c5 c6
   cases hb with
   | true =>
    obtain rfl : F = 3 := by have h := HF1.out; rw [if_pos rfl] at h; exact h
    go_wp2
    go_ret
    exact ⟨rfl, HKc.out⟩
   | false =>
    have h5 := HF1.out
    rw [if_neg (by decide)] at h5
    clear HF1
    by_cases h4 : bot < 148
    ·obtain rfl : F = 4 := by rw [if_pos (.inl h4)] at h5; exact h5
     clear h5
     go_wp2
     go_ret
     exact ⟨rfl, HKc.out⟩
    ·by_cases h4' : 4096 < bot
     ·obtain rfl : F = 4 := by rw [if_pos (.inr h4')] at h5; exact h5
      clear h5
      go_wp2
      go_ret
      exact ⟨rfl, HKc.out⟩
     ·rw [if_neg (by omega)] at h5
      have ha := slotsAstray_any P sum lsn num bot sl raw wc (HP.out.same HKc.out) HSm.out
      have hsh := fun wx (h : Same w wx) => recordsShare_any P sum lsn num bot sl raw wx (HP.out.same h) HSm.out
      generalize astray bot sl = A at *
      generalize share sl = H at *
      cases A with
      | true =>
       obtain rfl : F = 5 := by rw [if_pos rfl] at h5; exact h5
       clear h5
       go_wp2_with (go_at_call 80; refine ha.mono ?_; rintro e w4 ⟨rfl, hk4⟩)
       go_ret
       exact ⟨rfl, HKc.out.trans hk4⟩
      | false =>
       rw [if_neg (by decide)] at h5
       cases H with
       | true =>
        obtain rfl : F = 6 := by rw [if_pos rfl] at h5; exact h5
        clear h5
        go_wp2_with (first | (go_at_call 80; refine ha.mono ?_; rintro e w4 ⟨rfl, hk4⟩; have hk4' := HKc.out.trans hk4) | (go_at_call 81; refine (hsh _ hk4').mono ?_; rintro e w5 ⟨rfl, hk5⟩))
        go_ret
        exact ⟨rfl, hk4'.trans hk5⟩
       | false =>
        obtain rfl : F = 0 := by rw [if_neg (by decide)] at h5; exact h5
        clear h5
        go_wp2_with (first | (go_at_call 80; refine ha.mono ?_; rintro e w4 ⟨rfl, hk4⟩; have hk4' := HKc.out.trans hk4) | (go_at_call 81; refine (hsh _ hk4').mono ?_; rintro e w5 ⟨rfl, hk5⟩))
        go_ret
        exact ⟨rfl, hk4'.trans hk5⟩
 ·have h2b : (num != number) = true := by simp [h2]
  have e : faultP sum lsn num bot sl raw number = 2 := by unfold faultP; rw [if_pos h2]
  rw [e]
  clear h2 hp hs e
  go_enter Try.func67, Try.ntmps67
  go_wp2
  go_ret
  exact ⟨rfl, Kept.refl _ _⟩
theorem numAt_small (raw : List Int) (hB : IsB raw) (o n : Nat) (hn : n ≤ 7) : numAt raw o n = -1 ∨ (0 ≤ numAt raw o n ∧ numAt raw o n < 256 ^ n) := by
 unfold numAt getN
 have hb : IsB ((raw.drop o).take n) := isB_take (isB_drop hB o) n
 have h := num_bound _ hb ((raw.drop o).take n).length (Nat.le_refl _)
 rw [List.take_length] at h
 split
 ·exact .inl rfl
 ·refine .inr ⟨h.1, Int.lt_of_lt_of_le h.2 ?_⟩
  have hl : ((raw.drop o).take n).length ≤ n := by simp; omega
  have h2 : (256 : Nat) ^ ((raw.drop o).take n).length ≤ 256 ^ n := Nat.pow_le_pow_right (by decide) hl
  have e1 : ((256 ^ ((raw.drop o).take n).length : Nat) : Int) = (256 : Int) ^ ((raw.drop o).take n).length := by simp
  have e2 : ((256 ^ n : Nat) : Int) = (256 : Int) ^ n := by simp
  rw [← e1, ← e2]
  exact_mod_cast h2
theorem numAt_in (raw : List Int) (hB : IsB raw) (o n : Nat) (hn1 : 1 ≤ n) (hn : n ≤ 7) (hl : o + n ≤ raw.length) : 0 ≤ numAt raw o n ∧ numAt raw o n < 256 ^ n := by
 rcases numAt_small raw hB o n hn with h | h
 ·exfalso
  unfold numAt getN at h
  have hb : IsB ((raw.drop o).take n) := isB_take (isB_drop hB o) n
  have hln : ((raw.drop o).take n).length = n := by simp; omega
  have h0 := num_bound _ hb ((raw.drop o).take n).length (Nat.le_refl _)
  rw [List.take_length] at h0
  have hf := getN_few _ hb (by omega)
  rw [if_neg (by omega)] at h
  omega
 ·exact h
theorem slotsOf_small (raw : List Int) (hB : IsB raw) (hl : raw.length = 4096) : Small (slotsOf raw) := by
 intro x hx
 simp only [slotsOf, List.mem_map, List.mem_range] at hx
 obtain ⟨j, hj, rfl⟩ := hx
 have := numAt_in raw hB (20 + 2 * j) 2 (by decide) (by decide) (by omega)
 omega
def pageFault (raw : List Int) (number : Int) : Int := if raw.length ≠ 4096 then 1 else faultP (raw.take 4) (numAt raw 4 8) (numAt raw 12 4) (numAt raw 16 2) (slotsOf raw) raw number
def pgI (l : Int) (dur : List Int) (ds : List (Int × List Int)) (i : Nat) : List Int := pgB (2 + l + (i : Int) * 8) dur ds
def goodPg (raw : List Int) (i : Nat) : Bool := pageWhole raw && (pageFault raw (i : Int) == 0)
def sOff (raw : List Int) (s : Nat) : Int := (slotsOf raw).getD (2 * s) 0
def sLen (raw : List Int) (s : Nat) : Int := (slotsOf raw).getD (2 * s + 1) 0
def slotRec (raw : List Int) (i s : Nat) : List (Int × List Int) :=
 if sOff raw s = 0 then [] else [(((i * 32 + s : Nat) : Int), (raw.drop (sOff raw s).toNat).take (sLen raw s).toNat)]
def pageRecs (raw : List Int) (i k : Nat) : List (Int × List Int) := ((List.range k).map (slotRec raw i)).flatten
theorem pageRecs_succ (raw : List Int) (i k : Nat) : pageRecs raw i (k + 1) = pageRecs raw i k ++ slotRec raw i k := by
 unfold pageRecs
 rw [List.range_succ, List.map_append, List.flatten_append]
 simp
def heapRecs (R : Nat → List Int) (k : Nat) : List (Int × List Int) := ((List.range k).map fun i => pageRecs (R i) i 32).flatten
theorem heapRecs_succ (R : Nat → List Int) (k : Nat) : heapRecs R (k + 1) = heapRecs R k ++ pageRecs (R k) k 32 := by
 unfold heapRecs
 rw [List.range_succ, List.map_append, List.flatten_append]
 simp
def allGood (R : Nat → List Int) (k : Nat) : Prop := ∀ i, i < k → goodPg (R i) i = true
def heapOK (p f l : Int) (dur : List Int) (ds : List (Int × List Int)) : Prop := fitD p f l dur.length ds ∧ allGood (pgI l dur ds) p.toNat
def heapOKDec (p f l : Int) (dur : List Int) (ds : List (Int × List Int)) : Decidable (heapOK p f l dur ds) := by unfold heapOK allGood fitD Valid validHead validP; infer_instance
def heapD (p f l : Int) (dur : List Int) (ds : List (Int × List Int)) : Bool × List (Int × List Int) := @ite _ (heapOK p f l dur ds) (heapOKDec p f l dur ds) (true, heapRecs (pgI l dur ds) p.toNat) (false, [])
theorem heapD_yes {p f l : Int} {dur : List Int} {ds : List (Int × List Int)} (h : heapOK p f l dur ds) : heapD p f l dur ds = (true, heapRecs (pgI l dur ds) p.toNat) := if_pos h
theorem heapD_no {p f l : Int} {dur : List Int} {ds : List (Int × List Int)} (h : ¬ heapOK p f l dur ds) : heapD p f l dur ds = (false, []) := if_neg h
def slotLen (raw : List Int) (s : Nat) : Int := if sOff raw s = 0 then -1 else sLen raw s
def pageLens (raw : List Int) (k : Nat) : List Int := (List.range k).map (slotLen raw)
theorem pageLens_succ (raw : List Int) (k : Nat) : pageLens raw (k + 1) = pageLens raw k ++ [slotLen raw k] := by
 unfold pageLens
 rw [List.range_succ, List.map_append]
 rfl
theorem pageLens_length (raw : List Int) (k : Nat) : (pageLens raw k).length = k := by simp [pageLens]
def heapLens (R : Nat → List Int) (k : Nat) : List Int := ((List.range k).map fun i => pageLens (R i) 32).flatten
theorem heapLens_succ (R : Nat → List Int) (k : Nat) : heapLens R (k + 1) = heapLens R k ++ pageLens (R k) 32 := by
 unfold heapLens
 rw [List.range_succ, List.map_append, List.flatten_append]
 simp
theorem heapLens_length (R : Nat → List Int) : ∀ k, (heapLens R k).length = k * 32
 | 0 => rfl
 | k + 1 => by rw [heapLens_succ, List.length_append, heapLens_length R k, pageLens_length]; omega
def lensD (p f l : Int) (dur : List Int) (ds : List (Int × List Int)) : List Int := @ite _ (heapOK p f l dur ds) (heapOKDec p f l dur ds) (heapLens (pgI l dur ds) p.toNat) []
theorem lensD_yes {p f l : Int} {dur : List Int} {ds : List (Int × List Int)} (h : heapOK p f l dur ds) : lensD p f l dur ds = heapLens (pgI l dur ds) p.toNat := if_pos h
theorem lensD_no {p f l : Int} {dur : List Int} {ds : List (Int × List Int)} (h : ¬ heapOK p f l dur ds) : lensD p f l dur ds = [] := if_neg h
theorem pgI_length {p f l : Int} {dur : List Int} {ds : List (Int × List Int)} (h : fitD p f l dur.length ds) (i : Nat) (hi : (i : Int) < p) : (pgI l dur ds i).length = 4096 := pgB_length h (by omega) hi
theorem isB_pgI {l : Int} {dur : List Int} {ds : List (Int × List Int)} (hd : IsB dur) (hp : ∀ q ∈ ds, IsB q.2) (i : Nat) : IsB (pgI l dur ds i) := by
 unfold pgI pgB
 exact isB_joinS 8 (fun j _ => isB_seeD hd hp)
theorem sOff_in {raw : List Int} (hB : IsB raw) (hl : raw.length = 4096) (s : Nat) : 0 ≤ sOff raw s ∧ sOff raw s ≤ 65535 := (slotsOf_small raw hB hl).at (2 * s)
theorem sLen_in {raw : List Int} (hB : IsB raw) (hl : raw.length = 4096) (s : Nat) : 0 ≤ sLen raw s ∧ sLen raw s ≤ 65535 := (slotsOf_small raw hB hl).at (2 * s + 1)
theorem good_slot {raw : List Int} {n : Int} (h : pageFault raw n = 0) (s : Nat) (hs : s < 32) (h0 : ¬ sOff raw s = 0) : sLen raw s ≤ 1000 ∧ sOff raw s + sLen raw s ≤ 4096 := by
 unfold pageFault at h
 by_cases hl : raw.length = 4096
 case neg => rw [if_pos hl] at h; omega
 rw [if_neg (fun h => h hl)] at h
 unfold faultP at h
 split at h
 ·omega
 split at h
 ·omega
 split at h
 ·omega
 split at h
 ·omega
 rename_i h4
 have h5 : astray (numAt raw 16 2) (slotsOf raw) = false := by simpa using h4
 unfold astray at h5
 rw [List.any_eq_false] at h5
 have h6 := h5 s (List.mem_range.2 hs)
 unfold astrayAt at h6
 unfold sOff sLen at *
 simp only [Bool.or_eq_true, Bool.and_eq_true, bne_iff_ne, decide_eq_true_eq, beq_iff_eq, not_or, not_and] at h6
 have h7 := h6.1 h0
 omega
theorem good_parts {raw : List Int} {i : Nat} (h : goodPg raw i = true) : pageWhole raw = true ∧ pageFault raw (i : Int) = 0 := by
 simpa [goodPg] using h
def DiskB (dur : List Int) (ps : List PW) : Prop := IsB dur ∧ ∀ p ∈ ps, IsB p.bs
theorem DiskB.dat {dur : List Int} {ps qs : List PW} (h : DiskB dur ps) (hq : dataP qs = dataP ps) : DiskB dur qs := ⟨h.1, fun p hp => by
 have h1 : (p.sec, p.bs) ∈ dataP ps := by rw [← hq]; exact List.mem_map.2 ⟨p, hp, rfl⟩
 obtain ⟨p', hp', he⟩ := List.mem_map.1 h1
 have : p'.bs = p.bs := congrArg Prod.snd he
 rw [← this]
 exact h.2 p' hp'⟩
def SPr (w : World) (P : Nat) (raw : List Int) : Prop := SP w P (raw.take 4) (numAt raw 4 8) (numAt raw 12 4) (numAt raw 16 2) (slotsOf raw) raw
theorem SPr.kept {R : Nat → Prop} {w w' : World} {P : Nat} {raw : List Int} (h : SPr w P raw) (hk : Kept R w w') (hr : ¬ R P) : SPr w' P raw := SP.kept h hk hr
theorem SPr.same {w w' : World} {P : Nat} {raw : List Int} (h : SPr w P raw) (hk : Same w w') : SPr w' P raw := SP.same h hk
def ptr (P : Nat) : Value := .pointer (some ⟨P, 0, none⟩)
structure HpM (w : World) (G n : Nat) (Ps : List Nat) (R : Nat → List Int) : Prop where
 row : Blk w G 98 (Ps.map ptr ++ List.replicate (n - Ps.length) (Value.pointer none))
 pgs : ∀ i (h : i < Ps.length), SPr w Ps[i] (R i)
 lo : ∀ i (h : i < Ps.length), G < Ps[i]
theorem HpM.same {w w' : World} {G n : Nat} {Ps : List Nat} {R : Nat → List Int} (h : HpM w G n Ps R) (hk : Same w w') : HpM w' G n Ps R := ⟨h.row.same hk, fun i hi => (h.pgs i hi).same hk, h.lo⟩
theorem ptrs_set (Ps : List Nat) (n P : Nat) (h : Ps.length < n) : (Ps.map ptr ++ List.replicate (n - Ps.length) (Value.pointer none)).set Ps.length (ptr P) = (Ps ++ [P]).map ptr ++ List.replicate (n - (Ps ++ [P]).length) (Value.pointer none) := by
 obtain ⟨m, hm⟩ : ∃ m, n - Ps.length = m + 1 := ⟨n - Ps.length - 1, by omega⟩
 rw [hm, List.set_append_right (h := by rw [List.length_map]; exact Nat.le_refl _), List.length_map, Nat.sub_self, List.replicate_succ, List.set_cons_zero, List.length_append, List.length_singleton, show n - (Ps.length + 1) = m from by omega, List.map_append, List.append_assoc]
 rfl
theorem HpM.snoc {w : World} {G n P : Nat} {Ps : List Nat} {R : Nat → List Int} (h : HpM w G n Ps R) (hn : Ps.length < n) (hP : SPr w P (R Ps.length)) (hG : G < P) : HpM (w.setCell ⟨G, Ps.length, none⟩ (ptr P)) G n (Ps ++ [P]) R := by
 have hk : Kept (fun b => b = G) w (w.setCell ⟨G, Ps.length, none⟩ (ptr P)) := Kept.setCell (R := fun b => b = G) (Kept.refl _ _) (p := ⟨G, Ps.length, none⟩) (.inr rfl) _
 refine ⟨?_, fun i hi => ?_, fun i hi => ?_⟩
 ·have hs := h.row.stored Ps.length (ptr P)
  rw [ptrs_set Ps n P hn] at hs
  exact hs
 ·by_cases e : i < Ps.length
  ·rw [List.getElem_append_left e]
   exact (h.pgs i e).kept hk (by have := h.lo i e; omega)
  ·have : i = Ps.length := by rw [List.length_append, List.length_singleton] at hi; omega
   subst this
   rw [List.getElem_append_right (Nat.le_refl _)]
   simp only [Nat.sub_self, List.getElem_cons_zero]
   exact hP.kept hk (by omega)
 ·by_cases e : i < Ps.length
  ·rw [List.getElem_append_left e]
   exact h.lo i e
  ·have : i = Ps.length := by rw [List.length_append, List.length_singleton] at hi; omega
   subst this
   rw [List.getElem_append_right (Nat.le_refl _)]
   simp only [Nat.sub_self, List.getElem_cons_zero]
   exact hG
theorem HpM.cell {w : World} {G n : Nat} {Ps : List Nat} {R : Nat → List Int} (h : HpM w G n Ps R) (i : Nat) (hi : i < Ps.length) : w.cell? ⟨G, i, none⟩ = some (ptr Ps[i]) := by
 rw [h.row.cell, List.getElem?_append_left (by rw [List.length_map]; exact hi), List.getElem?_map, List.getElem?_eq_getElem hi]
 rfl
theorem HpM.next {w : World} {G n : Nat} {Ps : List Nat} {R : Nat → List Int} (h : HpM w G n Ps R) (hn : Ps.length < n) : w.cell? ⟨G, Ps.length, none⟩ = some (.pointer none) := by
 rw [h.row.cell, List.getElem?_append_right (by rw [List.length_map]; exact Nat.le_refl _), List.length_map, Nat.sub_self, List.getElem?_replicate, if_pos (by omega)]
def HpR (p f l : Int) (dur : List Int) (ds : List (Int × List Int)) (w w' : World) (v : Value) (b : Bool) : Prop :=
 Same w w' ∧ ((b = false ∧ v = .slice none 0 0 ∧ ¬ heapOK p f l dur ds) ∨
  (b = true ∧ heapOK p f l dur ds ∧ ∃ G Ps, v = .slice (some ⟨G, 0, none⟩) p.toNat p.toNat ∧ Ps.length = p.toNat ∧ w.heap.size ≤ G ∧ HpM w' G p.toNat Ps (pgI l dur ds)))
def HpE (p f l : Int) (dur : List Int) (ds : List (Int × List Int)) (w w' : World) (e : Ending) : Prop := ∃ v b, e = .returned (.tuple #[v, .bool b]) ∧ HpR p f l dur ds w w' v b
theorem Try.infoPtr' : (Try.prog.info? 98).map (fun i => (i.zero, i.size, i.bytes)) = some (some (.pointer none), 1, 8) := by kernel_rfl
theorem madeP1 (n : Nat) : (madeCells (Value.pointer none).cells (n * 1)).toList = List.replicate n (Value.pointer none) := by
 apply List.ext_getElem?
 intro j
 by_cases hj : j < n
 ·simp [madeCells, Value.cells, hj, Nat.mod_one]
 ·rw [List.getElem?_eq_none (by simp [madeCells]; omega), List.getElem?_eq_none (by simp; omega)]
theorem openHeap_any (p f l : Int) (dv pv : Value) (dur : List Int) (ps : List PW) (w : World) (hb : DiskB dur ps) (hv : RdD w dv pv dur ps) :
  Calls Try.prog 41 #[.agg #[dv, pv], .agg #[.int .i64 p, .int .i64 f, .int .i64 l]] w fun e w' => HpE p f l dur (dataP ps) w w' e := by
 have HV := hid hv
 have kF := fun wx hv => holds_any p f l dv pv dur ps wx hv
 have kN := fun hV wx hv => seen_any dv pv dur ps wx hV hv
 obtain ⟨a1, c1, rfl⟩ := hv.dur.form
 obtain ⟨a2, c2, rfl⟩ := hv.pend.form
 clear hv
 obtain ⟨HK0, HA0, HG0⟩ := new2 w [.slice a1 dur.length c1, .slice a2 ps.length c2] 32 [.int .i64 p, .int .i64 f, .int .i64 l] 34
 by_cases hF : fitD p f l dur.length (dataP ps)
 case neg =>
  go_enter Try.func41, Try.ntmps41
  go_wp2_with fail
  refine (kF _ (HV.out.same HK0.out)).mono ?_
  rintro e w1 ⟨⟨B, rfl, hB⟩, hk1⟩
  obtain rfl : B = false := by
   cases B
   ·rfl
   ·exact absurd (hB.1 rfl) hF
  have HK1 := hid (HK0.out.trans hk1)
  clear hB hk1
  go_wp2
  go_ret2
  exact ⟨_, _, rfl, HK1.out, .inl ⟨rfl, rfl, fun h => hF h.1⟩⟩
 have hgeo := geo_good hF.1
 obtain ⟨N, hN⟩ : ∃ N : Nat, p = (N : Int) := ⟨p.toNat, by omega⟩
 have hIB : ∀ i, IsB (pgI l dur (dataP ps) i) := isB_pgI hb.1 (fun q hq => by obtain ⟨r, hr, rfl⟩ := List.mem_map.1 hq; exact hb.2 r hr)
 have HLEN : Hid (∀ i, i < N → (pgI l dur (dataP ps) i).length = 4096) := fun i hi => pgI_length hF i (by omega)
 have HSEC : Hid (∀ i : Nat, i < N → pgSec p f l (i : Int) = 2 + l + (i : Int) * 8 ∧ 2 + l + (i : Int) * 8 + 8 ≤ ((dur.length / 512 : Nat) : Int)) := fun i hi => by
  obtain ⟨s1, s2, s3⟩ := fit_sec hF (g := (i : Int)) (by omega) (by omega)
  exact ⟨s1, s2⟩
 have HSL : Hid (∀ i : Nat, i < N → ∀ k : Nat, k < 8 → (seeD (2 + l + (i : Int) * 8 + (k : Int)) dur (dataP ps)).length = 512) := fun i hi k hk => by
  obtain ⟨s1, s2, s3⟩ := fit_sec hF (g := (i : Int)) (by omega) (by omega)
  exact seeD_length hF.2.1 (by omega) (by omega)
 have HN8 : Hid (dur.length / 512 ≤ 1024) := hF.2.1.1.2.2.1
 have kN := fun wx hv => kN hF.2.1 wx hv
 have hpN : p.toNat = N := by omega
 have HPN := hid hpN
 have HFD := hid hF
 have HIB := hid hIB
 have hl0 : 0 ≤ l ∧ l ≤ 800 := by omega
 have hN16 : 1 ≤ N ∧ N ≤ 16 := by omega
 obtain ⟨i0, hi, hz0, hz1, hz2⟩ := info_parts Try.infoPtr'
 clear hF hgeo hIB hpN hb
 subst hN
 obtain ⟨R, hR⟩ : ∃ R, pgI l dur (dataP ps) = R := ⟨_, rfl⟩
 rw [hR] at HLEN HIB
 have HR := hid hR
 clear hR
 go_enter Try.func41, Try.ntmps41
 go_wp2_with fail
 refine (kF _ (HV.out.same HK0.out)).mono ?_
 rintro e w1 ⟨⟨B, rfl, hB⟩, hk1⟩
 obtain rfl : B = true := hB.2 HFD.out
 have HK1 := hid (HK0.out.trans hk1)
 have HG1 := hid (HG0.out.same hk1)
 have HA1 := hid (HA0.out.same hk1)
 obtain ⟨e0, e1⟩ := HA1.out.all2
 clear hk1 hB
 go_wp2_with fail
 refine (kN _ (HV.out.same HK1.out)).mono ?_
 rintro e w2 ⟨v2, rfl, G2, us, rfl, hul, hG2, hb2, hr2, hk2⟩
 have HK2 := hid (HK1.out.trans hk2)
 have HG2 := hid (HG1.out.same hk2)
 have HUL := hid hul
 have HB2 := hid hb2
 have HR2 : Hid (∀ i (h : i < us.length), Rd .u8 w2 us[i] (seeD (i : Int) dur (dataP ps))) := fun i h => (hr2 i h).same hk2
 obtain ⟨e2, e3, e4⟩ := HG2.out.all3
 clear hr2 hk2 hb2 hG2 e0 e1 hul kF kN HA1 HG1 HA0 HG0
 have hz2' := HK2.out.size
 go_wp2_with (at_make; go_loud (refine wpList_make_full _ rfl (.tmp 17) (.tmp 17) 74 rfl 0 98 i0 (.pointer none) 1 Try.underlying74 hi hz0 hz1 .i64 .i64 _ _ N rfl rfl (by simp) (by simp) (by rw [hz2]; omega) (by unfold maxLen; omega) (Nat.zero_le _) ?_); intro w3 hown hgrow; have HM3 := (show Hid (HpM w3 w2.heap.size N [] R) from (by rw [madeP1] at hown; exact ⟨Blk.of_row hown, fun i h => by simp at h, fun i h => by simp at h⟩)); have HK3 : Hid (Same w2 w3) := Kept.of_grown hgrow (fun k e => by cases e); obtain ⟨e5, e6, e7⟩ := (HG2.out.same HK3.out).all3; clear hown hgrow)
 have HG3 := hid (HG2.out.same HK3.out)
 have hlg2 := HG2.out.lt
 clear HG2 e2 e3 e4 e5 e6 e7
 go_loopw [21] (fun i wr => ∃ (k : Nat) (Ps : List Nat), k ≤ N ∧ i = .int .i64 (k : Int) ∧ Hid (Ps.length = k) ∧ Hid (HpM wr w2.heap.size N Ps R) ∧ Hid (allGood R k) ∧ Hid (Blk wr (w.heap.size + 1) 34 [.int .i64 (N : Int), .int .i64 f, .int .i64 l]) ∧ Hid (Same w2 wr)) (fun i _ => N - (intOf i).toNat)
 case atStart => exact ⟨0, [], Nat.zero_le _, rfl, rfl, HM3, fun i hi => by omega, HG3, HK3⟩
 case round =>
  obtain ⟨k, Ps, hk, rfl, HPL, HM, HAG, HG, HK⟩ := hrel
  clear HM3 HG3 HK3
  by_cases hlt : k < N
  case neg =>
   obtain rfl : k = N := by omega
   go_wp2
   go_ret2
   refine ⟨_, _, rfl, HK2.out.trans HK.out, .inr ⟨rfl, ⟨HFD.out, ?_⟩, w2.heap.size, Ps, ?_, ?_, hz2', ?_⟩⟩
   ·rw [HR.out, HPN.out]; exact HAG.out
   ·rw [HPN.out]; rfl
   ·rw [HPN.out]; exact HPL.out
   ·rw [HR.out, HPN.out]; exact HM.out
  obtain ⟨s1, s2⟩ := HSEC.out k hlt
  obtain ⟨F, hFF⟩ : ∃ F : Nat, 2 + l + (k : Int) * 8 = (F : Int) := ⟨(2 + l + (k : Int) * 8).toNat, by omega⟩
  have kS := fun wx => implPgSec_any (N : Int) f l (k : Int) wx
  rw [s1, hFF] at kS
  have HF8 : Hid (F + 8 ≤ us.length) := by unfold Hid; rw [HUL.out]; omega
  have HUS : Hid (us.length ≤ 1024) := by unfold Hid; rw [HUL.out]; exact HN8.out
  have hraw : joinS (fun i => seeD ((F : Int) + (i : Int)) dur (dataP ps)) 8 = R k := by rw [← HR.out, ← hFF]; rfl
  have HS8 : Hid (∀ i : Nat, i < 8 → (seeD ((F : Int) + (i : Int)) dur (dataP ps)).length = 512) := fun i hi => by rw [← hFF]; exact HSL.out k hlt i hi
  have HR8 : Hid (∀ wx, Same w2 wx → ∀ i : Nat, i < 8 → ∃ u, us[F + i]? = some u ∧ Rd .u8 wx u (seeD ((F : Int) + (i : Int)) dur (dataP ps))) := fun wx hx i hi => by
   have h1 := HF8.out
   have h2 : F + i < us.length := by omega
   refine ⟨us[F + i], List.getElem?_eq_getElem h2, ?_⟩
   have h := (HR2.out (F + i) h2).same hx
   rwa [show ((F + i : Nat) : Int) = (F : Int) + (i : Int) from by omega] at h
  have kJ := fun wx (hx : Same w2 wx) => join_any G2 us.length us F (fun i => seeD ((F : Int) + (i : Int)) dur (dataP ps)) wx (HB2.out.same hx) HF8.out HUS.out HS8.out (HR8.out wx hx)
  rw [hraw] at kJ
  obtain ⟨raw, hrw⟩ : ∃ raw, R k = raw := ⟨_, rfl⟩
  have hrl := HLEN.out k hlt
  have hrb := HIB.out k
  rw [hrw] at kJ hrl hrb
  have HRW := hid hrw
  have hT := fun wx => takeApart_any raw wx hrb hrl
  have hSd := fun wx => sealed_any raw wx hrb hrl
  have hsl : (sealB raw).length = 4096 := by rw [sealB_length _ (by omega), hrl]
  have heq := fun wx => run_neq_pages wx (sealB raw) raw hsl hrl
  have hn12 := numAt_in raw hrb 12 4 (by decide) (by decide) (by omega)
  have hn16 := numAt_in raw hrb 16 2 (by decide) (by decide) (by omega)
  have hFt := fun P wx (h : SPr wx P raw) => fault_any P (raw.take 4) (numAt raw 4 8) (numAt raw 12 4) (numAt raw 16 2) (slotsOf raw) raw (k : Int) wx h (slotsOf_small raw hrb hrl) ⟨hn12.1, by omega⟩ ⟨hn16.1, by omega⟩
  have hPF : pageFault raw (k : Int) = faultP (raw.take 4) (numAt raw 4 8) (numAt raw 12 4) (numAt raw 16 2) (slotsOf raw) raw (k : Int) := by unfold pageFault; rw [if_neg (by simp [hrl])]
  have hWH : pageWhole raw = (sealB raw == raw) := by unfold pageWhole; simp [hrl]
  rw [← hPF] at hFt
  obtain ⟨ds, hds⟩ : ∃ ds : List Value, vals .u8 raw = ds := ⟨_, rfl⟩
  obtain ⟨es, hes⟩ : ∃ es : Array Value, (vals .u8 (sealB raw)).toArray = es := ⟨_, rfl⟩
  have hdl : ds.length = 4096 := by rw [← hds, vals_length, hrl]
  have hone := (show ds.toArray.all (·.oneCell') = true from all_oneCell_toArray (by rw [← hds]; exact vals_one))
  rw [hds] at kJ hT hSd heq
  rw [hes] at hSd heq
  obtain ⟨r, hr⟩ : ∃ r, (sealB raw != raw) = r := ⟨_, rfl⟩
  rw [hr] at heq
  have hI : (Try.prog.info? 60).map (·.size) = some ds.length := by rw [hdl]; exact (by kernel_rfl : (Try.prog.info? 60).map (·.size) = some 4096)
  have HI := hid hI
  have HWH := hid (show pageWhole raw = !r from by rw [hWH, ← hr]; simp [bne])
  obtain ⟨FT, hFT⟩ : ∃ FT, pageFault raw (k : Int) = FT := ⟨_, rfl⟩
  rw [hFT] at hFt
  have HFT := hid hFT
  have HDS := hid hds
  obtain ⟨e2, e3, e4⟩ := HG.out.all3
  have hzr := HK.out.size
  have hlg := HG.out.lt
  clear s1 s2 hFF hraw hrl hrb hrw hsl hn12 hn16 hPF hWH hds hes hr hFT hI HS8 HR8
  go_wp2_with fail
  refine (kS _).mono ?_
  rintro e w4 ⟨rfl, hk4⟩
  have HK4 := hid (HK.out.trans hk4)
  have HM4 := hid (HM.out.same hk4)
  have HG4 := hid (HG.out.same hk4)
  clear hk4 kS e2 e3 e4
  go_wp2_with fail
  refine (kJ _ HK4.out).mono ?_
  rintro e w5 ⟨rfl, hk5⟩
  have HK5 := hid (HK4.out.trans hk5)
  have HM5 := hid (HM4.out.same hk5)
  have HG5 := hid (HG4.out.same hk5)
  have hst := run_storeCells_new (P := Try.prog) w5 60 Try.zeroCells60 ds.toArray (by rw [List.size_toArray]; exact HI.out) (by rw [show ds.toArray.size = 4096 from by rw [List.size_toArray, hdl]]; exact Try.zeroCells60_size) hone
  rw [List.toList_toArray] at hst
  have HRG := (show Hid ((w5.alloc (.cells ds.toArray 60)).rangeAt w5.heap.size 0 ds) from (Blk.newL w5 ds 60).rangeAll)
  have HBD := (show Hid (Blk (w5.alloc (.cells ds.toArray 60)) w5.heap.size 60 ds) from Blk.newL w5 ds 60)
  clear hone hk5 kJ HM HG HM4 HG4
  have hz5 := HK5.out.size
  go_wp2_with (first
   | (refine wpList_load_mid rfl 60 _ rfl w5.heap.size 0 rfl ds _ HRG.out Try.underlying60 rfl HI.out ?_)
   | (go_at_call 65; (with_reducible refine (hT _).mono ?_); rintro e w6 ⟨P, rfl, hP, hsp, hk6⟩; have HK56 : Hid (Same w5 w6) := ((Kept.refl _ _).alloc _).trans hk6; have HM6 := hid (HM5.out.same HK56.out); have HSP := (show Hid (SPr w6 P raw) from hsp); have HP0 : Hid (w2.heap.size < P) := (by unfold Hid; rw [World.size_alloc] at hP; omega); have HBD6 := hid (HBD.out.same hk6); have q0 := HM6.out.next (by rw [HPL.out]; exact hlt); rw [HPL.out] at q0; have q1 := HM6.out.row.frozen k; clear hk6 hsp hP hst))
  have hGl := HM6.out.row.lt
  have HG56 : Hid (w2.heap.size < w5.heap.size) := HM5.out.row.lt
  have hsn := HM6.out.snoc (P := P) (by rw [HPL.out]; exact hlt) (by rw [HPL.out, HRW.out]; exact HSP.out) HP0.out
  rw [HPL.out] at hsn
  have hk67 : Kept (fun b => b = w2.heap.size) w6 (w6.setCell ⟨w2.heap.size, k, none⟩ (ptr P)) := Kept.setCell (R := fun b => b = w2.heap.size) (Kept.refl _ _) (p := ⟨w2.heap.size, k, none⟩) (.inr rfl) _
  have HBD7 := hid (HBD6.out.kept hk67 (by have := HG56.out; omega))
  have HG7 := hid ((HG5.out.same HK56.out).kept hk67 (by omega))
  have HK7 := (show Hid (Same w2 (w6.setCell ⟨w2.heap.size, k, none⟩ (ptr P))) from (HK5.out.trans HK56.out).setCell (.inl (Nat.le_refl _)) _)
  have HM7 := hid hsn
  have HSP7 := hid (HSP.out.kept hk67 (by have := HP0.out; omega))
  clear hsn hk67 q0 q1 HM6 HSP HBD6 HG5 HM5 HRG HBD
  change Code.wp _ _ _ _ (w6.setCell ⟨w2.heap.size, k, none⟩ (ptr P))
  generalize w6.setCell ⟨w2.heap.size, k, none⟩ (ptr P) = w7 at *
  have hc7 := HM7.out.cell k (by rw [List.length_append, HPL.out, List.length_singleton]; omega)
  have hc7' : w7.cell? ⟨w2.heap.size, k, none⟩ = some (.pointer (some ⟨P, 0, none⟩)) := by
   rw [hc7]
   have : (Ps ++ [P])[k]'(by rw [List.length_append, HPL.out, List.length_singleton]; omega) = P := by
    rw [List.getElem_append_right (by rw [HPL.out]; exact Nat.le_refl _)]
    simp [HPL.out]
   rw [this]
   rfl
  clear hc7
  let Y1 : World → Prop := fun wx : World => wx.rangeAt w5.heap.size 0 ds ∧ wx.cell? ⟨w2.heap.size, k, none⟩ = some (.pointer (some ⟨P, 0, none⟩))
  have hS : Y1 w7.drew := ⟨HBD7.out.drew.rangeAll, hc7'⟩
  refine wp_region_V Y1 99 13 rfl (by kernel_rfl) ?_
  refine wpAnyV_take (i := 0) (v := .agg ds.toArray) (some 34) rfl rfl (by kernel_rfl) (by kernel_rfl) (by kernel_rfl) (by kernel_rfl) (fun _ _ _ h => h) (yieldsIf_load_mid (by rfl) 60 _ rfl w5.heap.size 0 rfl ds _ (fun _ h => h.1) Try.underlying60 rfl HI.out) hS ?_
  try simp only [Act.put, sA, s0, sS]
  refine wpAnyV_take (i := 2) (v := .agg ds.toArray) (some 36) rfl rfl (by kernel_rfl) (by kernel_rfl) (by kernel_rfl) (by kernel_rfl) (fun _ _ _ h => h) (yieldsIf_load_mid (by rfl) 60 _ rfl w5.heap.size 0 rfl ds _ (fun _ h => h.1) Try.underlying60 rfl HI.out) hS ?_
  try simp only [Act.put, sA, s0, sS]
  refine wpAnyV_one (i := 1) (by kernel_rfl) rfl (fun K hK => ?_)
  go_simp
  with_reducible refine (hSd _).mono ?_
  rintro e w8 ⟨rfl, hk8⟩
  have HK78 : Hid (Same w7 w8) := (Kept.refl _ _).drew.trans hk8
  clear hk8
  have hS : Y1 w8 := ⟨(HBD7.out.same HK78.out).rangeAll, HK78.out.cellOf hc7' id⟩
  refine hK.out _ _ (fun _ => hS) ?_
  clear hK K
  try simp only [Act.put, sA, s0, sS]
  refine tk 3 37 hS ?_
  refine tk 4 38 hS ?_
  cases r with
  | true =>
   refine tkS 5 39 hS ?_
   refine tkS 6 40 hS ?_
   refine tkS 7 41 hS ?_
   refine tkS 8 42 hS ?_
   refine tkS 9 43 hS ?_
   refine tkS 10 44 hS ?_
   refine tkS 11 45 hS ?_
   refine tk 12 46 hS ?_
   refine wpAnyV_done (by kernel_rfl) ?_
   clear hS heq
   go_wp2
   go_ret2
   refine ⟨_, _, rfl, HK2.out.trans (HK7.out.trans HK78.out), .inl ⟨rfl, rfl, fun h => ?_⟩⟩
   have h1 := h.2 k (by rw [HPN.out]; exact hlt)
   rw [HR.out, HRW.out] at h1
   have h2 := (good_parts h1).1
   rw [HWH.out] at h2
   cases h2
  | false =>
   refine tk 5 39 hS ?_
   refine tk 6 40 hS ?_
   refine tkV 7 41 (.pointer (some ⟨w2.heap.size, k, none⟩)) hS ?_
   refine tk 8 42 hS ?_
   refine tk 9 43 hS ?_
   refine wpAnyV_one (i := 10) (by kernel_rfl) rfl (fun K hK => ?_)
   go_simp
   with_reducible refine (hFt P _ (HSP7.out.same HK78.out)).mono ?_
   rintro e w9 ⟨rfl, hk9⟩
   have HK79 : Hid (Same w7 w9) := HK78.out.trans hk9
   clear hk9
   have hS : Y1 w9 := ⟨(HBD7.out.same HK79.out).rangeAll, HK79.out.cellOf hc7' id⟩
   refine hK.out _ _ (fun _ => hS) ?_
   clear hK K
   try simp only [Act.put, sA, s0, sS]
   by_cases hF0 : FT = 0
   ·subst hF0
    refine tkV 11 45 (.bool false) hS ?_
    refine tk 12 46 hS ?_
    refine wpAnyV_done (by kernel_rfl) ?_
    clear hS heq
    go_wp2
    go_roundw
    case rel =>
     refine ⟨k + 1, Ps ++ [P], by omega, by go_num, by unfold Hid; rw [List.length_append, HPL.out, List.length_singleton], HM7.out.same HK79.out, fun i hi => ?_, HG7.out.same HK79.out, HK7.out.trans HK79.out⟩
     by_cases e : i < k
     ·exact HAG.out i e
     ·obtain rfl : i = k := by omega
      rw [HRW.out]
      unfold goodPg
      rw [HWH.out, HFT.out]
      rfl
    case measure => simp [intOf]; omega
   ·have hF1 : (FT != 0) = true := by simpa using hF0
    refine tkV 11 45 (.bool true) hS ?_
    refine tk 12 46 hS ?_
    refine wpAnyV_done (by kernel_rfl) ?_
    clear hS heq
    go_wp2
    go_ret2
    refine ⟨_, _, rfl, HK2.out.trans (HK7.out.trans HK79.out), .inl ⟨rfl, rfl, fun h => ?_⟩⟩
    have h1 := h.2 k (by rw [HPN.out]; exact hlt)
    rw [HR.out, HRW.out] at h1
    exact hF0 (HFT.out.symm.trans (good_parts h1).2)
theorem news_ofZ {w : World} {b off : Nat} {bs : List Int} (hc : ∀ i, i < bs.length → w.cell? ⟨b, off + i, none⟩ = some (.int .i64 (bs.getD i 0))) (j : Nat) (u : Value) (h : (vals .i64 bs)[j]? = some u) : w.cell? ((⟨b, off, none⟩ : Addr).add j) = some u := by
 have hj : j < bs.length := by have := (List.getElem?_eq_some_iff.1 h).1; rwa [vals_length] at this
 rw [vals_at _ _ _ hj] at h
 have e : (⟨b, off, none⟩ : Addr).add j = ⟨b, off + j, none⟩ := by
  unfold Addr.add
  split
  ·next h => subst h; rfl
  ·rfl
 rw [e, hc j hj]
 exact h
theorem marksZ_at (k : Int) (n j : Nat) (h : j < n) : (marksZ k n).getD j 0 = k + j := by simp [marksZ, h, List.getD]
theorem run_appZ {ty : TypeId} {w : World} {v x : Value} {bs ys : List Int} (ho : Own 0 2 .i64 w v bs) (hx : Rd .i64 w x ys) (hl : bs.length + ys.length ≤ 1099511627776) :
  ∃ a n c w', (Builtin.append_ #[41, 41] ty #[v, x]).run Try.prog w = .ok (.slice a n c) w' ∧ Own 0 2 .i64 w' (.slice a n c) (bs ++ ys) ∧ Grew w v w' (.slice a n c) := by
 obtain ⟨i0, hi, hz0, hz1, hz2⟩ := info_parts Try.infoI64
 have some_case : ∀ (ad : Addr) (c : Nat), (∀ j u, (vals .i64 ys)[j]? = some u → w.cell? (ad.add j) = some u) → ∃ a n c' w', (Builtin.append_ #[41, 41] ty #[v, .slice (some ad) ys.length c]).run Try.prog w = .ok (.slice a n c') w' ∧ Own 0 2 .i64 w' (.slice a n c') (bs ++ ys) ∧ Grew w v w' (.slice a n c') := fun ad c hn => by
  obtain ⟨v', w', hr, h2, h3, _, h5⟩ := run_append_own_at (P := Try.prog) w 0 41 ty 2 i0 (.int .i64 0) 1 8 Try.underlying41 hi hz0 hz1 hz2 rfl (by decide) v bs.length (vals .i64 bs) ho ad ys.length c (vals .i64 ys) (by simp [vals_length]) hn vals_one (by unfold maxLen; omega) (by omega) (Nat.zero_le _)
  have h2' : Own 0 2 .i64 w' v' (bs ++ ys) := by unfold Own; simpa [vals] using h2
  obtain ⟨a, n, c', rfl⟩ := slice_of_own h2'
  refine ⟨a, n, c', w', hr, h2', Kept.of_grown h3 (fun k e => e), fun b hb => ?_⟩
  rcases h5 with h5 | h5
  ·exact .inl (by rw [← h5]; exact hb)
  ·rw [h5] at hb
   exact .inr (by have := Option.some.inj hb; omega)
 rcases hx.2 with ⟨rfl, a, c, rfl, hac⟩ | ⟨b, off, c, rfl, _, hc⟩
 ·cases a with
  | none =>
   obtain rfl : c = 0 := hac rfl
   have hr := run_append_owned_none (P := Try.prog) (w := w) 0 41 ty 2 i0 1 Try.underlying41 hi v bs.length (vals .i64 bs) ho
   obtain ⟨a, n, c', rfl⟩ := slice_of_own ho
   exact ⟨a, n, c', w, hr, by rw [List.append_nil]; exact ho, Grew.refl _ _⟩
  | some ad => exact some_case ad c (fun j u h => by simp [vals] at h)
 ·exact some_case ⟨b, off, none⟩ c (news_ofZ hc)
theorem wp_appZ {w : World} {o : Oper} {a : Act} {K : Act → World → Prop} {Q : Exit → Act → World → Prop} (s x : Operand)
  (ho : o.op = .call { callee := .builtin .append, args := #[s, x], argTypes := #[41, 41] })
  (v xv : Value) (bs ys : List Int) (hs : a.eval s = v) (hx : a.eval x = xv) (hown : Own 0 2 .i64 w v bs) (hrd : Rd .i64 w xv ys) (hl : bs.length + ys.length ≤ 1099511627776)
  (h : ∀ a' n' c' w', Own 0 2 .i64 w' (.slice a' n' c') (bs ++ ys) → Grew w v w' (.slice a' n' c') → K (a.put o.dst (.slice a' n' c')) w') : o.wp Try.prog a w K Q := by
 obtain ⟨a', n', c', w', hr, h2, h3⟩ := run_appZ (ty := o.type) hown hrd hl
 unfold Oper.wp execOp
 simp only [ho, resolve, invoke, builtin, Sem.run_bind, Sem.run_pure, Result.andThen_ok, List.map_toArray, List.map_cons, List.map_nil, hs, hx, hr]
 exact h a' n' c' w' h2 h3
theorem wpList_appZ {w : World} {ops : Array Oper} {rest : List Oper} {o : Oper} {a : Act} {Q : Exit → Act → World → Prop} (hgd : o.guard = none) (s x : Operand)
  (ho : o.op = .call { callee := .builtin .append, args := #[s, x], argTypes := #[41, 41] })
  (v xv : Value) (bs ys : List Int) (hs : a.eval s = v) (hx : a.eval x = xv) (hown : Own 0 2 .i64 w v bs) (hrd : Rd .i64 w xv ys) (hl : bs.length + ys.length ≤ 1099511627776)
  (h : ∀ a' n' c' w', Own 0 2 .i64 w' (.slice a' n' c') (bs ++ ys) → Grew w v w' (.slice a' n' c') → wpList Try.prog ops Q rest (a.put o.dst (.slice a' n' c')) w') : wpList Try.prog ops Q (o :: rest) a w :=
 wpList_plain hgd fun _ hK => wp_appZ s x ho v xv bs ys hs hx hown hrd hl fun a' n' c' w' h2 h3 => hK _ _ (h a' n' c' w' h2 h3)
theorem rd_oneZ (w : World) (x : Int) : Rd .i64 (w.alloc (.cells #[.int .i64 x] 2)) (.slice (some ⟨w.heap.size, 0, none⟩) 1 1) [x] := by
 have h := Blk.newL w [.int .i64 x] 2
 refine ⟨by simp [maxLen], .inr ⟨w.heap.size, 0, 1, rfl, Nat.le_refl _, fun i hi => ?_⟩⟩
 obtain rfl : i = 0 := by simpa using hi
 exact h.c0
set_option maxHeartbeats 400000 in
theorem heldInt64S_own (base : Nat) (va : Value) (n : Nat) (k0 : Int) (w : World) (hn : n ≤ 1125899906842624) (h0 : 0 ≤ k0) (h1 : k0 ≤ 1125899906842624)
  (ha : Own base 2 .i64 w va (marksZ k0 n)) :
  Calls Try.prog 20 #[va, .int .i64 k0] w fun e w' => e = .returned (.int .i64 (k0 + n)) ∧ w' = w := by
 by_cases hz : n = 0
 ·subst hz
  obtain ⟨aa, ca, rfl⟩ : ∃ aa ca, va = .slice aa 0 ca := by rcases ha.form with ⟨rfl, _⟩ | ⟨g, cap, rfl, _⟩ <;> exact ⟨_, _, rfl⟩
  clear ha hn
  go_enter Try.func20, Try.ntmps20
  go_wp2
  refine wp_loop_rounds 1 ?_
  rw [rounds_succ]
  go_wp2
  go_ret
  exact ⟨by simp, rfl⟩
 ·obtain ⟨g, cap, rfl⟩ : ∃ g cap, va = .slice (some ⟨g, 0, none⟩) n cap := by
   rcases ha.form with ⟨_, h⟩ | ⟨g, cap, h, _⟩
   ·have := congrArg List.length h; simp [marksZ_length] at this; omega
   ·exact ⟨g, cap, by rw [h, marksZ_length]⟩
  have hc : ∀ j, j < n → w.cell? ⟨g, j, none⟩ = some (.int .i64 (k0 + j)) := fun j hj => by
   rw [ha.cell (marksZ_length _ _).symm j hj, marksZ_at _ _ _ hj]
  clear ha
  go_enter Try.func20, Try.ntmps20
  go_wp2
  go_loop [1, 5] (fun v i => ∃ k : Nat, k ≤ n ∧ i = .int .i64 k ∧ v = .int .i64 (k0 + k)) (fun _ i => n - (intOf i).toNat)
  case atStart => exact ⟨0, Nat.zero_le _, rfl, by simp⟩
  case round =>
   obtain ⟨k, hk, rfl, rfl⟩ := hrel
   by_cases hlt : k < n
   ·have h2 := hc k hlt
    clear hc
    go_wp2
    go_round
    case rel => exact ⟨k + 1, by omega, by go_num, by go_num⟩
    case measure => simp [intOf]; omega
   ·go_wp2
    go_ret
    obtain rfl : k = n := by omega
    exact ⟨rfl, rfl⟩
def LenE (w w' : World) (bs : List Int) (e : Ending) : Prop := ∃ a n c, e = .returned (.slice a n c) ∧ Own 0 2 .i64 w' (.slice a n c) bs ∧ (∀ b, (Value.slice a n c).ownBlock = some b → w.heap.size ≤ b) ∧ Same w w'
theorem LenE.of {w w' : World} {bs : List Int} {e : Ending} (h : LenE w w' bs e) : ∃ a c, e = .returned (.slice a bs.length c) ∧ (∀ b, (Value.slice a bs.length c).ownBlock = some b → w.heap.size ≤ b) ∧ Own 0 2 .i64 w' (.slice a bs.length c) bs ∧ Same w w' := by
 obtain ⟨a, n, c, rfl, ho, hf, hk⟩ := h
 obtain rfl : n = bs.length := by
  rcases ho.form with ⟨h, h'⟩ | ⟨g', cap, h, _⟩
  ·cases h; rw [h']; rfl
  ·cases h; rfl
 exact ⟨a, c, rfl, hf, ho, hk⟩
theorem hpLens_nil (w : World) :
  Calls Try.prog 42 #[.slice none 0 0] w fun e w' => LenE w w' [] e := by
 obtain ⟨i0, hi, hz0, hz1, hz2⟩ := info_parts Try.infoI64
 go_enter Try.func42, Try.ntmps42
 go_wp2_with (at_make; go_loud (refine wpList_make_own _ rfl (.const (.int .i64 0)) (.tmp 11) 41 rfl 0 2 i0 (.int .i64 0) 1 Try.underlying41 hi hz0 hz1 .i64 .i64 _ 0 rfl rfl (by simp) (by rw [hz2]; omega) (by unfold maxLen; omega) (Nat.zero_le _) ?_); intro w1 hown hgrow; have HO1 := (show Hid (Own 0 2 .i64 w1 (.slice (some ⟨w.heap.size, 0, none⟩) 0 0) []) from hown); have HK1 : Hid (Same w w1) := Kept.of_grown hgrow (fun k e => by cases e); clear hown hgrow)
 refine wp_loop_rounds 1 ?_
 rw [rounds_succ]
 go_wp2
 go_ret
 exact ⟨_, _, _, rfl, HO1.out, fun b hb => by have h : w.heap.size = b := (by simpa [Value.ownBlock] using hb); omega, HK1.out⟩
theorem hpLens_any (G N : Nat) (Ps : List Nat) (R : Nat → List Int) (w : World) (hM : HpM w G N Ps R) (hl : Ps.length = N) (hN : N ≤ 16) (hB : ∀ i, i < N → IsB (R i)) (hL : ∀ i, i < N → (R i).length = 4096) :
  Calls Try.prog 42 #[.slice (some ⟨G, 0, none⟩) N N] w fun e w' => LenE w w' (heapLens R N) e := by
 obtain ⟨i0, hi, hz0, hz1, hz2⟩ := info_parts Try.infoI64
 have HM := hid hM
 have HL := hid hL
 have HB := hid hB
 have HPL := hid hl
 have q1 : IntKind.i64.wrap ((N : Int) * 32) = (N : Int) * 32 := by rw [IntKind.wrap_i64]; omega
 clear hM hl hB hL
 go_enter Try.func42, Try.ntmps42
 go_wp2_with (at_make; go_loud (refine wpList_make_own _ rfl (.const (.int .i64 0)) (.tmp 11) 41 rfl 0 2 i0 (.int .i64 0) 1 Try.underlying41 hi hz0 hz1 .i64 .i64 _ (N * 32) rfl rfl (by omega) (by rw [hz2]; omega) (by unfold maxLen; omega) (Nat.zero_le _) ?_); intro w1 hown hgrow; have HO1 := (show Hid (Own 0 2 .i64 w1 (.slice (some ⟨w.heap.size, 0, none⟩) 0 (N * 32)) []) from hown); have HK1 : Hid (Same w w1) := Kept.of_grown hgrow (fun k e => by cases e); clear hown hgrow)
 go_loopw [3, 15] (fun o i wr => ∃ (k : Nat) (aa : Option Addr) (na ca : Nat), k ≤ N ∧ o = .slice aa na ca ∧ i = .int .i64 (k : Int) ∧ Hid (Own 0 2 .i64 wr (.slice aa na ca) (heapLens R k)) ∧ Hid (∀ b, (Value.slice aa na ca).ownBlock = some b → w.heap.size ≤ b) ∧ Hid (Same w wr)) (fun _ i _ => N - (intOf i).toNat)
 case atStart => exact ⟨0, _, _, _, Nat.zero_le _, rfl, rfl, HO1, fun b hb => by have h : w.heap.size = b := (by simpa [Value.ownBlock] using hb); omega, HK1⟩
 case round =>
  obtain ⟨k, aa, na, ca, hk, rfl, rfl, HO, HF, HK⟩ := hrel
  clear HO1 HK1
  by_cases hlt : k < N
  case neg =>
   obtain rfl : k = N := by omega
   go_wp2
   go_ret
   exact ⟨_, _, _, rfl, HO.out, HF.out, HK.out⟩
  have hkp : k < Ps.length := by rw [HPL.out]; exact hlt
  have hc := HK.out.cellOf (HM.out.cell k hkp) id
  have HSP := hid (HM.out.pgs k hkp)
  generalize Ps[k] = P at hc HSP
  unfold ptr at hc
  clear hkp
  go_wp2_with fail
  go_loopw [3, 19] (fun o i wx => ∃ (s : Nat) (aa : Option Addr) (na ca : Nat), s ≤ 32 ∧ o = .slice aa na ca ∧ i = .int .i64 (s : Int) ∧ Hid (Own 0 2 .i64 wx (.slice aa na ca) (heapLens R k ++ pageLens (R k) s)) ∧ Hid (∀ b, (Value.slice aa na ca).ownBlock = some b → w.heap.size ≤ b) ∧ Hid (Same w wx)) (fun _ i _ => 32 - (intOf i).toNat)
  case atStart => exact ⟨0, _, _, _, Nat.zero_le _, rfl, rfl, by unfold Hid; rw [show pageLens (R k) 0 = [] from rfl, List.append_nil]; exact HO.out, HF, HK⟩
  case round =>
   clear HO HF HK hc
   obtain ⟨s, ab, nb, cb, hs, rfl, rfl, HO, HF, HK⟩ := hrel
   by_cases hs2 : s < 32
   case neg =>
    obtain rfl : s = 32 := by omega
    go_wp2
    go_roundw
    case rel => exact ⟨k + 1, ab, nb, cb, by omega, rfl, by go_num, by rw [heapLens_succ]; exact HO, HF, HK⟩
    case measure => simp [intOf]; omega
   have c0 := HK.out.cellOf (HSP.out.slAt (2 * s) (by omega)) id
   have c1 := HK.out.cellOf (HSP.out.slAt (2 * s + 1) (by omega)) id
   rw [show 7 + 2 * s = 7 + s * 2 from by omega] at c0
   rw [show 7 + (2 * s + 1) = 7 + s * 2 + 1 from by omega] at c1
   have hlP : P < wr.heap.size := World.block_lt_of_cell? wr _ c0
   have HSL := (show Hid (pageLens (R k) (s + 1) = pageLens (R k) s ++ [if sOff (R k) s = 0 then -1 else sLen (R k) s]) from pageLens_succ (R k) s)
   have HLL : Hid ((heapLens R k ++ pageLens (R k) s).length ≤ 1024) := by unfold Hid; rw [List.length_append, heapLens_length, pageLens_length]; omega
   have kU := fun wx => used_any ((slotsOf (R k)).getD (2 * s) 0) ((slotsOf (R k)).getD (2 * s + 1) 0) wx
   unfold sOff sLen at HSL
   generalize (slotsOf (R k)).getD (2 * s) 0 = x at *
   generalize (slotsOf (R k)).getD (2 * s + 1) 0 = y at *
   have hs3 : (s : Int) < 32 := by omega
   by_cases hx : x = 0
   ·subst hx
    rw [show ((0 : Int) != 0) = false from rfl] at kU
    rw [if_pos rfl] at HSL
    go_wp2_with (first
     | (go_at_call 68; (with_reducible refine (kU _).mono ?_); rintro e w3 ⟨rfl, hk3⟩; have HK3 : Hid (Same wr w3) := ((Kept.refl _ _).alloc _).trans hk3; clear hk3)
     | (at_builtin; go_loud (refine wpList_appZ rfl (.tmp 32) (.tmp 34) rfl (.slice ab nb cb) (.slice (some ⟨w3.heap.size, 0, none⟩) 1 1) _ [-1] rfl rfl (HO.out.same (HK3.out.alloc _)) (rd_oneZ w3 (-1)) (by have := HLL.out; simp only [List.length_singleton]; omega) ?_); intro a4 n4 c4 w4 hown hgr; have HO4 := hid hown; have HG4 := hid hgr; clear hown hgr))
    rw [List.append_assoc, ← HSL.out] at HO4
    have hz3 := HK3.out.size
    go_roundw
    case rel => exact ⟨s + 1, a4, n4, c4, by omega, rfl, by go_num, HO4, HG4.out.fresh ((HK.out.trans HK3.out).alloc _) HF.out, HG4.out.same ((HK.out.trans HK3.out).alloc _) HF.out⟩
    case measure => simp [intOf]; omega
   ·have hx2 : (x != 0) = true := by simpa using hx
    rw [hx2] at kU
    rw [if_neg hx] at HSL
    go_wp2_with (first
     | (go_at_call 68; (with_reducible refine (kU _).mono ?_); rintro e w3 ⟨rfl, hk3⟩; have HB3 := hid ((Blk.newL wr [.int .i64 x, .int .i64 y] 103).same hk3); have HK3 : Hid (Same wr w3) := ((Kept.refl _ _).alloc _).trans hk3; obtain ⟨d0, d1⟩ := HB3.out.all2; clear hk3)
     | (at_builtin; go_loud (refine wpList_appZ rfl (.tmp 32) (.tmp 34) rfl (.slice ab nb cb) (.slice (some ⟨w3.heap.size, 0, none⟩) 1 1) _ [y] rfl rfl (HO.out.same (HK3.out.alloc _)) (rd_oneZ w3 y) (by have := HLL.out; simp only [List.length_singleton]; omega) ?_); intro a4 n4 c4 w4 hown hgr; have HO4 := hid hown; have HG4 := hid hgr; clear hown hgr))
    rw [List.append_assoc, ← HSL.out] at HO4
    have hz3 := HK3.out.size
    go_roundw
    case rel => exact ⟨s + 1, a4, n4, c4, by omega, rfl, by go_num, HO4, HG4.out.fresh ((HK.out.trans HK3.out).alloc _) HF.out, HG4.out.same ((HK.out.trans HK3.out).alloc _) HF.out⟩
    case measure => simp [intOf]; omega
theorem implLengths_any (p f l : Int) (dv pv : Value) (dur : List Int) (ps : List PW) (w : World) (hb : DiskB dur ps) (hv : RdD w dv pv dur ps) :
  Calls Try.prog 17 #[.agg #[dv, pv], .agg #[.int .i64 p, .int .i64 f, .int .i64 l]] w fun e w' => LenE w w' (lensD p f l dur (dataP ps)) e := by
 have HV := hid hv
 have kO := fun wx hv => openHeap_any p f l dv pv dur ps wx hb hv
 have HB := hid hb
 obtain ⟨a1, c1, rfl⟩ := hv.dur.form
 obtain ⟨a2, c2, rfl⟩ := hv.pend.form
 clear hv hb
 obtain ⟨HK0, HA0, HG0⟩ := new2 w [.slice a1 dur.length c1, .slice a2 ps.length c2] 32 [.int .i64 p, .int .i64 f, .int .i64 l] 34
 go_enter Try.func17, Try.ntmps17
 go_wp2_with fail
 refine (kO _ (HV.out.same HK0.out)).mono ?_
 rintro e w1 ⟨v, b, rfl, hk1, ⟨rfl, rfl, hno⟩ | ⟨rfl, hok, G, Ps, rfl, hpl, hG, hM⟩⟩
 ·have HK1 := hid (HK0.out.trans hk1)
  have HD := hid (lensD_no hno)
  clear hk1 hno
  go_wp2_with fail
  refine (hpLens_nil _).mono ?_
  rintro e w2 ⟨a, n, c, rfl, ho, hf, hk2⟩
  have HO := hid ho
  have HF := hid (fun b hb => Nat.le_trans HK1.out.size (hf b hb))
  have HK2 := hid (HK1.out.trans hk2)
  clear ho hf hk2
  go_wp2
  go_ret
  rw [HD.out]
  exact ⟨a, n, c, rfl, HO.out, HF.out, HK2.out⟩
 ·have HK1 := hid (HK0.out.trans hk1)
  have HD := hid (lensD_yes hok)
  have hgeo := geo_good hok.1.1
  have kL := hpLens_any G p.toNat Ps (pgI l dur (dataP ps)) w1 hM hpl (by omega) (fun i _ => isB_pgI HB.out.1 (fun q hq => by obtain ⟨r, hr, rfl⟩ := List.mem_map.1 hq; exact HB.out.2 r hr) i) (fun i hi => pgI_length hok.1 i (by omega))
  clear hk1 hok hG hM hpl hgeo
  generalize p.toNat = N at *
  go_wp2_with fail
  refine kL.mono ?_
  rintro e w2 ⟨a, n, c, rfl, ho, hf, hk2⟩
  have HO := hid ho
  have HF := hid (fun b hb => Nat.le_trans HK1.out.size (hf b hb))
  have HK2 := hid (HK1.out.trans hk2)
  clear ho hf hk2
  go_wp2
  go_ret
  rw [HD.out]
  exact ⟨a, n, c, rfl, HO.out, HF.out, HK2.out⟩
end Go.Proofs.Ytlmcaodiiadlkaa
