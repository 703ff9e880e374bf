import Derived.Test.YtdgmecmkkddpeaaGreatG08
import Derived.Test.YtdgmecmkkddpeaaGreatG07
import Derived.Test.YtdgmecmkkddpeaaGreatG00
import Derived.Test.YtdgmecmkkddpeaaGreatG01
import Derived.Test.YtdgmecmkkddpeaaGreatG05
import Derived.Deep.DeepCutAuto
import Derived.Deep.AppendLies
import Derived.Laws.AppendOwnNone
namespace Go.Proofs.YtdgmecmkkddpeaaGreat
set_option maxRecDepth 100000
set_option maxHeartbeats 16000000
set_option linter.unusedVariables false
set_option linter.unusedSimpArgs false
open Go.RowKit
def headBad (sum : List Int) (lsn num bot : Int) (sl raw : List Int) : Bool := !isLSN lsn || encB sum lsn num bot sl raw != raw
def faultP (sum : List Int) (lsn num bot : Int) (sl raw : List Int) (number : Int) : Int :=
 if num ≠ number then 2 else if headBad sum lsn num bot sl raw then 3 else if bot < 148 ∨ 4096 < bot then 4 else if astray bot sl then 5 else if share sl then 6 else 0
theorem isLSN_spec {x : Int} (h : isLSN x = true) : 0 ≤ x ∧ x ≤ 9223372036854775807 := by
 simp [isLSN] at h
 omega
theorem fault_any (P : Nat) (sum : List Int) (lsn num bot : Int) (sl raw : List Int) (number : Int) (w : World) (hp : SP w P sum lsn num bot sl raw) (hs : Small sl) (hnum : 0 ≤ num ∧ num ≤ 9223372036854775807) (hbot : 0 ≤ bot ∧ bot ≤ 9223372036854775807) :
  Calls Tryz.prog 143 #[.pointer (some ⟨P, 0, none⟩), .int .i64 number] w fun e w' => e = .returned (.int .i64 (faultP sum lsn num bot sl raw number)) ∧ Same w w' := by
 have HP := (show Hid (SP w P sum lsn num bot sl raw) from hp)
 have HSm := (show Hid (Small sl) from hs)
 obtain ⟨c4, c5, c6⟩ := hp.num3
 by_cases h2 : num = number
 ·have h2b : (num != number) = false := by simp [h2]
  have HF1 := (show Hid (faultP sum lsn num bot sl raw number = if headBad sum lsn num bot sl raw then 3 else if bot < 148 ∨ 4096 < bot then 4 else if astray bot sl then 5 else if share sl then 6 else 0) from (by unfold faultP; rw [if_neg (by simp [h2])] : faultP sum lsn num bot sl raw number = _))
  obtain ⟨F, hF⟩ : ∃ F, faultP sum lsn num bot sl raw number = F := ⟨_, rfl⟩
  rw [hF] at HF1
  rw [hF]
  obtain ⟨hb, hhb⟩ : ∃ hb, headBad sum lsn num bot sl raw = hb := ⟨_, rfl⟩
  have HHB := (show Hid (headBad sum lsn num bot sl raw = hb) from hhb)
  rw [hhb] at HF1
  clear h2 hp hs hF hhb
  go_enter Tryz.func143, Tryz.ntmps143
  go_upto_region 3 with fail
  go_cut [12] (fun c wc => c = .bool hb ∧ Hid (Same w wc))
  case first =>
   have hrl := HP.out.rawRange
   have hI80 : (Tryz.prog.info? 168).map (·.size) = some (vals .u8 raw).length := by rw [vals_length, HP.out.l3]; exact page_info
   obtain ⟨rl, hrle⟩ : ∃ rl : List Value, vals .u8 raw = rl := ⟨_, rfl⟩
   rw [hrle] at hrl hI80
   have hSx : ∀ wx, Same w wx → (fun wx : World => wx.cell? ⟨P, 4, none⟩ = some (.int .i64 lsn) ∧ wx.rangeAt P 71 rl) wx := fun wx h => ⟨h.cellOf c4 id, Kept.ranges h hrl⟩
   have hcl := isLSN_any lsn w.drew
   by_cases hL : isLSN lsn = true
   ·rw [hL] at hcl
    have hHB : headBad sum lsn num bot sl raw = (encB sum lsn num bot sl raw != raw) := by simp [headBad, hL]
    have hn3 : Num3 lsn num bot sl := ⟨isLSN_spec hL, hnum, hbot, fun x hx => by have := HSm.out x hx; omega⟩
    have hen := fun wx (h : Same w wx) => encode_any P sum lsn num bot sl raw wx (HP.out.same h) hn3
    have hne := fun wx => run_neq_pages wx (encB sum lsn num bot sl raw) raw (encB_length HP.out.l1 HP.out.l2 HP.out.l3) HP.out.l3
    rw [hrle] at hne
    have hHB2 : (encB sum lsn num bot sl raw != raw) = hb := hHB.symm.trans HHB.out
    obtain ⟨el, hel⟩ : ∃ el : Array Value, (vals .u8 (encB sum lsn num bot sl raw)).toArray = el := ⟨_, rfl⟩
    rw [hel] at hen hne
    rw [hHB2] at hne
    clear hHB hHB2 hel hL hn3 hrle
    have hS : (fun wx : World => wx.cell? ⟨P, 4, none⟩ = some (.int .i64 lsn) ∧ wx.rangeAt P 71 rl) w.drew := by exact hSx _ (Kept.refl _ _).drew
    refine wp_region_V (fun wx : World => wx.cell? ⟨P, 4, none⟩ = some (.int .i64 lsn) ∧ wx.rangeAt P 71 rl) 99 16 rfl (by kernel_rfl) ?_
    refine tk 0 13 hS ?_
    refine tk 1 14 hS ?_
    refine tk 2 15 hS ?_
    refine tk 3 16 hS ?_
    refine wpAnyV_one (i := 4) (by kernel_rfl) rfl (fun K hK => ?_)
    go_simp
    with_reducible refine (hcl).mono ?_
    rintro e w2 ⟨rfl, hkk⟩
    have hkw2 : Same w w2 := Kept.trans ((Kept.refl _ _).drew) hkk
    clear hkk
    have hS : (fun wx : World => wx.cell? ⟨P, 4, none⟩ = some (.int .i64 lsn) ∧ wx.rangeAt P 71 rl) w2 := hSx _ hkw2
    refine hK.out _ _ (fun _ => hS) ?_
    clear hK K
    try simp only [Act.put, sA, s0, sS]
    refine tk 5 18 hS ?_
    refine tk 6 19 hS ?_
    refine tk 7 20 hS ?_
    refine tk 9 22 hS ?_
    refine tk 10 23 hS ?_
    refine tk 11 24 hS ?_
    refine wpAnyV_take (i := 12) (v := .agg rl.toArray) (some 25) rfl rfl (by kernel_rfl) (by kernel_rfl) (by kernel_rfl) (by kernel_rfl) (fun _ _ _ h => h) (yieldsIf_load_mid (by rfl) 168 _ rfl P 71 rfl rl _ (fun _ h => h.2) Tryz.underlying168 rfl hI80) hS ?_
    try simp only [Act.put, sA, s0, sS]
    refine wpAnyV_one (i := 8) (by kernel_rfl) rfl (fun K hK => ?_)
    go_simp
    with_reducible refine (hen _ hkw2).mono ?_
    rintro e w3 ⟨rfl, hkk⟩
    have hkw3 : Same w w3 := Kept.trans (hkw2) hkk
    clear hkk
    have hS : (fun wx : World => wx.cell? ⟨P, 4, none⟩ = some (.int .i64 lsn) ∧ wx.rangeAt P 71 rl) w3 := hSx _ hkw3
    refine hK.out _ _ (fun _ => hS) ?_
    clear hK K
    try simp only [Act.put, sA, s0, sS]
    refine tk 13 26 hS ?_
    refine tk 14 27 hS ?_
    refine tk 15 12 hS ?_
    refine wpAnyV_done (by kernel_rfl) ?_
    go_wp2
    go_meet
    exact ⟨rfl, hkw3⟩
   ·have hLf : isLSN lsn = false := by simpa using hL
    rw [hLf] at hcl
    have hHB : headBad sum lsn num bot sl raw = true := by simp [headBad, hLf]
    obtain rfl : hb = true := HHB.out.symm.trans hHB
    clear hHB hrle hL
    have hS : (fun wx : World => wx.cell? ⟨P, 4, none⟩ = some (.int .i64 lsn) ∧ wx.rangeAt P 71 rl) w.drew := by exact hSx _ (Kept.refl _ _).drew
    refine wp_region_V (fun wx : World => wx.cell? ⟨P, 4, none⟩ = some (.int .i64 lsn) ∧ wx.rangeAt P 71 rl) 99 16 rfl (by kernel_rfl) ?_
    refine tk 0 13 hS ?_
    refine tk 1 14 hS ?_
    refine tk 2 15 hS ?_
    refine tk 3 16 hS ?_
    refine wpAnyV_one (i := 4) (by kernel_rfl) rfl (fun K hK => ?_)
    go_simp
    with_reducible refine (hcl).mono ?_
    rintro e w2 ⟨rfl, hkk⟩
    have hkw2 : Same w w2 := Kept.trans ((Kept.refl _ _).drew) hkk
    clear hkk
    have hS : (fun wx : World => wx.cell? ⟨P, 4, none⟩ = some (.int .i64 lsn) ∧ wx.rangeAt P 71 rl) w2 := hSx _ hkw2
    refine hK.out _ _ (fun _ => hS) ?_
    clear hK K
    try simp only [Act.put, sA, s0, sS]
    refine tk 5 18 hS ?_
    refine tk 6 19 hS ?_
    refine tkS 7 20 hS ?_
    refine tkS 8 21 hS ?_
    refine tkS 9 22 hS ?_
    refine tkS 10 23 hS ?_
    refine tkS 11 24 hS ?_
    refine tkS 12 25 hS ?_
    refine tkS 13 26 hS ?_
    refine tk 14 27 hS ?_
    refine tk 15 12 hS ?_
    refine wpAnyV_done (by kernel_rfl) ?_
    go_wp2
    go_meet
    exact ⟨rfl, hkw2⟩
  case rest =>
   obtain ⟨rfl, HKc⟩ := hcut
   have k6 := HKc.out.cellOf c6 id
   clear c4 c5 c6
   cases hb with
   | true =>
    obtain rfl : F = 3 := by have h := HF1.out; rw [if_pos rfl] at h; exact h
    go_wp2
    go_ret
    exact ⟨rfl, HKc.out⟩
   | false =>
    have h5 := HF1.out
    rw [if_neg (by decide)] at h5
    clear HF1
    by_cases h4 : bot < 148
    ·obtain rfl : F = 4 := by rw [if_pos (.inl h4)] at h5; exact h5
     clear h5
     go_wp2
     go_ret
     exact ⟨rfl, HKc.out⟩
    ·by_cases h4' : 4096 < bot
     ·obtain rfl : F = 4 := by rw [if_pos (.inr h4')] at h5; exact h5
      clear h5
      go_wp2
      go_ret
      exact ⟨rfl, HKc.out⟩
     ·rw [if_neg (by omega)] at h5
      have ha := slotsAstray_any P sum lsn num bot sl raw wc (HP.out.same HKc.out) HSm.out
      have hsh := fun wx (h : Same w wx) => recordsShare_any P sum lsn num bot sl raw wx (HP.out.same h) HSm.out
      generalize astray bot sl = A at *
      generalize share sl = H at *
      cases A with
      | true =>
       obtain rfl : F = 5 := by rw [if_pos rfl] at h5; exact h5
       clear h5
       go_wp2_with (go_at_call 146; refine ha.mono ?_; rintro e w4 ⟨rfl, hk4⟩)
       go_ret
       exact ⟨rfl, HKc.out.trans hk4⟩
      | false =>
       rw [if_neg (by decide)] at h5
       cases H with
       | true =>
        obtain rfl : F = 6 := by rw [if_pos rfl] at h5; exact h5
        clear h5
        go_wp2_with (first | (go_at_call 146; refine ha.mono ?_; rintro e w4 ⟨rfl, hk4⟩; have hk4' := HKc.out.trans hk4) | (go_at_call 147; refine (hsh _ hk4').mono ?_; rintro e w5 ⟨rfl, hk5⟩))
        go_ret
        exact ⟨rfl, hk4'.trans hk5⟩
       | false =>
        obtain rfl : F = 0 := by rw [if_neg (by decide)] at h5; exact h5
        clear h5
        go_wp2_with (first | (go_at_call 146; refine ha.mono ?_; rintro e w4 ⟨rfl, hk4⟩; have hk4' := HKc.out.trans hk4) | (go_at_call 147; refine (hsh _ hk4').mono ?_; rintro e w5 ⟨rfl, hk5⟩))
        go_ret
        exact ⟨rfl, hk4'.trans hk5⟩
 ·have h2b : (num != number) = true := by simp [h2]
  have e : faultP sum lsn num bot sl raw number = 2 := by unfold faultP; rw [if_pos h2]
  rw [e]
  clear h2 hp hs e
  go_enter Tryz.func143, Tryz.ntmps143
  go_wp2
  go_ret
  exact ⟨rfl, Kept.refl _ _⟩
theorem numAt_small (raw : List Int) (hB : IsB raw) (o n : Nat) (hn : n ≤ 7) : numAt raw o n = -1 ∨ (0 ≤ numAt raw o n ∧ numAt raw o n < 256 ^ n) := by
 unfold numAt getN
 have hb : IsB ((raw.drop o).take n) := isB_take (isB_drop hB o) n
 have h := num_bound _ hb ((raw.drop o).take n).length (Nat.le_refl _)
 rw [List.take_length] at h
 split
 ·exact .inl rfl
 ·refine .inr ⟨h.1, Int.lt_of_lt_of_le h.2 ?_⟩
  have hl : ((raw.drop o).take n).length ≤ n := by simp; omega
  have h2 : (256 : Nat) ^ ((raw.drop o).take n).length ≤ 256 ^ n := Nat.pow_le_pow_right (by decide) hl
  have e1 : ((256 ^ ((raw.drop o).take n).length : Nat) : Int) = (256 : Int) ^ ((raw.drop o).take n).length := by simp
  have e2 : ((256 ^ n : Nat) : Int) = (256 : Int) ^ n := by simp
  rw [← e1, ← e2]
  exact_mod_cast h2
theorem numAt_in (raw : List Int) (hB : IsB raw) (o n : Nat) (hn1 : 1 ≤ n) (hn : n ≤ 7) (hl : o + n ≤ raw.length) : 0 ≤ numAt raw o n ∧ numAt raw o n < 256 ^ n := by
 rcases numAt_small raw hB o n hn with h | h
 ·exfalso
  unfold numAt getN at h
  have hb : IsB ((raw.drop o).take n) := isB_take (isB_drop hB o) n
  have hln : ((raw.drop o).take n).length = n := by simp; omega
  have h0 := num_bound _ hb ((raw.drop o).take n).length (Nat.le_refl _)
  rw [List.take_length] at h0
  have hf := getN_few _ hb (by omega)
  rw [if_neg (by omega)] at h
  omega
 ·exact h
theorem slotsOf_small (raw : List Int) (hB : IsB raw) (hl : raw.length = 4096) : Small (slotsOf raw) := by
 intro x hx
 simp only [slotsOf, List.mem_map, List.mem_range] at hx
 obtain ⟨j, hj, rfl⟩ := hx
 have := numAt_in raw hB (20 + 2 * j) 2 (by decide) (by decide) (by omega)
 omega
def pageFault (raw : List Int) (number : Int) : Int := if raw.length ≠ 4096 then 1 else faultP (raw.take 4) (numAt raw 4 8) (numAt raw 12 4) (numAt raw 16 2) (slotsOf raw) raw number
theorem owns_form {w : World} {base size n : Nat} {e : TypeId} {v : Value} {xs : List Value} (h : w.ownsRow base e size v n xs) (hn : 0 < n) : ∃ g cap, v = .slice (some ⟨g, 0, none⟩) n cap := by
 rcases h.2 with ⟨_, h0⟩ | ⟨g, cap, cur, h, _⟩
 ·omega
 ·exact ⟨g, cap, h⟩
theorem owns_le {w : World} {base base' size n : Nat} {e : TypeId} {v : Value} {xs : List Value} (h : w.ownsRow base e size v n xs) (hb : base' ≤ base) : w.ownsRow base' e size v n xs := by
 refine ⟨h.1, ?_⟩
 rcases h.2 with h0 | ⟨g, cap, cur, h, hg, rest⟩
 ·exact .inl h0
 ·exact .inr ⟨g, cap, cur, h, Nat.le_trans hb hg, rest⟩
theorem infoSlot : (Tryz.prog.info? 86).map (fun i => (i.zero, i.size, i.bytes)) = some (some (.agg #[.int .i64 0, .int .i64 0]), 2, 16) := by kernel_rfl
theorem take2 (sl : List Int) (k : Nat) (h : 2 * k + 1 < sl.length) : vals .i64 (sl.take (2 * (k + 1))) = vals .i64 (sl.take (2 * k)) ++ [.int .i64 (sl.getD (2 * k) 0), .int .i64 (sl.getD (2 * k + 1) 0)] := by
 have e1 : sl.getD (2 * k) 0 = sl[2 * k] := by simp [List.getD, List.getElem?_eq_getElem (show 2 * k < sl.length by omega)]
 have e2 : sl.getD (2 * k + 1) 0 = sl[2 * k + 1] := by simp [List.getD, List.getElem?_eq_getElem h]
 rw [show 2 * (k + 1) = 2 * k + 1 + 1 from by omega, List.take_succ_eq_append_getElem h, List.take_succ_eq_append_getElem (by omega), e1, e2]
 unfold vals
 rw [List.map_append, List.map_append, List.append_assoc]
 rfl
theorem l3Slots_any (b off c : Nat) (raw : List Int) (w : World) (hB : IsB raw) (hl : raw.length = 4096) (hv : Rd .u8 w (.slice (some ⟨b, off, none⟩) 4096 c) raw) :
  Calls Tryz.prog 54 #[.slice (some ⟨b, off, none⟩) 4096 c] w fun e w' => ∃ g cap, e = .returned (.slice (some ⟨g, 0, none⟩) 32 cap) ∧ w.heap.size ≤ g ∧ w'.ownsRow 0 86 2 (.slice (some ⟨g, 0, none⟩) 32 cap) 32 (vals .i64 (slotsOf raw)) ∧ Same w w' := by
 obtain ⟨i0, hi, hz0, hz1, hz2⟩ := info_parts infoSlot
 have HNu := (show Hid (∀ wx, Same w wx → ∀ o : Nat, o + 2 ≤ 4096 → Calls Tryz.prog 52 #[.slice (some ⟨b, off, none⟩) 4096 c, .int .i64 o, .int .i64 2] wx fun e w' => e = .returned (.int .i64 (numAt raw o 2)) ∧ Same wx w') from fun wx h o ho =>
  l3Number_any b off 4096 c raw o 2 wx hB hl (by decide) (by decide) ho (hv.same h))
 clear hv hB
 go_enter Tryz.func54, Tryz.ntmps54
 go_wp2
 go_loopw [3, 4, 5] (fun s i _ wr => ∃ (k g cap : Nat), k ≤ 32 ∧ s = .slice (some ⟨g, 0, none⟩) k cap ∧ i = .int .i64 k ∧ Hid (wr.ownsRow w.heap.size 86 2 (.slice (some ⟨g, 0, none⟩) k cap) k (vals .i64 ((slotsOf raw).take (2 * k)))) ∧ Hid (Same w wr)) (fun _ i _ _ => 32 - (intOf i).toNat)
 case atStart =>
  refine ⟨0, w.heap.size, 0, by omega, rfl, rfl, ?_, (Kept.refl _ _).alloc _⟩
  exact World.ownsRow_made w #[] 0 (Nat.le_refl _) (by simp) (by simp)
 case round =>
  obtain ⟨k, g, cap, hk, rfl, rfl, HO, HK⟩ := hrel
  by_cases hlt : k < 32
  ·have hk2 : (k : Int) < 32 := by omega
   have HX := (show Hid ((slotsOf raw).getD (2 * k) 0 = numAt raw (20 + 4 * k) 2) from (by rw [slotsOf_at _ _ (by omega), show 20 + 2 * (2 * k) = 20 + 4 * k from by omega] : (slotsOf raw).getD (2 * k) 0 = numAt raw (20 + 4 * k) 2))
   have HY := (show Hid ((slotsOf raw).getD (2 * k + 1) 0 = numAt raw (20 + 4 * k + 2) 2) from (by rw [slotsOf_at _ _ (by omega), show 20 + 2 * (2 * k + 1) = 20 + 4 * k + 2 from by omega] : (slotsOf raw).getD (2 * k + 1) 0 = numAt raw (20 + 4 * k + 2) 2))
   have HT := (show Hid (_ = _) from take2 (slotsOf raw) k (by rw [slotsOf_length]; omega))
   rw [HX.out, HY.out] at HT
   have h1 := HNu.out wr HK.out (20 + 4 * k) (by omega)
   have h2 := fun wx (h : Same wr wx) => HNu.out wx (HK.out.trans h) (20 + 4 * k + 2) (by omega)
   generalize numAt raw (20 + 4 * k) 2 = X at *
   generalize numAt raw (20 + 4 * k + 2) 2 = Y at *
   have e1 : ((20 + 4 * k : Nat) : Int) = 20 + 4 * (k : Int) := by omega
   have e2 : ((20 + 4 * k + 2 : Nat) : Int) = 20 + 4 * (k : Int) + 2 := by omega
   rw [e1] at h1
   rw [e2] at h2
   have HOB := (show Hid (∀ wx, Same wr wx → ∀ o, (wx.alloc o).ownsRow w.heap.size 86 2 (.slice (some ⟨g, 0, none⟩) k cap) k (vals .i64 ((slotsOf raw).take (2 * k)))) from fun wx h o => (h.trans ((Kept.refl _ _).alloc o)).owns HO.out (fun _ _ => id))
   clear e1 e2 HX HY
   go_wp2_with (first
    | (go_at_call 52; refine h1.mono ?_; rintro e w1 ⟨rfl, hk1⟩; have h3 := h2 w1 hk1; clear h1)
    | (go_at_call 52; refine h3.mono ?_; rintro e w2 ⟨rfl, hk2'⟩; have HK2 := (show Hid (Same wr w2) from hk1.trans hk2'); have hz2' := HK2.out.size; have hzr := HK.out.size)
    | (at_builtin; (refine wpList_append_own _ rfl _ _ 83 rfl w.heap.size 86 i0 (.agg #[.int .i64 0, .int .i64 0]) 2 16 Tryz.underlying83 hi hz0 hz1 hz2 rfl (by decide) (.slice (some ⟨g, 0, none⟩) k cap) k (vals .i64 ((slotsOf raw).take (2 * k))) rfl (HOB.out w2 HK2.out _) ⟨w2.heap.size, 0, none⟩ 1 1 [.int .i64 X, .int .i64 Y] rfl rfl (World.news_of_block (cs := #[.int .i64 X, .int .i64 Y]) (t := 86) (fr := (0, 0)) (by unfold World.alloc; exact Array.getElem?_push_size)) (by intro u hu; simp at hu; rcases hu with rfl | rfl <;> rfl) (by unfold maxLen; omega) (by omega) (by simp; omega) ?_); intro v' w3 hown3 hgrow3 _; have HO3 := (show Hid (w3.ownsRow w.heap.size 86 2 v' (k + 1) (vals .i64 ((slotsOf raw).take (2 * (k + 1))))) from (by rw [HT.out]; exact hown3)); have HG3 := (show Hid ((w2.alloc (.cells #[.int .i64 X, .int .i64 Y] 86)).grownBy w3 (Value.slice (some ⟨g, 0, none⟩) k cap).ownBlock) from hgrow3); obtain ⟨g3, cap3, rfl⟩ := owns_form HO3.out (by omega); clear hown3 hgrow3))
   have hk3 : Kept (fun b => (Value.slice (some ⟨g, 0, none⟩) k cap).ownBlock = some b) w2 w3 := ((Kept.refl _ _).alloc _).trans (Kept.of_grown HG3.out (fun k e => e))
   have hg := (World.ownsRow.lt HO.out g rfl).1
   go_roundw
   case rel => exact ⟨k + 1, g3, cap3, by omega, rfl, by go_num, HO3, (HK.out.trans HK2.out).next hk3 (fun i hi e => by simp [Value.ownBlock] at e; omega)⟩
   case measure => simp [intOf]; omega
  ·obtain rfl : k = 32 := by omega
   go_wp2
   go_ret
   have h := HO.out
   rw [List.take_of_length_le (by rw [slotsOf_length]; decide)] at h
   exact ⟨g, cap, rfl, (World.ownsRow.lt h g rfl).1, owns_le h (Nat.zero_le _), HK.out⟩
theorem lows_numAt (raw : List Int) (hB : IsB raw) (o n : Nat) (hn : 1 ≤ n) (hn8 : n ≤ 8) (hl : o + n ≤ raw.length) (h : 0 ≤ numAt raw o n) : lows (numAt raw o n) n = (raw.drop o).take n := by
 have hln : ((raw.drop o).take n).length = n := by simp; omega
 have e : numAt raw o n = num ((raw.drop o).take n) := by
  unfold numAt getN at h ⊢
  split at h
  ·omega
  ·rename_i hc
   rw [if_neg hc]
 rw [e]
 have h2 := lows_num ((raw.drop o).take n) (isB_take (isB_drop hB o) n)
 rw [hln] at h2
 exact h2
theorem pairs_take (l : List Int) (n : Nat) (h : 2 * n ≤ l.length) : (List.range n).flatMap (fun j => (l.drop (2 * j)).take 2) = l.take (2 * n) := by
 induction n with
 | zero => simp
 | succ n ih =>
  rw [List.range_succ, List.flatMap_append, ih (by omega), show 2 * (n + 1) = 2 * n + 2 from by omega, List.take_add]
  simp
theorem slotB_raw (raw : List Int) (hB : IsB raw) (hl : raw.length = 4096) : slotB (slotsOf raw) = (raw.drop 20).take 128 := by
 have h := pairs_take (raw.drop 20) 64 (by rw [List.length_drop, hl]; decide)
 rw [show 2 * 64 = 128 from rfl] at h
 rw [← h]
 unfold slotB slotsOf
 rw [List.flatMap_map]
 refine congrArg List.flatten (List.map_congr_left fun j hj => ?_)
 have hj := List.mem_range.1 hj
 rw [lows_numAt raw hB (20 + 2 * j) 2 (by decide) (by decide) (by omega) (numAt_in raw hB (20 + 2 * j) 2 (by decide) (by decide) (by omega)).1, List.drop_drop]
theorem enc_raw (raw : List Int) (hB : IsB raw) (hl : raw.length = 4096) (h0 : 0 ≤ numAt raw 4 8) :
  encB (raw.take 4) (numAt raw 4 8) (numAt raw 12 4) (numAt raw 16 2) (slotsOf raw) raw = raw.take 18 ++ ([0, 0] ++ raw.drop 20) := by
 unfold encB cont headB
 rw [slotB_raw raw hB hl, lows_numAt raw hB 4 8 (by decide) (by decide) (by omega) h0, lows_numAt raw hB 12 4 (by decide) (by decide) (by omega) (numAt_in raw hB 12 4 (by decide) (by decide) (by omega)).1,
  lows_numAt raw hB 16 2 (by decide) (by decide) (by omega) (numAt_in raw hB 16 2 (by decide) (by decide) (by omega)).1]
 have e1 : raw.take 4 ++ (raw.drop 4).take 8 = raw.take 12 := (List.take_add (l := raw) (i := 4) (j := 8)).symm
 have e2 : raw.take 12 ++ (raw.drop 12).take 4 = raw.take 16 := (List.take_add (l := raw) (i := 12) (j := 4)).symm
 have e3 : raw.take 16 ++ (raw.drop 16).take 2 = raw.take 18 := (List.take_add (l := raw) (i := 16) (j := 2)).symm
 rw [e1, e2, e3, show lows 0 2 = [0, 0] from by decide]
 have hlen : (raw.take 18 ++ [0, 0] ++ (raw.drop 20).take 128).length = 148 := by simp; omega
 rw [hlen, List.append_assoc, List.append_assoc]
 congr 2
 rw [show raw.drop 148 = (raw.drop 20).drop 128 from by rw [List.drop_drop], List.take_append_drop]
theorem raw_split (raw : List Int) (hl : raw.length = 4096) : raw = raw.take 18 ++ ([raw.getD 18 0, raw.getD 19 0] ++ raw.drop 20) := by
 have e1 : raw.getD 18 0 = raw[18] := by simp [List.getD, List.getElem?_eq_getElem (show 18 < raw.length by omega)]
 have e2 : raw.getD 19 0 = raw[19] := by simp [List.getD, List.getElem?_eq_getElem (show 19 < raw.length by omega)]
 rw [e1, e2]
 conv => lhs; rw [← List.take_append_drop 18 raw, List.drop_eq_getElem_cons (by omega : 18 < raw.length), List.drop_eq_getElem_cons (by omega : 18 + 1 < raw.length)]
 rfl
theorem headBad_raw (raw : List Int) (hB : IsB raw) (hl : raw.length = 4096) :
  headBad (raw.take 4) (numAt raw 4 8) (numAt raw 12 4) (numAt raw 16 2) (slotsOf raw) raw = (decide (numAt raw 4 8 < 0) || decide (1099511627776 < numAt raw 4 8) || raw.getD 18 0 != 0 || raw.getD 19 0 != 0) := by
 unfold headBad
 by_cases h : isLSN (numAt raw 4 8) = true
 ·have h' := h
  simp [isLSN] at h'
  have hd1 : decide (numAt raw 4 8 < 0) = false := by simp; omega
  have hd2 : decide (1099511627776 < numAt raw 4 8) = false := by simp; omega
  rw [h, hd1, hd2, enc_raw raw hB hl h'.1]
  conv => lhs; rhs; rhs; rw [raw_split raw hl]
  rw [Bool.eq_iff_iff]
  simp
  constructor
  ·intro h1
   by_cases h2 : raw[18]?.getD 0 = 0
   ·right
    intro h3
    exact h1 h2.symm h3.symm
   ·exact .inl h2
  ·rintro (h1 | h1) h2 h3
   ·exact h1 h2.symm
   ·exact h1 h3.symm
 ·have hf : isLSN (numAt raw 4 8) = false := by simpa using h
  rw [hf]
  simp [isLSN] at hf
  simp
  by_cases h0 : 0 ≤ numAt raw 4 8
  ·have := hf h0
   omega
  ·omega
theorem l3Bottom_any (b off c : Nat) (raw : List Int) (w : World) (hB : IsB raw) (hl : raw.length = 4096) (hv : Rd .u8 w (.slice (some ⟨b, off, none⟩) 4096 c) raw) :
  Calls Tryz.prog 53 #[.slice (some ⟨b, off, none⟩) 4096 c] w fun e w' => e = .returned (.int .i64 (numAt raw 16 2)) ∧ Same w w' := by
 have h := l3Number_any b off 4096 c raw 16 2 w hB hl (by decide) (by decide) (by decide) hv
 go_enter Tryz.func53, Tryz.ntmps53
 go_wp2_with (go_at_call 52; refine h.mono ?_; rintro e w1 ⟨rfl, hk⟩)
 go_ret
 exact ⟨rfl, hk⟩
def inSlot (sl : List Int) (m p : Nat) : Prop := sl.getD (2 * m) 0 ≤ (p : Int) ∧ (p : Int) < sl.getD (2 * m) 0 + sl.getD (2 * m + 1) 0
theorem share_of_in (sl : List Int) (i j p : Nat) (h1 : inSlot sl i p) (h2 : inSlot sl j p) : shareAt sl i j = true := by
 unfold shareAt sharesB
 rw [decide_eq_true_eq]
 unfold inSlot at h1 h2
 omega
theorem in_of_share (sl : List Int) (i j : Nat) (h0 : 0 ≤ sl.getD (2 * i) 0) (h0' : 0 ≤ sl.getD (2 * j) 0) (h : shareAt sl i j = true) : ∃ p : Nat, inSlot sl i p ∧ inSlot sl j p := by
 unfold shareAt sharesB at h
 rw [decide_eq_true_eq] at h
 refine ⟨(max (sl.getD (2 * i) 0) (sl.getD (2 * j) 0)).toNat, ?_, ?_⟩ <;> unfold inSlot <;> omega
theorem not_astray (bot x y : Int) (h : astrayAt bot x y = false) : (x = 0 ∧ y = 0) ∨ (x ≠ 0 ∧ y ≤ 1000 ∧ bot ≤ x ∧ x + y ≤ 4096) := by
 unfold astrayAt at h
 simp at h
 by_cases hx : x = 0
 ·exact .inl ⟨hx, h.2 hx⟩
 ·exact .inr ⟨hx, by have := h.1 hx; omega⟩
theorem owns_blk {w : World} {base g n size : Nat} {e : TypeId} {xs : List Value} (h : w.ownsRow base e size (.slice (some ⟨g, 0, none⟩) n n) n xs) : Blk w g e xs := by
 rcases h.2 with ⟨h, _⟩ | ⟨g', cap, cur, h, _, hg, _, _, hs, ht⟩
 ·cases h
 ·cases h
  rw [List.take_of_length_le (by rw [Array.length_toList, hs]; exact Nat.le_refl _)] at ht
  unfold Blk
  rw [← ht]
  simpa using hg
theorem made_bools (n : Nat) : (madeCells (Value.bool false).cells (n * 1)).toList = (List.replicate n false).map Value.bool := by
 apply List.ext_getElem?
 intro j
 by_cases hj : j < n
 ·simp [madeCells, hj, Value.cells, Nat.mod_one]
 ·simp [madeCells, hj]
theorem infoBool : (Tryz.prog.info? 4).map (fun i => (i.zero, i.size, i.bytes)) = some (some (.bool false), 1, 1) := by kernel_rfl
structure Rows2 (w : World) (g : Nat) (sl : List Int) : Prop where
 at0 : ∀ k, k < 32 → w.cell? ⟨g, k * 2, none⟩ = some (.int .i64 (sl.getD (2 * k) 0))
 at1 : ∀ k, k < 32 → w.cell? ⟨g, k * 2 + 1, none⟩ = some (.int .i64 (sl.getD (2 * k + 1) 0))
theorem Rows2.kept {R : Nat → Prop} {w w' : World} {g : Nat} {sl : List Int} (h : Rows2 w g sl) (hk : Kept R w w') (hr : ¬ R g) : Rows2 w' g sl :=
 ⟨fun k hk' => hk.cellOf (h.at0 k hk') hr, fun k hk' => hk.cellOf (h.at1 k hk') hr⟩
theorem rows2_of {w : World} {g cap : Nat} {e : TypeId} {sl : List Int} (h : w.ownsRow 0 e 2 (.slice (some ⟨g, 0, none⟩) 32 cap) 32 (vals .i64 sl)) (hl : sl.length = 64) : Rows2 w g sl :=
 ⟨fun k hk => by rw [World.ownsRow.cellAt h _ (by omega), vals_at _ _ _ (by omega), Nat.mul_comm], fun k hk => by rw [World.ownsRow.cellAt h _ (by omega), vals_at _ _ _ (by omega), Nat.mul_comm]⟩
theorem specFault_yes (b off c : Nat) (raw : List Int) (number : Int) (w : World) (hB : IsB raw) (hl : raw.length = 4096) (hv : Rd .u8 w (.slice (some ⟨b, off, none⟩) 4096 c) raw) :
  Calls Tryz.prog 40 #[.slice (some ⟨b, off, none⟩) 4096 c, .int .i64 number] w fun e w' => e = .returned (.int .i64 (pageFault raw number)) ∧ Same w w' := by
 have HNu := (show Hid (∀ wx, Same w wx → ∀ o n : Nat, 1 ≤ n → o + n ≤ 4096 → Calls Tryz.prog 52 #[.slice (some ⟨b, off, none⟩) 4096 c, .int .i64 o, .int .i64 n] wx fun e w' => e = .returned (.int .i64 (numAt raw o n)) ∧ Same wx w') from fun wx h o n h1 ho =>
  l3Number_any b off 4096 c raw o n wx hB hl (by decide) h1 ho (hv.same h))
 have HBo := (show Hid (∀ wx, Same w wx → Calls Tryz.prog 53 #[.slice (some ⟨b, off, none⟩) 4096 c] wx fun e w' => e = .returned (.int .i64 (numAt raw 16 2)) ∧ Same wx w') from fun wx h => l3Bottom_any b off c raw wx hB hl (hv.same h))
 have HSl := (show Hid (_) from fun wx (h : Same w wx) => l3Slots_any b off c raw wx hB hl (hv.same h))
 have HSm := (show Hid (Small (slotsOf raw)) from slotsOf_small raw hB hl)
 have hcell : ∀ i, i < 4096 → w.cell? ⟨b, off + i, none⟩ = some (.int .u8 (raw.getD i 0)) := by
  rcases hv.2 with ⟨h0, _⟩ | ⟨b', o', c', e, _, hc⟩
  ·rw [h0] at hl; simp at hl
  ·simp only [Value.slice.injEq, Option.some.injEq, Addr.mk.injEq] at e
   obtain ⟨⟨rfl, rfl, _⟩, _, rfl⟩ := e
   intro i hi
   exact hc i (by omega)
 have q18 := hcell 18 (by decide)
 have q19 := hcell 19 (by decide)
 have HF := (show Hid (pageFault raw number = if numAt raw 12 4 ≠ number then 2 else if (decide (numAt raw 4 8 < 0) || decide (1099511627776 < numAt raw 4 8) || raw.getD 18 0 != 0 || raw.getD 19 0 != 0) = true then 3 else if numAt raw 16 2 < 148 ∨ 4096 < numAt raw 16 2 then 4 else if astray (numAt raw 16 2) (slotsOf raw) then 5 else if share (slotsOf raw) then 6 else 0) from
  (by unfold pageFault faultP; rw [if_neg (by simp [hl]), headBad_raw raw hB hl] : pageFault raw number = _))
 obtain ⟨F, hFe⟩ : ∃ F, pageFault raw number = F := ⟨_, rfl⟩
 rw [hFe] at HF ⊢
 have hn4 := HNu.out w (Kept.refl _ _) 12 4 (by decide) (by decide)
 have hn8 := fun wx h => HNu.out wx h 4 8 (by decide) (by decide)
 generalize numAt raw 12 4 = num at *
 generalize numAt raw 4 8 = lsn at *
 generalize numAt raw 16 2 = bot at *
 generalize raw.getD 18 0 = r18 at *
 generalize raw.getD 19 0 = r19 at *
 have hsl64 := slotsOf_length raw
 generalize slotsOf raw = sl at *
 clear hcell hFe hv hB HNu hl
 by_cases h2 : num = number
 ·have h5 := HF.out
  rw [if_neg (by simp [h2])] at h5
  have h2b : (num != number) = false := by simp [h2]
  clear HF h2
  go_enter Tryz.func40, Tryz.ntmps40
  have HF := (show Hid (F = _) from h5)
  clear h5
  go_upto_region 5 with (go_at_call 52; refine hn4.mono ?_; rintro e w1 ⟨rfl, hk1⟩; have hn8' := hn8 w1 hk1; clear hn4 hn8)
  go_wp2_with fail
  refine hn8'.mono ?_
  rintro e w2 ⟨rfl, hk2⟩
  have HK2 := hid (hk1.trans hk2)
  have k18 := HK2.out.cellOf q18 id
  have k19 := HK2.out.cellOf q19 id
  clear hn8' hk1 hk2 q18 q19
  by_cases a1 : lsn < 0
  ·obtain rfl : F = 3 := by have h := HF.out; rw [if_pos (by simp [a1])] at h; exact h
   clear HF
   go_wp2
   go_ret
   exact ⟨rfl, HK2.out⟩
  by_cases a2 : 1099511627776 < lsn
  ·obtain rfl : F = 3 := by have h := HF.out; rw [if_pos (by simp [a2])] at h; exact h
   clear HF
   go_wp2
   go_ret
   exact ⟨rfl, HK2.out⟩
  by_cases a3 : r18 = 0
  ·by_cases a4 : r19 = 0
   ·have HF2 := (show Hid (F = if bot < 148 ∨ 4096 < bot then 4 else if astray bot sl then 5 else if share sl then 6 else 0) from (by have h := HF.out; rw [if_neg (by simp [a1, a2, a3, a4] <;> omega)] at h; exact h : F = _))
    have b3 : (r18 != 0) = false := by simp [a3]
    have b4 : (r19 != 0) = false := by simp [a4]
    have hbo := HBo.out w2 HK2.out
    clear HF a3 a4
    by_cases a5 : bot < 148
    ·obtain rfl : F = 4 := by have h := HF2.out; rw [if_pos (.inl a5)] at h; exact h
     clear HF2
     go_wp2_with (go_at_call 53; refine hbo.mono ?_; rintro e w3 ⟨rfl, hk3⟩; have HK3 := (show Hid (Same w w3) from HK2.out.trans hk3); have hsl := HSl.out w3 HK3.out; clear hk3 hbo)
     go_ret
     exact ⟨rfl, HK3.out⟩
    by_cases a6 : 4096 < bot
    ·obtain rfl : F = 4 := by have h := HF2.out; rw [if_pos (.inr a6)] at h; exact h
     clear HF2
     go_wp2_with (go_at_call 53; refine hbo.mono ?_; rintro e w3 ⟨rfl, hk3⟩; have HK3 := (show Hid (Same w w3) from HK2.out.trans hk3); have hsl := HSl.out w3 HK3.out; clear hk3 hbo)
     go_ret
     exact ⟨rfl, HK3.out⟩
    have HF3 := (show Hid (F = if astray bot sl then 5 else if share sl then 6 else 0) from (by have h := HF2.out; rw [if_neg (by omega)] at h; exact h : F = _))
    clear HF2
    go_wp2_with (first | (go_at_call 53; refine hbo.mono ?_; rintro e w3 ⟨rfl, hk3⟩; have HK3 := (show Hid (Same w w3) from HK2.out.trans hk3); have hsl := HSl.out w3 HK3.out; clear hk3 hbo) | (go_at_call 54; refine hsl.mono ?_; rintro e w4 ⟨g, cap, rfl, hg, hown, hk4⟩; have HK4 := (show Hid (Same w w4) from HK3.out.trans hk4); have HR4 := (show Hid (Rows2 w4 g sl) from rows2_of hown hsl64); have hgl := (World.ownsRow.lt hown g rfl).2; clear hk4 hown hsl))
    go_loopw [8, 9] (fun i _ wr => ∃ k : Nat, k ≤ 32 ∧ i = .int .i64 k ∧ Hid (∀ j < k, astrayAt bot (sl.getD (2 * j) 0) (sl.getD (2 * j + 1) 0) = false) ∧ Hid (Same w4 wr)) (fun i _ _ => 32 - (intOf i).toNat)
    case atStart => exact ⟨0, by omega, rfl, fun j hj => by omega, Kept.refl _ _⟩
    case round =>
     obtain ⟨k, hk, rfl, HAl, HKr⟩ := hrel
     by_cases hlt : k < 32
     ·have hk2 : (k : Int) < 32 := by omega
      have c0 := (HR4.out.kept HKr.out id).at0 k hlt
      have c1 := (HR4.out.kept HKr.out id).at1 k hlt
      have hxb := HSm.out.at (2 * k)
      have hyb := HSm.out.at (2 * k + 1)
      have HYes := (show Hid (astrayAt bot (sl.getD (2 * k) 0) (sl.getD (2 * k + 1) 0) = true → F = 5) from fun h => by rw [HF3.out, astray_yes bot sl k hlt h, if_pos rfl])
      have HNo := (show Hid (astrayAt bot (sl.getD (2 * k) 0) (sl.getD (2 * k + 1) 0) = false → ∀ j < k + 1, astrayAt bot (sl.getD (2 * j) 0) (sl.getD (2 * j + 1) 0) = false) from fun h j hj => by
       by_cases e : j = k
       ·rw [e]; exact h
       ·exact HAl.out j (by omega))
      generalize sl.getD (2 * k) 0 = x at *
      generalize sl.getD (2 * k + 1) 0 = y at *
      by_cases hx0 : x = 0
      ·have hx0b : (x != 0) = false := by rw [hx0]; rfl
       have hx0e : (x == 0) = true := by rw [hx0]; rfl
       by_cases hy0 : y = 0
       ·have hAt : astrayAt bot x y = false := by simp [astrayAt, hx0, hy0]
        have hyb0 : (y != 0) = false := by rw [hy0]; rfl
        clear hx0 hy0
        go_wp2
        go_roundw
        case rel => exact ⟨k + 1, by omega, by go_num, HNo.out hAt, HKr.out.alloc _⟩
        case measure => simp [intOf]; omega
       ·have hAt : astrayAt bot x y = true := by simp [astrayAt, hx0, hy0]
        have hyb0 : (y != 0) = true := by simp [hy0]
        obtain rfl := HYes.out hAt
        clear hx0 hy0 HF3
        go_wp2
        go_ret
        exact ⟨rfl, HK4.out.trans (HKr.out.alloc _)⟩
      ·have hx0b : (x != 0) = true := by simp [hx0]
       have hx0e : (x == 0) = false := by simp [hx0]
       by_cases hL : 1000 < y
       ·have hAt : astrayAt bot x y = true := by simp [astrayAt, hx0, hL]
        obtain rfl := HYes.out hAt
        clear HF3
        go_wp2
        go_ret
        exact ⟨rfl, HK4.out.trans (HKr.out.alloc _)⟩
       ·by_cases hO : x < bot
        ·have hAt : astrayAt bot x y = true := by simp [astrayAt, hx0, hO]
         obtain rfl := HYes.out hAt
         clear HF3
         go_wp2
         go_ret
         exact ⟨rfl, HK4.out.trans (HKr.out.alloc _)⟩
        ·by_cases hE : 4096 < x + y
         ·have hAt : astrayAt bot x y = true := by simp [astrayAt, hx0, hE]
          obtain rfl := HYes.out hAt
          clear HF3
          go_wp2
          go_ret
          exact ⟨rfl, HK4.out.trans (HKr.out.alloc _)⟩
         ·have hAt : astrayAt bot x y = false := by simp [astrayAt, hx0]; omega
          go_wp2
          go_roundw
          case rel => exact ⟨k + 1, by omega, by go_num, HNo.out hAt, HKr.out.alloc _⟩
          case measure => simp [intOf]; omega
     ·obtain rfl : k = 32 := by omega
      have HF4 := (show Hid (F = if share sl then 6 else 0) from (by have h := HF3.out; rw [astray_no bot sl HAl.out, if_neg (by decide)] at h; exact h : F = _))
      clear HF3
      obtain ⟨i0, hi, hz0, hz1, hz2⟩ := info_parts infoBool
      have HIn := (show Hid (∀ m < 32, 0 ≤ sl.getD (2 * m) 0 ∧ 0 ≤ sl.getD (2 * m + 1) 0 ∧ sl.getD (2 * m) 0 + sl.getD (2 * m + 1) 0 ≤ 4096) from fun m hm => by
       have h0 := HSm.out.at (2 * m)
       have h1 := HSm.out.at (2 * m + 1)
       rcases not_astray _ _ _ (HAl.out m hm) with h | h <;> omega)
      have hwr := HKr.out.size
      go_wp2_with (at_make; (refine wpList_make_full _ rfl _ _ 87 rfl 0 4 i0 (.bool false) 1 Tryz.underlying87 hi hz0 hz1 .i64 .i64 _ _ 4096 rfl rfl (by first | rfl | simp) (by first | rfl | simp) (by rw [hz2]; decide) (by decide) (Nat.zero_le _) ?_); intro w5 hown5 hgrow5; have HB5 := (show Hid (Blk w5 wr.heap.size 4 ((List.replicate 4096 false).map Value.bool)) from (by have h := owns_blk hown5; rw [made_bools 4096] at h; exact h)); have HK5 := (show Hid (Same wr w5) from Kept.of_grown hgrow5 (fun k e => by cases e)); clear hown5 hgrow5)
      obtain ⟨go, hgo⟩ : ∃ go, wr.heap.size = go := ⟨_, rfl⟩
      rw [hgo] at HB5 ⊢
      have hgo2 : g < go := by omega
      have HR5 := (show Hid (Rows2 w5 g sl) from HR4.out.kept (HKr.out.trans HK5.out) id)
      have HKw5 := (show Hid (Same w w5) from HK4.out.trans (HKr.out.trans HK5.out))
      have hgw : w.heap.size ≤ go := by have := HK4.out.size; omega
      clear hgo hwr HAl HR4 HKr HK5
      go_loopw [11, 12] (fun i _ wq => ∃ (k : Nat) (os : List Bool), k ≤ 32 ∧ i = .int .i64 k ∧ Hid (os.length = 4096) ∧ Hid (Blk wq go 4 (os.map Value.bool)) ∧ Hid (∀ p < 4096, os.getD p false = true ↔ ∃ m < k, inSlot sl m p) ∧ Hid (∀ i < k, ∀ j < i, shareAt sl i j = false) ∧ Hid (Kept (fun b => b = go) w5 wq)) (fun i _ _ => 32 - (intOf i).toNat)
      case atStart =>
       refine ⟨0, _, by omega, rfl, List.length_replicate, HB5, ?_, fun i hi => by omega, Kept.refl _ _⟩
       intro p hp
       constructor
       ·intro h
        simp only [List.getD, List.getElem?_replicate, hp, if_true, Option.getD_some] at h
        cases h
       ·rintro ⟨m, hm, _⟩
        omega
      case round =>
       obtain ⟨k, os, hk, rfl, HLo, HBo2, HOw, HSh, HKq⟩ := hrel
       by_cases hlt : k < 32
       ·have hk2 : (k : Int) < 32 := by omega
        have c0 := (HR5.out.kept HKq.out (by omega)).at0 k hlt
        have c1 := (HR5.out.kept HKq.out (by omega)).at1 k hlt
        obtain ⟨hx0, hy0, hxy⟩ := HIn.out k hlt
        have HSk := (show Hid (∀ p, inSlot sl k p ↔ sl.getD (2 * k) 0 ≤ (p : Int) ∧ (p : Int) < sl.getD (2 * k) 0 + sl.getD (2 * k + 1) 0) from fun p => Iff.rfl)
        obtain ⟨x, hxe⟩ : ∃ x0 : Nat, sl.getD (2 * k) 0 = x0 := ⟨(sl.getD (2 * k) 0).toNat, by omega⟩
        obtain ⟨y, hye⟩ : ∃ y0 : Nat, sl.getD (2 * k + 1) 0 = y0 := ⟨(sl.getD (2 * k + 1) 0).toNat, by omega⟩
        have HXY := (show Hid (sl.getD (2 * k) 0 = (x : Int) ∧ sl.getD (2 * k + 1) 0 = (y : Int)) from ⟨hxe, hye⟩)
        rw [hxe, hye] at hxy HSk
        rw [hxe] at c0 hx0
        rw [hye] at c1 hy0
        clear hxe hye
        go_wp2_with fail
        go_loopw [12] (fun q wi => ∃ (q0 : Nat) (os' : List Bool), x ≤ q0 ∧ q0 ≤ x + y ∧ q = .int .i64 q0 ∧ Hid (os'.length = 4096) ∧ Hid (Blk wi go 4 (os'.map Value.bool)) ∧ Hid (∀ p < 4096, os'.getD p false = true ↔ (∃ m < k, inSlot sl m p) ∨ (x ≤ p ∧ p < q0)) ∧ Hid (∀ p, x ≤ p → p < q0 → ¬ ∃ m < k, inSlot sl m p) ∧ Hid (Kept (fun b => b = go) w5 wi)) (fun q _ => x + y - (intOf q).toNat)
        case atStart =>
         refine ⟨x, os, by omega, by omega, rfl, HLo, HBo2, fun p hp => ?_, fun p h1 h2 => by omega, HKq⟩
         rw [HOw.out p hp]
         constructor
         ·exact .inl
         ·rintro (h | h)
          ·exact h
          ·omega
        case round =>
         obtain ⟨q, os', hq1, hq2, rfl, HL', HB', HO', HN', HK'⟩ := hrel
         have d0 := (HR5.out.kept HK'.out (by omega)).at0 k hlt
         have d1 := (HR5.out.kept HK'.out (by omega)).at1 k hlt
         have HSq := (show Hid (sl.getD (2 * k) 0 = (x : Int) ∧ sl.getD (2 * k + 1) 0 = (y : Int)) from HXY.out)
         rw [HSq.out.1] at d0
         rw [HSq.out.2] at d1
         by_cases hql : q < x + y
         ·have hq3 : (q : Int) < (x : Int) + (y : Int) := by omega
          have hq4 : (q : Int) < 4096 := by omega
          have hqn : q < 4096 := by omega
          have f1 := HB'.out.frozen q
          have c9 := HB'.out.cell q
          have e9 : (os'.map Value.bool)[q]? = some (.bool (os'.getD q false)) := by simp [List.getD, List.getElem?_eq_getElem (show q < os'.length by rw [HL'.out]; exact hqn)]
          rw [e9] at c9
          clear e9
          by_cases ho : os'.getD q false = true
          ·rw [ho] at c9
           have hin := (HO'.out q hqn).1 ho
           obtain ⟨m, hm, him⟩ : ∃ m < k, inSlot sl m q := by
            rcases hin with h | h
            ·exact h
            ·omega
           obtain rfl : F = 6 := by
            have h := HF4.out
            rw [share_yes sl k m hlt hm (share_of_in sl k m q ((HSk.out q).2 ⟨by omega, by omega⟩) him), if_pos rfl] at h
            exact h
           clear HF4 hin him
           go_wp2
           go_quiet (fail)
           go_wp2
           go_ret
           exact ⟨rfl, (HKw5.out.next HK'.out (fun i hi e => by omega)).drewN _⟩
          ·have hof : os'.getD q false = false := by simpa using ho
           rw [hof] at c9
           have hni : ¬ ∃ m < k, inSlot sl m q := fun h => ho ((HO'.out q hqn).2 (.inl h))
           have HNi := (show Hid (¬ ∃ m < k, inSlot sl m q) from hni)
           clear ho hof hni
           go_wp2
           go_quiet (fail)
           go_wp2
           go_roundw
           case rel =>
            refine ⟨q + 1, os'.set q true, by omega, by omega, by go_num, by rw [List.length_set]; exact HL'.out, ?_, fun p hp => ?_, fun p h1 h2 => ?_, ?_⟩
            ·rw [List.map_set]
             first
              | exact (HB'.out.same ((Kept.refl _ _).drewN _)).stored q (.bool true)
              | exact (HB'.out.stored q (.bool true)).same ((Kept.refl _ _).drewN _)
            ·by_cases e : p = q
             ·subst e
              simp only [List.getD, List.getElem?_set, HL'.out, hp, if_true, Option.getD_some, true_iff]
              exact .inr ⟨by omega, by omega⟩
             ·have hg : (os'.set q true).getD p false = os'.getD p false := by simp [List.getD, List.getElem?_set_ne (show q ≠ p from fun h => e h.symm)]
              rw [hg, HO'.out p hp]
              constructor
              ·rintro (h | h)
               ·exact .inl h
               ·exact .inr ⟨h.1, by omega⟩
              ·rintro (h | h)
               ·exact .inl h
               ·exact .inr ⟨h.1, by omega⟩
            ·by_cases e : p = q
             ·rw [e]; exact HNi.out
             ·exact HN'.out p h1 (by omega)
            ·first
              | exact Kept.setCell (R := fun b => b = go) (HK'.out.drewN _) (.inr rfl) _
              | exact (Kept.setCell (R := fun b => b = go) HK'.out (.inr rfl) _).drewN _
           case measure => simp [intOf]; omega
         ·obtain rfl : q = x + y := by omega
          have hq3 : ¬ ((x + y : Nat) : Int) < (x : Int) + (y : Int) := by omega
          go_wp2
          go_quiet (fail)
          go_wp2
          go_roundw
          case rel =>
           refine ⟨k + 1, os', by omega, by go_num, HL', ?_, fun p hp => ?_, fun i hi j hj => ?_, HK'.out.drewN _⟩
           ·exact HB'.out.same ((Kept.refl _ _).drewN _)
           ·rw [HO'.out p hp]
            constructor
            ·rintro (⟨m, hm, h⟩ | h)
             ·exact ⟨m, by omega, h⟩
             ·exact ⟨k, by omega, (HSk.out p).2 ⟨by omega, by omega⟩⟩
            ·rintro ⟨m, hm, h⟩
             by_cases e : m = k
             ·rw [e] at h
              have := (HSk.out p).1 h
              exact .inr ⟨by omega, by omega⟩
             ·exact .inl ⟨m, by omega, h⟩
           ·by_cases e : i = k
            ·rw [e] at hj ⊢
             rw [← Bool.not_eq_true]
             intro hs
             obtain ⟨p, h1, h2⟩ := in_of_share sl k j (HIn.out k hlt).1 (HIn.out j (by omega)).1 hs
             have h3 := (HSk.out p).1 h1
             exact HN'.out p (by omega) (by omega) ⟨j, hj, h2⟩
            ·exact HSh.out i (by omega) j hj
          case measure => simp [intOf]; omega
       ·obtain rfl : k = 32 := by omega
        obtain rfl : F = 0 := by have h := HF4.out; rw [share_no sl HSh.out, if_neg (by decide)] at h; exact h
        clear HF4
        go_wp2
        go_ret
        exact ⟨rfl, HKw5.out.next HKq.out (fun i hi e => by omega)⟩
   ·obtain rfl : F = 3 := by have h := HF.out; rw [if_pos (by simp [a4])] at h; exact h
    have b3 : (r18 != 0) = false := by simp [a3]
    have b4 : (r19 != 0) = true := by simp [a4]
    clear HF a3 a4
    go_wp2
    go_ret
    exact ⟨rfl, HK2.out⟩
  ·obtain rfl : F = 3 := by have h := HF.out; rw [if_pos (by simp [a3])] at h; exact h
   have b3 : (r18 != 0) = true := by simp [a3]
   clear HF a3
   go_wp2
   go_ret
   exact ⟨rfl, HK2.out⟩
 ·have h2b : (num != number) = true := by simp [h2]
  obtain rfl : F = 2 := by have h := HF.out; rw [if_pos h2] at h; exact h
  clear HF h2
  go_enter Tryz.func40, Tryz.ntmps40
  go_wp2_with (go_at_call 52; refine hn4.mono ?_; rintro e w1 ⟨rfl, hk1⟩; clear hn4)
  go_ret
  exact ⟨rfl, hk1⟩
theorem specFault_any (v : Value) (raw : List Int) (number : Int) (w : World) (hB : IsB raw) (hn : raw.length ≤ 1099511627776) (hv : Rd .u8 w v raw) :
  Calls Tryz.prog 40 #[v, .int .i64 number] w fun e w' => e = .returned (.int .i64 (pageFault raw number)) ∧ Same w w' := by
 obtain ⟨a, c, rfl⟩ := hv.form
 by_cases hl : raw.length = 4096
 ·obtain ⟨b, off, rfl, hc⟩ := rd_some hv (by omega)
  rw [hl] at hv ⊢
  exact specFault_yes b off c raw number w hB hl hv
 ·have hR : pageFault raw number = 1 := by unfold pageFault; rw [if_pos hl]
  rw [hR]
  have hl' : ¬ (raw.length : Int) = 4096 := by omega
  clear hv hB
  go_enter Tryz.func40, Tryz.ntmps40
  go_wp2
  go_ret
  exact ⟨rfl, Kept.refl _ _⟩
theorem isSlot_any (s : Int) (w : World) : Calls Tryz.prog 125 #[.int .i64 s] w fun e w' => e = .returned (.bool (decide (0 ≤ s) && decide (s < 32))) ∧ Same w w' := by
 by_cases h : 0 ≤ s
 ·by_cases h2 : s < 32
  ·have h2' : ¬ (32 ≤ s) := by omega
   go_enter Tryz.func125, Tryz.ntmps125
   go_wp2
   go_ret
   exact ⟨by simp [h, h2], Kept.refl _ _⟩
  ·have h2' : (32 ≤ s) := by omega
   go_enter Tryz.func125, Tryz.ntmps125
   go_wp2
   go_ret
   exact ⟨by simp [h, h2], Kept.refl _ _⟩
 ·go_enter Tryz.func125, Tryz.ntmps125
  go_wp2
  go_ret
  exact ⟨by rw [show decide (0 ≤ s) = false from by simp; omega]; rfl, Kept.refl _ _⟩
def isPageB (x : Int) : Bool := decide (0 ≤ x) && decide (x < 16)
set_option maxRecDepth 100000 in
theorem isPage_any (x : Int) (w : World) : Calls Tryz.prog 124 #[.int .i64 x] w fun e w' => e = .returned (.bool (isPageB x)) ∧ Same w w' := by
 unfold isPageB
 by_cases h : 0 ≤ x
 ·by_cases h2 : x < 16
  ·go_enter Tryz.func124, Tryz.ntmps124
   go_wp2
   go_ret
   exact ⟨by simp [h, h2], Kept.refl _ _⟩
  ·go_enter Tryz.func124, Tryz.ntmps124
   go_wp2
   go_ret
   exact ⟨by simp [h]; omega, Kept.refl _ _⟩
 ·go_enter Tryz.func124, Tryz.ntmps124
  go_wp2
  go_ret
  exact ⟨by rw [show decide (0 ≤ x) = false from by simp; omega]; rfl, Kept.refl _ _⟩
def isTxnB (x : Int) : Bool := decide (1 ≤ x) && decide (x ≤ 2147483647)
def isSlotB (x : Int) : Bool := decide (0 ≤ x) && decide (x < 32)
def fitsB (u : Bool) (n : Nat) : Bool := decide (n ≤ 1000) && (u || decide (n = 0))
def headF (txn prev : Int) : Int := if isTxnB txn = false then 3 else if isLSN prev = false then 4 else 0
def placeF (page slot : Int) : Int := if (isPageB page && isSlotB slot) = true then 0 else 5
def orF (a b c : Int) : Int := if a ≠ 0 then a else if b ≠ 0 then b else c
def updF (bu au : Bool) (bn an : Nat) : Int := if (fitsB bu bn && fitsB au an && (bu || au)) = true then 0 else 6
def undF (au : Bool) (an : Nat) (un : Int) : Int := if fitsB au an = false then 6 else if isLSN un = false then 7 else 0
theorem isTxn_any (x : Int) (w : World) : Calls Tryz.prog 121 #[.int .i64 x] w fun e w' => e = .returned (.bool (isTxnB x)) ∧ Same w w' := by
 unfold isTxnB
 by_cases h : 1 ≤ x
 ·by_cases h2 : x ≤ 2147483647
  ·go_enter Tryz.func121, Tryz.ntmps121
   go_wp2
   go_ret
   exact ⟨by simp [h, h2], Kept.refl _ _⟩
  ·go_enter Tryz.func121, Tryz.ntmps121
   go_wp2
   go_ret
   exact ⟨by simp [h]; omega, Kept.refl _ _⟩
 ·go_enter Tryz.func121, Tryz.ntmps121
  go_wp2
  go_ret
  exact ⟨by rw [show decide (1 ≤ x) = false from by simp; omega]; rfl, Kept.refl _ _⟩
theorem fits_any (u : Bool) (a : Option Addr) (n c : Nat) (w : World) (hn : n ≤ maxLen) : Calls Tryz.prog 130 #[.agg #[.bool u, .slice a n c]] w fun e w' => e = .returned (.bool (fitsB u n)) ∧ Same w w' := by
 unfold maxLen at hn
 unfold fitsB
 by_cases h : (n : Int) ≤ 1000
 ·have h1 : n ≤ 1000 := by omega
  cases u with
  | true =>
   go_enter Tryz.func130, Tryz.ntmps130
   go_wp2
   go_ret
   exact ⟨by simp [h1], (Kept.refl _ _).alloc _⟩
  | false =>
   by_cases h0 : n = 0
   ·subst h0
    go_enter Tryz.func130, Tryz.ntmps130
    go_wp2
    go_ret
    exact ⟨by simp, (Kept.refl _ _).alloc _⟩
   ·have h0' : ¬ (n : Int) = 0 := by omega
    go_enter Tryz.func130, Tryz.ntmps130
    go_wp2
    go_ret
    exact ⟨by simp [h0, h1], (Kept.refl _ _).alloc _⟩
 ·have h1 : ¬ n ≤ 1000 := by omega
  go_enter Tryz.func130, Tryz.ntmps130
  go_wp2
  go_ret
  exact ⟨by simp [h1], (Kept.refl _ _).alloc _⟩
theorem headFault_any (txn prev : Int) (w : World) : Calls Tryz.prog 120 #[.agg #[.int .i64 txn, .int .i64 prev]] w fun e w' => e = .returned (.int .i64 (headF txn prev)) ∧ Same w w' := by
 have h1 := fun wx => isTxn_any txn wx
 have h2 := fun wx => isLSN_any prev wx
 have hb := Blk.new w #[.int .i64 txn, .int .i64 prev] 92
 unfold headF
 cases e1 : isTxnB txn with
 | false =>
  rw [e1] at h1
  go_enter Tryz.func120, Tryz.ntmps120
  go_wp2_with (go_at_call 121; refine (h1 _).mono ?_; rintro e w1 ⟨rfl, hk1⟩; have c1 : w1.cell? ⟨w.heap.size, 1, none⟩ = some (.int .i64 prev) := (hb.same hk1).cell 1)
  go_ret
  exact ⟨rfl, ((Kept.refl _ _).alloc _).trans hk1⟩
 | true =>
  rw [e1] at h1
  cases e2 : isLSN prev with
  | false =>
   rw [e2] at h2
   go_enter Tryz.func120, Tryz.ntmps120
   go_wp2_with (first | (go_at_call 121; refine (h1 _).mono ?_; rintro e w1 ⟨rfl, hk1⟩; have c1 : w1.cell? ⟨w.heap.size, 1, none⟩ = some (.int .i64 prev) := (hb.same hk1).cell 1) | (go_at_call 122; refine (h2 _).mono ?_; rintro e w2 ⟨rfl, hk2⟩))
   go_ret
   exact ⟨rfl, (((Kept.refl _ _).alloc _).trans hk1).trans hk2⟩
  | true =>
   rw [e2] at h2
   go_enter Tryz.func120, Tryz.ntmps120
   go_wp2_with (first | (go_at_call 121; refine (h1 _).mono ?_; rintro e w1 ⟨rfl, hk1⟩; have c1 : w1.cell? ⟨w.heap.size, 1, none⟩ = some (.int .i64 prev) := (hb.same hk1).cell 1) | (go_at_call 122; refine (h2 _).mono ?_; rintro e w2 ⟨rfl, hk2⟩))
   go_ret
   exact ⟨rfl, (((Kept.refl _ _).alloc _).trans hk1).trans hk2⟩
theorem placeFault_any (page slot : Int) (w : World) : Calls Tryz.prog 123 #[.agg #[.int .i64 page, .int .i64 slot]] w fun e w' => e = .returned (.int .i64 (placeF page slot)) ∧ Same w w' := by
 have h1 := fun wx => isPage_any page wx
 have h2 : ∀ wx, Calls Tryz.prog 125 #[.int .i64 slot] wx fun e w' => e = .returned (.bool (isSlotB slot)) ∧ Same wx w' := fun wx => isSlot_any slot wx
 have hb := Blk.new w #[.int .i64 page, .int .i64 slot] 94
 unfold placeF
 cases e1 : isPageB page with
 | false =>
  rw [e1] at h1
  go_enter Tryz.func123, Tryz.ntmps123
  go_wp2_with (go_at_call 124; refine (h1 _).mono ?_; rintro e w1 ⟨rfl, hk1⟩; have c1 : w1.cell? ⟨w.heap.size, 1, none⟩ = some (.int .i64 slot) := (hb.same hk1).cell 1)
  go_ret
  exact ⟨rfl, ((Kept.refl _ _).alloc _).trans hk1⟩
 | true =>
  rw [e1] at h1
  cases e2 : isSlotB slot with
  | false =>
   rw [e2] at h2
   go_enter Tryz.func123, Tryz.ntmps123
   go_wp2_with (first | (go_at_call 124; refine (h1 _).mono ?_; rintro e w1 ⟨rfl, hk1⟩; have c1 : w1.cell? ⟨w.heap.size, 1, none⟩ = some (.int .i64 slot) := (hb.same hk1).cell 1) | (go_at_call 125; refine (h2 _).mono ?_; rintro e w2 ⟨rfl, hk2⟩))
   go_ret
   exact ⟨rfl, (((Kept.refl _ _).alloc _).trans hk1).trans hk2⟩
  | true =>
   rw [e2] at h2
   go_enter Tryz.func123, Tryz.ntmps123
   go_wp2_with (first | (go_at_call 124; refine (h1 _).mono ?_; rintro e w1 ⟨rfl, hk1⟩; have c1 : w1.cell? ⟨w.heap.size, 1, none⟩ = some (.int .i64 slot) := (hb.same hk1).cell 1) | (go_at_call 125; refine (h2 _).mono ?_; rintro e w2 ⟨rfl, hk2⟩))
   go_ret
   exact ⟨rfl, (((Kept.refl _ _).alloc _).trans hk1).trans hk2⟩
theorem cmpOr_any (g a b c : Int) (B : Nat) (w : World) (h0 : w.cell? ⟨B, 0, none⟩ = some (.int .i64 a)) (h1 : w.cell? ⟨B, 1, none⟩ = some (.int .i64 b)) (h2 : w.cell? ⟨B, 2, none⟩ = some (.int .i64 c)) :
  Calls Tryz.prog 131 #[.slice (some ⟨B, 0, none⟩) 3 3] w fun e w' => e = .returned (.int .i64 (orF a b c)) ∧ Same w w' := by
 unfold orF
 by_cases ha : a = 0
 ·subst ha
  by_cases hb : b = 0
  ·subst hb
   by_cases hc : c = 0
   ·subst hc
    go_enter Tryz.func131, Tryz.ntmps131
    go_wp2
    refine wp_loop_rounds 4 ?_
    rw [rounds_succ]
    go_wp2
    rw [rounds_succ]
    go_wp2
    rw [rounds_succ]
    go_wp2
    rw [rounds_succ]
    go_wp2
    go_ret
    exact ⟨by simp, Kept.refl _ _⟩
   ·go_enter Tryz.func131, Tryz.ntmps131
    go_wp2
    refine wp_loop_rounds 4 ?_
    rw [rounds_succ]
    go_wp2
    rw [rounds_succ]
    go_wp2
    rw [rounds_succ]
    go_wp2
    go_ret
    exact ⟨by simp, Kept.refl _ _⟩
  ·go_enter Tryz.func131, Tryz.ntmps131
   go_wp2
   refine wp_loop_rounds 4 ?_
   rw [rounds_succ]
   go_wp2
   rw [rounds_succ]
   go_wp2
   go_ret
   exact ⟨by simp [hb], Kept.refl _ _⟩
 ·go_enter Tryz.func131, Tryz.ntmps131
  go_wp2
  refine wp_loop_rounds 4 ?_
  rw [rounds_succ]
  go_wp2
  go_ret
  exact ⟨by simp [ha], Kept.refl _ _⟩
def inB (v a b : Int) : Bool := decide (a ≤ v) && decide (v ≤ b)
set_option maxRecDepth 100000 in
theorem l4In_any (v a b : Int) (w : World) : Calls Tryz.prog 18 #[.int .i64 v, .int .i64 a, .int .i64 b] w fun e w' => e = .returned (.bool (inB v a b)) ∧ Same w w' := by
 unfold inB
 by_cases h : a ≤ v
 ·by_cases h2 : v ≤ b
  ·go_enter Tryz.func18, Tryz.ntmps18
   go_wp2
   go_ret
   exact ⟨by simp [h, h2], Kept.refl _ _⟩
  ·go_enter Tryz.func18, Tryz.ntmps18
   go_wp2
   go_ret
   exact ⟨by simp [h]; try omega, Kept.refl _ _⟩
 ·go_enter Tryz.func18, Tryz.ntmps18
  go_wp2
  go_ret
  exact ⟨by rw [show decide (a ≤ v) = false from by simp; omega]; rfl, Kept.refl _ _⟩
end Go.Proofs.YtdgmecmkkddpeaaGreat
