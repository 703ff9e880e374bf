import Derived.Test.YtkmfkiojipkjhaaG06
namespace Go.Proofs.Ytkmfkiojipkjhaa
set_option maxRecDepth 100000
set_option maxHeartbeats 4000000
set_option linter.unusedVariables false
set_option linter.unusedSimpArgs false
open Go.RowKit
def usedN (sl : List Int) : Nat → Int
 | 0 => 0
 | k + 1 => usedN sl k + sl.getD (2 * k + 1) 0
theorem usedN_small (sl : List Int) (h : Small sl) (k : Nat) : 0 ≤ usedN sl k ∧ usedN sl k ≤ 65535 * k := by
 induction k with
 | zero => simp [usedN]
 | succ k ih =>
  have := h.at (2 * k + 1)
  simp only [usedN]
  omega
def pageUsed (raw : List Int) : Int := if ownOK raw = true then usedN (slotsOf raw) 32 else -1
theorem total_any (P : Nat) (sum : List Int) (lsn num bot : Int) (sl raw : List Int) (w : World) (hp : SP w P sum lsn num bot sl raw) (hs : Small sl) :
  Calls Try.prog 58 #[.pointer (some ⟨P, 0, none⟩)] w fun e w' => e = .returned (.int .i64 (usedN sl 32)) ∧ Same w w' := by
 have HP := (show Hid (SP w P sum lsn num bot sl raw) from hp)
 have HSm := (show Hid (Small sl) from hs)
 have HIs := (show Hid ((Try.prog.info? 68).map (·.size) = some (vals .i64 sl).length) from (by rw [vals_length, hp.l2]; exact (by kernel_rfl : (Try.prog.info? 68).map (·.size) = some 64) : (Try.prog.info? 68).map (·.size) = some (vals .i64 sl).length))
 have HRs := (show Hid (w.rangeAt P 7 (vals .i64 sl)) from hp.slRange)
 obtain ⟨ss, hss⟩ : ∃ ss : List Value, vals .i64 sl = ss := ⟨_, rfl⟩
 have HSS := (show Hid (vals .i64 sl = ss) from hss)
 rw [hss] at HIs HRs
 clear hss hp hs
 go_enter Try.func58, Try.ntmps58
 go_wp2_with (refine wpList_load_mid rfl 68 _ rfl P 7 rfl ss _ HRs.out Try.underlying68 rfl HIs.out ?_)
 go_loopw [3, 5, 10] (fun t _ i wr => ∃ k : Nat, k ≤ 32 ∧ t = .int .i64 (usedN sl k) ∧ i = .int .i64 k ∧ Hid (Same w wr)) (fun _ _ i _ => 32 - (intOf i).toNat)
 case atStart => exact ⟨0, by omega, rfl, rfl, Kept.refl _ _⟩
 case round =>
  obtain ⟨k, hk, rfl, rfl, HKr⟩ := hrel
  by_cases hlt : k < 32
  ·have hk2 : (k : Int) < 32 := by omega
   have hix := fun w => slot_at sl HP.out.l2 k hlt w
   rw [HSS.out] at hix
   have hub := usedN_small sl HSm.out k
   have hyb := HSm.out.at (2 * k + 1)
   have HU := (show Hid (usedN sl (k + 1) = usedN sl k + sl.getD (2 * k + 1) 0) from rfl)
   generalize usedN sl k = U at *
   generalize sl.getD (2 * k) 0 = x at *
   generalize sl.getD (2 * k + 1) 0 = y at *
   go_wp2
   go_roundw
   case rel => exact ⟨k + 1, by omega, by rw [HU.out], by go_num, HKr.out.alloc _⟩
   case measure => simp [intOf]; omega
  ·obtain rfl : k = 32 := by omega
   go_wp2
   go_ret
   exact ⟨rfl, HKr.out⟩
theorem implUsed_any (v : Value) (raw : List Int) (w : World) (hB : IsB raw) (hn : raw.length ≤ 1099511627776) (hv : Rd .u8 w v raw) :
  Calls Try.prog 34 #[v] w fun e w' => e = .returned (.int .i64 (pageUsed raw)) ∧ Same w w' := by
 have h := wellFormed_any v raw w hB hn hv
 go_enter Try.func34, Try.ntmps34
 go_wp2_with fail
 refine h.mono ?_
 rintro e w1 ⟨hk, ⟨hok, P, rfl, hP, hsp⟩ | ⟨hno, rfl⟩⟩
 ·have hl : raw.length = 4096 := by unfold ownOK at hok; simp at hok; exact hok.1
  have e : pageUsed raw = usedN (slotsOf raw) 32 := by unfold pageUsed; rw [if_pos hok]
  have ht := total_any P _ _ _ _ _ _ w1 hsp (slotsOf_small raw hB hl)
  clear hsp hok
  go_wp2_with (go_at_call 58; refine ht.mono ?_; rintro e w2 ⟨rfl, hk2⟩)
  go_ret
  first | exact ⟨rfl, hk.trans hk2⟩ | exact ⟨by rw [e]; rfl, hk.trans hk2⟩
 ·have e : pageUsed raw = -1 := by unfold pageUsed; rw [if_neg (by simp [hno])]
  go_wp2
  go_ret
  first | exact ⟨rfl, hk⟩ | exact ⟨by rw [e]; rfl, hk⟩
theorem specUsed_any (v : Value) (raw : List Int) (w : World) (hB : IsB raw) (hn : raw.length ≤ 1099511627776) (hv : Rd .u8 w v raw) :
  Calls Try.prog 33 #[v] w fun e w' => e = .returned (.int .i64 (pageUsed raw)) ∧ Same w w' := by
 have h := l3Own_any v raw w hB hn hv
 by_cases hok : ownOK raw = true
 ·have hl : raw.length = 4096 := by unfold ownOK at hok; simp at hok; exact hok.1
  have e : pageUsed raw = usedN (slotsOf raw) 32 := by unfold pageUsed; rw [if_pos hok]
  obtain ⟨a, c, rfl⟩ := hv.form
  obtain ⟨b, off, rfl, hc⟩ := rd_some hv (by omega)
  rw [hl] at hv h ⊢
  have hS := fun wx (h : Same w wx) => l3Slots_any b off c raw wx hB hl (hv.same h)
  have HSm := (show Hid (Small (slotsOf raw)) from slotsOf_small raw hB hl)
  have hsl64 := slotsOf_length raw
  rw [hok] at h
  rw [e]
  generalize slotsOf raw = sl at *
  clear hv hB hok e
  go_enter Try.func33, Try.ntmps33
  go_wp2_with (first
   | (go_at_call 52; refine h.mono ?_; rintro e w1 ⟨rfl, hk1⟩; have hS' := hS w1 hk1)
   | (go_at_call 53; refine hS'.mono ?_; rintro e w2 ⟨g, cap, rfl, hg, hown, hk2⟩; have HK2 := (show Hid (Same w w2) from hk1.trans hk2); have HR2 := (show Hid (Rows2 w2 g sl) from rows2_of hown hsl64); clear hown hk2 hk1 hS' hS h))
  go_loopw [3, 5] (fun t i wr => ∃ k : Nat, k ≤ 32 ∧ t = .int .i64 (usedN sl k) ∧ i = .int .i64 k ∧ wr = w2) (fun _ i _ => 32 - (intOf i).toNat)
  case atStart => exact ⟨0, by omega, rfl, rfl, rfl⟩
  case round =>
   obtain ⟨k, hk, rfl, rfl, rfl⟩ := hrel
   by_cases hlt : k < 32
   ·have hk2 : (k : Int) < 32 := by omega
    have c1 := HR2.out.at1 k hlt
    have hub := usedN_small sl HSm.out k
    have hyb := HSm.out.at (2 * k + 1)
    have HU := (show Hid (usedN sl (k + 1) = usedN sl k + sl.getD (2 * k + 1) 0) from rfl)
    generalize usedN sl k = U at *
    generalize sl.getD (2 * k + 1) 0 = y at *
    go_wp2
    go_roundw
    case rel => exact ⟨k + 1, by omega, by rw [HU.out], by go_num, by first | rfl | trivial⟩
    case measure => simp [intOf]; omega
   ·obtain rfl : k = 32 := by omega
    go_wp2
    go_ret
    exact ⟨rfl, HK2.out⟩
 ·have hf : ownOK raw = false := by simpa using hok
  have e : pageUsed raw = -1 := by unfold pageUsed; rw [if_neg hok]
  rw [hf] at h
  rw [e]
  clear hv hB hok e
  go_enter Try.func33, Try.ntmps33
  go_wp2_with (go_at_call 52; refine h.mono ?_; rintro e w1 ⟨rfl, hk1⟩)
  go_ret
  exact ⟨rfl, hk1⟩
end Go.Proofs.Ytkmfkiojipkjhaa
