import Derived.Test.YtcnaabjgjmodeaaG05
import Derived.Test.YtcnaabjgjmodeaaG00
import Derived.Test.YtcnaabjgjmodeaaG01
import Derived.Test.YtcnaabjgjmodeaaG02
import Derived.Laws.AppendOwnNone
import Derived.Laws.IdiomCopy
namespace Go.Proofs.Ytcnaabjgjmodeaa
set_option maxRecDepth 100000
set_option maxHeartbeats 4000000
open Go.RowKit
set_option linter.unusedVariables false
set_option linter.unusedSimpArgs false
def usedN (sl : List Int) : Nat → Int
  | 0 => 0
  | k + 1 => usedN sl k + sl.getD (2 * k + 1) 0
theorem usedN_small (sl : List Int) (h : Small sl) (k : Nat) : 0 ≤ usedN sl k ∧ usedN sl k ≤ 65535 * k := by
  induction k with
  | zero => simp [usedN]
  | succ k ih =>
    have := h.at (2 * k + 1)
    simp only [usedN]
    omega
def pageUsed (raw : List Int) : Int := if ownOK raw = true then usedN (slotsOf raw) 32 else -1
theorem total_any (P : Nat) (sum : List Int) (lsn num bot : Int) (sl raw : List Int) (w : World) (hp : SP w P sum lsn num bot sl raw) (hs : Small sl) :
    Calls Try.prog 51 #[.pointer (some ⟨P, 0, none⟩)] w fun e w' => e = .returned (.int .i64 (usedN sl 32)) ∧ Same w w' := by
  have HP := (show Hid (SP w P sum lsn num bot sl raw) from hp)
  have HSm := (show Hid (Small sl) from hs)
  have HIs := (show Hid ((Try.prog.info? 79).map (·.size) = some (vals .i64 sl).length) from (by rw [vals_length, hp.l2]; exact (by kernel_rfl : (Try.prog.info? 79).map (·.size) = some 64) : (Try.prog.info? 79).map (·.size) = some (vals .i64 sl).length))
  have HRs := (show Hid (w.rangeAt P 7 (vals .i64 sl)) from hp.slRange)
  obtain ⟨ss, hss⟩ : ∃ ss : List Value, vals .i64 sl = ss := ⟨_, rfl⟩
  have HSS := (show Hid (vals .i64 sl = ss) from hss)
  rw [hss] at HIs HRs
  clear hss hp hs
  go_enter Try.func51, Try.ntmps51
  go_wp2_with (refine wpList_load_mid rfl 79 _ rfl P 7 rfl ss _ HRs.out Try.underlying79 rfl HIs.out ?_)
  go_loopw [3, 5, 10] (fun t _ i wr => ∃ k : Nat, k ≤ 32 ∧ t = .int .i64 (usedN sl k) ∧ i = .int .i64 k ∧ Hid (Same w wr)) (fun _ _ i _ => 32 - (intOf i).toNat)
  case atStart => exact ⟨0, by omega, rfl, rfl, Kept.refl _ _⟩
  case round =>
    obtain ⟨k, hk, rfl, rfl, HKr⟩ := hrel
    by_cases hlt : k < 32
    · have hk2 : (k : Int) < 32 := by omega
      have hix := fun w => slot_at sl HP.out.l2 k hlt w
      rw [HSS.out] at hix
      have hub := usedN_small sl HSm.out k
      have hyb := HSm.out.at (2 * k + 1)
      have HU := (show Hid (usedN sl (k + 1) = usedN sl k + sl.getD (2 * k + 1) 0) from rfl)
      generalize usedN sl k = U at *
      generalize sl.getD (2 * k) 0 = x at *
      generalize sl.getD (2 * k + 1) 0 = y at *
      go_wp2
      go_roundw
      case rel => exact ⟨k + 1, by omega, by rw [HU.out], by go_num, HKr.out.alloc _⟩
      case measure => simp [intOf]; omega
    · obtain rfl : k = 32 := by omega
      go_wp2
      go_ret
      exact ⟨rfl, HKr.out⟩
theorem implUsed_any (v : Value) (raw : List Int) (w : World) (hB : IsB raw) (hn : raw.length ≤ 1099511627776) (hv : Rd .u8 w v raw) :
    Calls Try.prog 12 #[v] w fun e w' => e = .returned (.int .i64 (pageUsed raw)) ∧ Same w w' := by
  have h := wellFormed_any v raw w hB hn hv
  go_enter Try.func12, Try.ntmps12
  go_wp2_with fail
  refine h.mono ?_
  rintro e w1 ⟨hk, ⟨hok, P, rfl, hP, hsp⟩ | ⟨hno, rfl⟩⟩
  · have hl : raw.length = 4096 := by unfold ownOK at hok; simp at hok; exact hok.1
    have e : pageUsed raw = usedN (slotsOf raw) 32 := by unfold pageUsed; rw [if_pos hok]
    have ht := total_any P _ _ _ _ _ _ w1 hsp (slotsOf_small raw hB hl)
    clear hsp hok
    go_wp2_with (go_at_call 51; refine ht.mono ?_; rintro e w2 ⟨rfl, hk2⟩)
    go_ret
    first | exact ⟨rfl, hk.trans hk2⟩ | exact ⟨by rw [e]; rfl, hk.trans hk2⟩
  · have e : pageUsed raw = -1 := by unfold pageUsed; rw [if_neg (by simp [hno])]
    go_wp2
    go_ret
    first | exact ⟨rfl, hk⟩ | exact ⟨by rw [e]; rfl, hk⟩
theorem specUsed_any (v : Value) (raw : List Int) (w : World) (hB : IsB raw) (hn : raw.length ≤ 1099511627776) (hv : Rd .u8 w v raw) :
    Calls Try.prog 62 #[v] w fun e w' => e = .returned (.int .i64 (pageUsed raw)) ∧ Same w w' := by
  have h := l3Own_any v raw w hB hn hv
  by_cases hok : ownOK raw = true
  · have hl : raw.length = 4096 := by unfold ownOK at hok; simp at hok; exact hok.1
    have e : pageUsed raw = usedN (slotsOf raw) 32 := by unfold pageUsed; rw [if_pos hok]
    obtain ⟨a, c, rfl⟩ := hv.form
    obtain ⟨b, off, rfl, hc⟩ := rd_some hv (by omega)
    rw [hl] at hv h ⊢
    have hS := fun wx (h : Same w wx) => l3Slots_any b off c raw wx hB hl (hv.same h)
    have HSm := (show Hid (Small (slotsOf raw)) from slotsOf_small raw hB hl)
    have hsl64 := slotsOf_length raw
    rw [hok] at h
    rw [e]
    generalize slotsOf raw = sl at *
    clear hv hB hok e
    go_enter Try.func62, Try.ntmps62
    go_wp2_with (first
      | (go_at_call 61; refine h.mono ?_; rintro e w1 ⟨rfl, hk1⟩; have hS' := hS w1 hk1)
      | (go_at_call 49; refine hS'.mono ?_; rintro e w2 ⟨g, cap, rfl, hg, hown, hk2⟩; have HK2 := (show Hid (Same w w2) from hk1.trans hk2); have HR2 := (show Hid (Rows2 w2 g sl) from rows2_of hown hsl64); clear hown hk2 hk1 hS' hS h))
    go_loopw [3, 5] (fun t i wr => ∃ k : Nat, k ≤ 32 ∧ t = .int .i64 (usedN sl k) ∧ i = .int .i64 k ∧ wr = w2) (fun _ i _ => 32 - (intOf i).toNat)
    case atStart => exact ⟨0, by omega, rfl, rfl, rfl⟩
    case round =>
      obtain ⟨k, hk, rfl, rfl, rfl⟩ := hrel
      by_cases hlt : k < 32
      · have hk2 : (k : Int) < 32 := by omega
        have c1 := HR2.out.at1 k hlt
        have hub := usedN_small sl HSm.out k
        have hyb := HSm.out.at (2 * k + 1)
        have HU := (show Hid (usedN sl (k + 1) = usedN sl k + sl.getD (2 * k + 1) 0) from rfl)
        generalize usedN sl k = U at *
        generalize sl.getD (2 * k + 1) 0 = y at *
        go_wp2
        go_roundw
        case rel => exact ⟨k + 1, by omega, by rw [HU.out], by go_num, by first | rfl | trivial⟩
        case measure => simp [intOf]; omega
      · obtain rfl : k = 32 := by omega
        go_wp2
        go_ret
        exact ⟨rfl, HK2.out⟩
  · have hf : ownOK raw = false := by simpa using hok
    have e : pageUsed raw = -1 := by unfold pageUsed; rw [if_neg hok]
    rw [hf] at h
    rw [e]
    clear hv hB hok e
    go_enter Try.func62, Try.ntmps62
    go_wp2_with (go_at_call 61; refine h.mono ?_; rintro e w1 ⟨rfl, hk1⟩)
    go_ret
    exact ⟨rfl, hk1⟩
end Go.Proofs.Ytcnaabjgjmodeaa

namespace Go.Proofs.Ytcnaabjgjmodeaa
set_option maxHeartbeats 400000
open Go.RowKit
theorem l1Copy_any (v : Value) (bs : List Int) (w : World) (hn : bs.length ≤ 1099511627776) (hv : Rd .u8 w v bs) :
    Calls Try.prog 63 #[v] w fun e w' => ∃ a n c, e = .returned (.slice a n c) ∧ Own 0 5 .u8 w' (.slice a n c) bs ∧ (∀ b, (Value.slice a n c).ownBlock = some b → w.heap.size ≤ b) ∧ Same w w' := by
  obtain ⟨i0, hi, hz0, hz1, hz2⟩ := info_parts Try.infoByte'
  rcases hv.2 with ⟨rfl, a, c, rfl, hac⟩ | ⟨b, off, c, rfl, _, hc⟩
  · cases a with
    | none =>
      obtain rfl : c = 0 := hac rfl
      clear hv hn hac
      go_enter Try.func63, Try.ntmps63
      go_wp2_with (at_builtin; refine wpList_append_own_none rfl (.tmp 3) (.tmp 4) 22 rfl w.heap.size 5 i0 1 Try.underlying22 hi _ 0 [] rfl (World.ownsRow_made w #[] 0 (Nat.le_refl _) (by simp) (by simp)) rfl ?_)
      go_ret
      exact ⟨_, _, _, rfl, (World.ownsRow_made w #[] 0 (Nat.zero_le _) (by simp) (by simp)), fun b hb => by simp [Value.ownBlock] at hb; omega, (Kept.refl _ _).alloc _⟩
    | some ad =>
      clear hv hn hac
      go_enter Try.func63, Try.ntmps63
      go_wp2_with (at_builtin; refine wpList_append_own _ rfl (.tmp 3) (.tmp 4) 22 rfl w.heap.size 5 i0 (.int .u8 0) 1 1 Try.underlying22 hi hz0 hz1 hz2 rfl (by decide) (.slice (some ⟨w.heap.size, 0, none⟩) 0 0) 0 [] rfl (World.ownsRow_made w #[] 0 (Nat.le_refl _) (by simp) (by simp)) ad 0 c [] rfl rfl (fun j u h => by simp at h) (fun u h => by simp at h) (by simp) (by simp) (by simp) ?_; intro v' w1 hown1 hgrow1 _; have HF := (show Hid (Own w.heap.size 5 .u8 w1 v' []) from hown1); have HK : Hid (Same w w1) := ((Kept.refl _ _).alloc _).grown hgrow1 (fun k e => .inl (by simp [Value.ownBlock] at e; omega)); obtain ⟨aa, na, ca, rfl⟩ := slice_of_own HF.out; clear hown1 hgrow1)
      go_ret
      exact ⟨_, _, _, rfl, HF.out.mono (fun b _ => Nat.zero_le b), fun b hb => (HF.out.lt b hb).1, HK.out⟩
  · have HC : Hid (∀ i, i < bs.length → (w.alloc (.cells #[] 5)).cell? ⟨b, off + i, none⟩ = some (.int .u8 (bs.getD i 0))) := fun i hi => ((Kept.refl (fun _ => False) w).alloc _).cellOf (hc i hi) id
    clear hv hc
    go_enter Try.func63, Try.ntmps63
    go_wp2_with (at_builtin; refine wpList_append_own _ rfl (.tmp 3) (.tmp 4) 22 rfl w.heap.size 5 i0 (.int .u8 0) 1 1 Try.underlying22 hi hz0 hz1 hz2 rfl (by decide) (.slice (some ⟨w.heap.size, 0, none⟩) 0 0) 0 [] rfl (World.ownsRow_made w #[] 0 (Nat.le_refl _) (by simp) (by simp)) ⟨b, off, none⟩ bs.length c (vals .u8 bs) rfl (by simp [vals_length]) (news_of HC.out) vals_one (by unfold maxLen; omega) (by omega) (by simp) ?_; intro v' w1 hown1 hgrow1 _; have HF := (show Hid (Own w.heap.size 5 .u8 w1 v' bs) from (by simpa [Own, Hid] using hown1)); have HK : Hid (Same w w1) := ((Kept.refl _ _).alloc _).grown hgrow1 (fun k e => .inl (by simp [Value.ownBlock] at e; omega)); obtain ⟨aa, na, ca, rfl⟩ := slice_of_own HF.out; clear hown1 hgrow1)
    go_ret
    exact ⟨_, _, _, rfl, HF.out.mono (fun b _ => Nat.zero_le b), fun b hb => (HF.out.lt b hb).1, HK.out⟩
theorem clone_any (v : Value) (bs : List Int) (w : World) (hn : bs.length ≤ 1099511627776) (hv : Rd .u8 w v bs) :
    Calls Try.prog 54 #[v] w fun e w' => ∃ a n c, e = .returned (.slice a n c) ∧ Own 0 5 .u8 w' (.slice a n c) bs ∧ (∀ b, (Value.slice a n c).ownBlock = some b → w.heap.size ≤ b) ∧ Same w w' := by
  obtain ⟨i0, hi, hz0, hz1, hz2⟩ := info_parts Try.infoByte'
  have hnil := fun (wx : World) (a : Option Addr) (n c : Nat) => Lib.run_eql_slice_nil (P := Try.prog) wx 22 5 a n c 0 0 Try.underlying22
  rcases hv.2 with ⟨rfl, a, c, rfl, hac⟩ | ⟨b, off, c, rfl, _, hc⟩
  · cases a with
    | none =>
      obtain rfl : c = 0 := hac rfl
      clear hv hn hac
      go_enter Try.func54, Try.ntmps54
      go_wp2
      go_ret
      exact ⟨_, _, _, rfl, Own.nil _ _ _ _, fun b hb => by simp [Value.ownBlock] at hb, Kept.refl _ _⟩
    | some ad =>
      clear hv hn hac
      go_enter Try.func54, Try.ntmps54
      go_wp2_with (at_builtin; refine wpList_append_own _ rfl (.tmp 5) (.tmp 6) 22 rfl w.heap.size 5 i0 (.int .u8 0) 1 1 Try.underlying22 hi hz0 hz1 hz2 rfl (by decide) (.slice (some ⟨w.heap.size, 0, none⟩) 0 0) 0 [] rfl (World.ownsRow_made w #[] 0 (Nat.le_refl _) (by simp) (by simp)) ad 0 c [] rfl rfl (fun j u h => by simp at h) (fun u h => by simp at h) (by simp) (by simp) (by simp) ?_; intro v' w1 hown1 hgrow1 _; have HF := (show Hid (Own w.heap.size 5 .u8 w1 v' []) from hown1); have HK : Hid (Same w w1) := ((Kept.refl _ _).alloc _).grown hgrow1 (fun k e => .inl (by simp [Value.ownBlock] at e; omega)); obtain ⟨aa, na, ca, rfl⟩ := slice_of_own HF.out; clear hown1 hgrow1)
      go_ret
      exact ⟨_, _, _, rfl, HF.out.mono (fun b _ => Nat.zero_le b), fun b hb => (HF.out.lt b hb).1, HK.out⟩
  · have HC : Hid (∀ i, i < bs.length → (w.alloc (.cells #[] 5)).cell? ⟨b, off + i, none⟩ = some (.int .u8 (bs.getD i 0))) := fun i hi => ((Kept.refl (fun _ => False) w).alloc _).cellOf (hc i hi) id
    clear hv hc
    go_enter Try.func54, Try.ntmps54
    go_wp2_with (at_builtin; refine wpList_append_own _ rfl (.tmp 5) (.tmp 6) 22 rfl w.heap.size 5 i0 (.int .u8 0) 1 1 Try.underlying22 hi hz0 hz1 hz2 rfl (by decide) (.slice (some ⟨w.heap.size, 0, none⟩) 0 0) 0 [] rfl (World.ownsRow_made w #[] 0 (Nat.le_refl _) (by simp) (by simp)) ⟨b, off, none⟩ bs.length c (vals .u8 bs) rfl (by simp [vals_length]) (news_of HC.out) vals_one (by unfold maxLen; omega) (by omega) (by simp) ?_; intro v' w1 hown1 hgrow1 _; have HF := (show Hid (Own w.heap.size 5 .u8 w1 v' bs) from (by simpa [Own, Hid] using hown1)); have HK : Hid (Same w w1) := ((Kept.refl _ _).alloc _).grown hgrow1 (fun k e => .inl (by simp [Value.ownBlock] at e; omega)); obtain ⟨aa, na, ca, rfl⟩ := slice_of_own HF.out; clear hown1 hgrow1)
    go_ret
    exact ⟨_, _, _, rfl, HF.out.mono (fun b _ => Nat.zero_le b), fun b hb => (HF.out.lt b hb).1, HK.out⟩
end Go.Proofs.Ytcnaabjgjmodeaa

namespace Go.Proofs.Ytcnaabjgjmodeaa
set_option maxRecDepth 100000
set_option maxHeartbeats 4000000
open Go.RowKit
set_option linter.unusedVariables false
set_option linter.unusedSimpArgs false
theorem ownOK_len {raw : List Int} (h : ownOK raw = true) : raw.length = 4096 := by unfold ownOK at h; simp at h; exact h.1
theorem ownOK_parts {raw : List Int} (h : ownOK raw = true) : 148 ≤ numAt raw 16 2 ∧ numAt raw 16 2 ≤ 4096 ∧ astray (numAt raw 16 2) (slotsOf raw) = false ∧ share (slotsOf raw) = false := by
  have hl := ownOK_len h
  unfold ownOK pageFault faultP at h
  simp only [hl, ne_eq, not_true_eq_false, if_false] at h
  simp only [beq_self_eq_true, Bool.true_and] at h
  by_cases h2 : headBad (raw.take 4) (numAt raw 4 8) (numAt raw 12 4) (numAt raw 16 2) (slotsOf raw) raw = true
  · simp [h2] at h
  by_cases h3 : numAt raw 16 2 < 148 ∨ 4096 < numAt raw 16 2
  · simp [h2, h3] at h
  by_cases h4 : astray (numAt raw 16 2) (slotsOf raw) = true
  · simp [h2, h3, h4] at h
  by_cases h5 : share (slotsOf raw) = true
  · simp [h2, h3, h4, h5] at h
  exact ⟨by omega, by omega, by simpa using h4, by simpa using h5⟩
theorem astray_at {bot : Int} {sl : List Int} (h : astray bot sl = false) (k : Nat) (hk : k < 32) : astrayAt bot (sl.getD (2 * k) 0) (sl.getD (2 * k + 1) 0) = false := by
  cases hx : astrayAt bot (sl.getD (2 * k) 0) (sl.getD (2 * k + 1) 0) with
  | false => rfl
  | true => rw [astray_yes bot sl k hk hx] at h; cases h
theorem ownOK_slot {raw : List Int} (h : ownOK raw = true) (k : Nat) (hk : k < 32) : ((slotsOf raw).getD (2 * k) 0 = 0 ∧ (slotsOf raw).getD (2 * k + 1) 0 = 0) ∨
    ((slotsOf raw).getD (2 * k) 0 ≠ 0 ∧ (slotsOf raw).getD (2 * k + 1) 0 ≤ 1000 ∧ 148 ≤ (slotsOf raw).getD (2 * k) 0 ∧ (slotsOf raw).getD (2 * k) 0 + (slotsOf raw).getD (2 * k + 1) 0 ≤ 4096) := by
  obtain ⟨h1, h2, h3, h4⟩ := ownOK_parts h
  rcases not_astray _ _ _ (astray_at h3 k hk) with h | ⟨a, b, c, d⟩
  · exact .inl h
  · exact .inr ⟨a, b, by omega, d⟩
def stretch (raw : List Int) (x y : Int) : List Int := (raw.drop x.toNat).take y.toNat
theorem stretch_length (raw : List Int) (x y : Int) (hl : raw.length = 4096) (hx : 0 ≤ x) (hy : 0 ≤ y) (h : x + y ≤ 4096) : (stretch raw x y).length = y.toNat := by simp [stretch, hl]; omega
theorem SP.rdRaw {w : World} {P : Nat} {sum : List Int} {lsn num bot : Int} {sl raw : List Int} (h : SP w P sum lsn num bot sl raw) (x y : Nat) (c : Nat) (hxy : x + y ≤ 4096) (hc : y ≤ c) : Rd .u8 w (.slice (some ⟨P, 71 + x, none⟩) y c) ((raw.drop x).take y) := by
  have hl : ((raw.drop x).take y).length = y := by simp [h.l3]; omega
  refine ⟨by rw [hl]; unfold maxLen; omega, .inr ⟨P, 71 + x, c, by rw [hl], by rw [hl]; exact hc, fun i hi => ?_⟩⟩
  rw [hl] at hi
  rw [show 71 + x + i = 71 + (x + i) from by omega, h.rawAt (x + i) (by omega)]
  simp [List.getD, List.getElem?_take, List.getElem?_drop, hi]
theorem record_any (P : Nat) (sum : List Int) (lsn num bot : Int) (sl raw : List Int) (x y : Nat) (w : World) (hp : SP w P sum lsn num bot sl raw) (hxy : x + y ≤ 4096) :
    Calls Try.prog 55 #[.pointer (some ⟨P, 0, none⟩), .agg #[.int .i64 x, .int .i64 y]] w fun e w' => ∃ a c, e = .returned (.slice a y c) ∧ Rd .u8 w' (.slice a y c) ((raw.drop x).take y) ∧ Same w w' := by
  have hx : (0 : Int) ≤ x ∧ (x : Int) ≤ 65535 := by omega
  have hy : (0 : Int) ≤ y ∧ (y : Int) ≤ 65535 := by omega
  have HP := (show Hid (SP w P sum lsn num bot sl raw) from hp)
  have hrun : ∀ wx : World, (Instr.sliceAt 65 (.pointer (some ⟨P, 71, none⟩)) (some (.int .i64 (x : Int))) (some (.int .i64 ((x : Int) + (y : Int)))) none).run Try.prog wx = .ok (.slice (some (if 4096 = x then ⟨P, 71, none⟩ else ⟨P, 71 + x, none⟩)) y (4096 - x)) wx := by
    intro wx
    have hal : Try.prog.arrayLen 65 = 4096 := by kernel_rfl
    rw [run_sliceAt_array_lh wx 65 ⟨P, 71, none⟩ (by kernel_rfl) .i64 .i64 x (x + y) (by omega) (by omega) (by rw [hal]; omega), hal]
    have hsz : (sizeOf (Try.prog.elem 65)).run Try.prog wx = .ok 1 wx := by kernel_rfl
    rw [hsz]
    have e1 : ((x : Int) + (y : Int)).toNat - ((x : Int)).toNat = y := by omega
    simp only [Result.andThen, slicedAt, Int.toNat_natCast, Nat.mul_one]
    rw [show ((x : Int) + (y : Int)).toNat - x = y from by omega, addr_add]
  obtain ⟨A, hA⟩ : ∃ A : Addr, (if 4096 = x then ⟨P, 71, none⟩ else ⟨P, 71 + x, none⟩) = A := ⟨_, rfl⟩
  have HA := (show Hid ((if 4096 = x then (⟨P, 71, none⟩ : Addr) else ⟨P, 71 + x, none⟩) = A) from hA)
  rw [hA] at hrun
  clear hp hA
  go_enter Try.func55, Try.ntmps55
  go_wp2_with fail
  have hb1 := Blk.new w #[.int .i64 x, .int .i64 y] 77
  have hk1 : Same w (w.alloc (.cells #[.int .i64 x, .int .i64 y] 77)) := (Kept.refl _ _).alloc _
  obtain ⟨w1, hw1⟩ : ∃ w1, w.alloc (.cells #[.int .i64 x, .int .i64 y] 77) = w1 := ⟨_, rfl⟩
  rw [hw1] at hb1 hk1 ⊢
  clear hw1
  have hSx : ∀ wx, Same w1 wx → (fun wx : World => wx.cell? ⟨w.heap.size, 0, none⟩ = some (.int .i64 x) ∧ wx.cell? ⟨w.heap.size, 1, none⟩ = some (.int .i64 y)) wx := fun wx h => ⟨by rw [(hb1.same h).cell]; rfl, by rw [(hb1.same h).cell]; rfl⟩
  have hS : (fun wx : World => wx.cell? ⟨w.heap.size, 0, none⟩ = some (.int .i64 x) ∧ wx.cell? ⟨w.heap.size, 1, none⟩ = some (.int .i64 y)) w1.drew := by exact hSx _ (Kept.refl _ _).drew
  refine wp_region_V (fun wx : World => wx.cell? ⟨w.heap.size, 0, none⟩ = some (.int .i64 x) ∧ wx.cell? ⟨w.heap.size, 1, none⟩ = some (.int .i64 y)) 8 9 rfl (by kernel_rfl) ?_
  refine tk 0 5 hS ?_
  refine tk 1 6 hS ?_
  refine tk 2 7 hS ?_
  refine tk 3 8 hS ?_
  refine tk 4 9 hS ?_
  refine tk 5 10 hS ?_
  refine wpAnyV_one (i := 6) (by kernel_rfl) rfl (fun K hK => ?_)
  go_simp
  have hc := end_any x y w1.drew hx hy
  with_reducible refine hc.mono ?_
  clear hc
  rintro e w2 ⟨rfl, hkk⟩
  have hkw2 : Same w1 w2 := Kept.trans ((Kept.refl _ _).drew) hkk
  clear hkk
  have hS : (fun wx : World => wx.cell? ⟨w.heap.size, 0, none⟩ = some (.int .i64 x) ∧ wx.cell? ⟨w.heap.size, 1, none⟩ = some (.int .i64 y)) w2 := hSx _ hkw2
  refine hK.out _ _ (fun _ => hS) ?_
  clear hK K
  try simp only [Act.put, sA, s0, sS]
  refine wpAnyV_take (i := 7) (v := .slice (some A) y (4096 - x)) (some 12) rfl rfl (by kernel_rfl) (by kernel_rfl) (by kernel_rfl) (by kernel_rfl) (fun _ _ _ h => h) (Or.inl ⟨by rfl, fun wx hSw => by have h := hrun wx; go_simp⟩) hS ?_
  try simp only [Act.put, sA, s0, sS]
  refine wpAnyV_one (i := 8) (by kernel_rfl) rfl (fun K hK => ?_)
  go_simp
  refine hK.out _ _ (fun h => absurd rfl h) ?_
  clear hK K
  refine wpAnyV_done (by kernel_rfl) ?_
  try simp only [Act.put, sA, s0, sS]
  go_wp2
  go_ret
  refine ⟨_, _, rfl, ?_, hk1.trans hkw2⟩
  have hsp := HP.out.same (hk1.trans hkw2)
  rw [← HA.out]
  by_cases h : 4096 = x
  · obtain rfl : y = 0 := by omega
    rw [if_pos h, List.take_zero]
    exact ⟨by simp, .inl ⟨rfl, _, _, rfl, fun h => by cases h⟩⟩
  · rw [if_neg h]
    exact hsp.rdRaw x y (4096 - x) hxy (by omega)
def pageGet (raw : List Int) (s : Int) : Bool × List Int :=
  if ownOK raw = true ∧ 0 ≤ s ∧ s < 32 ∧ (slotsOf raw).getD (2 * s.toNat) 0 ≠ 0 then (true, stretch raw ((slotsOf raw).getD (2 * s.toNat) 0) ((slotsOf raw).getD (2 * s.toNat + 1) 0)) else (false, [])
theorem pageGet_yes {raw : List Int} {k : Nat} (h : ownOK raw = true) (hk : k < 32) (h0 : (slotsOf raw).getD (2 * k) 0 ≠ 0) : pageGet raw k = (true, stretch raw ((slotsOf raw).getD (2 * k) 0) ((slotsOf raw).getD (2 * k + 1) 0)) := by
  unfold pageGet
  rw [if_pos ⟨h, by omega, by omega, by simpa using h0⟩]
  rfl
theorem pageGet_no {raw : List Int} {s : Int} (h : ownOK raw = false ∨ s < 0 ∨ 32 ≤ s ∨ (slotsOf raw).getD (2 * s.toNat) 0 = 0) : pageGet raw s = (false, []) := by
  unfold pageGet
  rw [if_neg]
  rintro ⟨h1, h2, h3, h4⟩
  rcases h with h | h | h | h
  · rw [h1] at h; cases h
  · omega
  · omega
  · exact h4 h
theorem isSlot_any (s : Int) (w : World) : Calls Try.prog 52 #[.int .i64 s] w fun e w' => e = .returned (.bool (decide (0 ≤ s) && decide (s < 32))) ∧ Same w w' := by
  by_cases h : 0 ≤ s
  · by_cases h2 : s < 32
    · have h2' : ¬ (32 ≤ s) := by omega
      go_enter Try.func52, Try.ntmps52
      go_wp2
      go_ret
      exact ⟨by simp [h, h2], Kept.refl _ _⟩
    · have h2' : (32 ≤ s) := by omega
      go_enter Try.func52, Try.ntmps52
      go_wp2
      go_ret
      exact ⟨by simp [h, h2], Kept.refl _ _⟩
  · go_enter Try.func52, Try.ntmps52
    go_wp2
    go_ret
    exact ⟨by rw [show decide (0 ≤ s) = false from by simp; omega]; rfl, Kept.refl _ _⟩
end Go.Proofs.Ytcnaabjgjmodeaa

namespace Go.Proofs.Ytcnaabjgjmodeaa
open Go.RowKit
set_option linter.unusedVariables false
set_option linter.unusedSimpArgs false
/-! ### Stretches that don't share bytes have room -/
theorem count_or {α : Type} (p q : α → Bool) : ∀ (l : List α), (∀ x ∈ l, ¬ (p x = true ∧ q x = true)) → l.countP (fun x => p x || q x) = l.countP p + l.countP q
  | [], _ => rfl
  | x :: l, h => by
    have ih := count_or p q l (fun y hy => h y (List.mem_cons_of_mem _ hy))
    have hx := h x (List.mem_cons_self ..)
    rw [List.countP_cons, List.countP_cons, List.countP_cons, ih]
    cases hp : p x <;> cases hq : q x <;> simp_all <;> omega
theorem count_mid (a b : Nat) (hab : a ≤ b) : ∀ n, (List.range n).countP (fun x => decide (a ≤ x) && decide (x < b)) = min n b - min n a
  | 0 => by simp
  | n + 1 => by
    rw [List.range_succ, List.countP_append, count_mid a b hab n]
    by_cases h1 : a ≤ n <;> by_cases h2 : n < b <;> simp [h1, h2] <;> omega
def inRec (sl : List Int) (i x : Nat) : Bool := decide ((sl.getD (2 * i) 0).toNat ≤ x) && decide (x < (sl.getD (2 * i) 0 + sl.getD (2 * i + 1) 0).toNat)
def inAny (sl : List Int) : Nat → Nat → Bool
  | 0, _ => false
  | k + 1, x => inAny sl k x || inRec sl k x
theorem inAny_iff (sl : List Int) : ∀ (k x : Nat), inAny sl k x = true ↔ ∃ i, i < k ∧ inRec sl i x = true
  | 0, x => by simp [inAny]
  | k + 1, x => by
    simp only [inAny, Bool.or_eq_true, inAny_iff sl k x]
    constructor
    · rintro (⟨i, hi, h⟩ | h)
      · exact ⟨i, by omega, h⟩
      · exact ⟨k, by omega, h⟩
    · rintro ⟨i, hi, h⟩
      by_cases e : i < k
      · exact .inl ⟨i, e, h⟩
      · obtain rfl : i = k := by omega
        exact .inr h
structure SlOK (sl : List Int) : Prop where
  one : ∀ k, k < 32 → (sl.getD (2 * k) 0 = 0 ∧ sl.getD (2 * k + 1) 0 = 0) ∨ (148 ≤ sl.getD (2 * k) 0 ∧ 0 ≤ sl.getD (2 * k + 1) 0 ∧ sl.getD (2 * k + 1) 0 ≤ 1000 ∧ sl.getD (2 * k) 0 + sl.getD (2 * k + 1) 0 ≤ 4096)
  two : ∀ i j, i < 32 → j < i → ¬ (max (sl.getD (2 * i) 0) (sl.getD (2 * j) 0) < min (sl.getD (2 * i) 0 + sl.getD (2 * i + 1) 0) (sl.getD (2 * j) 0 + sl.getD (2 * j + 1) 0))
theorem SlOK.count {sl : List Int} (h : SlOK sl) : ∀ k, k ≤ 32 → (((List.range 4096).countP (inAny sl k) : Nat) : Int) = usedN sl k
  | 0, _ => by
    have : (List.range 4096).countP (inAny sl 0) = 0 := List.countP_eq_zero.2 (fun x _ => by simp [inAny])
    rw [this]; rfl
  | k + 1, hk => by
    have hd : ∀ x ∈ List.range 4096, ¬ (inAny sl k x = true ∧ inRec sl k x = true) := by
      rintro x _ ⟨h1, h2⟩
      obtain ⟨i, hi, h1⟩ := (inAny_iff sl k x).1 h1
      have h3 := h.two k i (by omega) hi
      simp only [inRec, Bool.and_eq_true, decide_eq_true_eq] at h1 h2
      have h4 := h.one k (by omega)
      have h5 := h.one i (by omega)
      omega
    have e : (fun x => inAny sl (k + 1) x) = fun x => inAny sl k x || inRec sl k x := rfl
    have hc := count_or (inAny sl k) (inRec sl k) (List.range 4096) hd
    have hr : (((List.range 4096).countP (inRec sl k) : Nat) : Int) = sl.getD (2 * k + 1) 0 := by
      have h4 := h.one k (by omega)
      have hm := count_mid (sl.getD (2 * k) 0).toNat (sl.getD (2 * k) 0 + sl.getD (2 * k + 1) 0).toNat (by omega) 4096
      have : (List.range 4096).countP (inRec sl k) = min 4096 (sl.getD (2 * k) 0 + sl.getD (2 * k + 1) 0).toNat - min 4096 (sl.getD (2 * k) 0).toNat := hm
      rw [this]
      omega
    have ih := SlOK.count h k (by omega)
    show (((List.range 4096).countP (fun x => inAny sl k x || inRec sl k x) : Nat) : Int) = usedN sl k + sl.getD (2 * k + 1) 0
    rw [hc]
    omega
theorem SlOK.room {sl : List Int} (h : SlOK sl) (k : Nat) (hk : k ≤ 32) : 0 ≤ usedN sl k ∧ usedN sl k ≤ 3948 := by
  have h1 := h.count k hk
  have h2 : (List.range 4096).countP (inAny sl k) ≤ (List.range 4096).countP (fun x => decide (148 ≤ x) && decide (x < 4096)) := by
    refine List.countP_mono_left (fun x hx hp => ?_)
    obtain ⟨i, hi, h3⟩ := (inAny_iff sl k x).1 hp
    have h4 := h.one i (by omega)
    simp only [inRec, Bool.and_eq_true, decide_eq_true_eq] at h3 ⊢
    omega
  rw [count_mid 148 4096 (by omega) 4096] at h2
  omega
theorem slOK_of {raw : List Int} (hB : IsB raw) (h : ownOK raw = true) : SlOK (slotsOf raw) := by
  have hp := ownOK_parts h
  have hl := ownOK_len h
  have hs := slotsOf_small raw hB hl
  refine ⟨fun k hk => ?_, fun i j hi hj hsh => ?_⟩
  · have h1 := ownOK_slot h k hk
    have h2 := hs.at (2 * k)
    have h3 := hs.at (2 * k + 1)
    rcases h1 with h1 | h1
    · exact .inl h1
    · exact .inr ⟨by omega, by omega, by omega, by omega⟩
  · have h1 := hp.2.2.2
    unfold share at h1
    rw [List.any_eq_false] at h1
    have h2 := h1 i (List.mem_range.2 hi)
    rw [Bool.not_eq_true, List.any_eq_false] at h2
    have h3 := h2 j (List.mem_range.2 hj)
    apply h3
    unfold shareAt sharesB
    simpa using hsh
/-! ### Compacted -/
def layI (xs : List Int) (o : Nat) (ys : List Int) : List Int := xs.take o ++ (ys ++ xs.drop (o + ys.length))
theorem layI_length (xs : List Int) (o : Nat) (ys : List Int) (h : o + ys.length ≤ xs.length) : (layI xs o ys).length = xs.length := by simp [layI]; omega
theorem lay_layI (k : IntKind) (xs ys : List Int) (o : Nat) : lay (vals k xs) o (vals k ys) = vals k (layI xs o ys) := by
  unfold lay layI
  simp [vals]
def cBot (sl : List Int) (k : Nat) : Int := 4096 - usedN sl k
def cSl (sl : List Int) : Nat → List Int
  | 0 => sl
  | k + 1 => if sl.getD (2 * k) 0 = 0 then cSl sl k else (cSl sl k).set (2 * k) (cBot sl (k + 1))
def cBody (raw sl : List Int) : Nat → List Int
  | 0 => List.replicate 4096 0
  | k + 1 => if sl.getD (2 * k) 0 = 0 then cBody raw sl k else layI (cBody raw sl k) (cBot sl (k + 1)).toNat (stretch raw (sl.getD (2 * k) 0) (sl.getD (2 * k + 1) 0))
theorem cSl_length (sl : List Int) : ∀ k, (cSl sl k).length = sl.length
  | 0 => rfl
  | k + 1 => by
    rw [cSl]
    split
    · exact cSl_length sl k
    · rw [List.length_set, cSl_length sl k]
theorem cSl_at (sl : List Int) : ∀ (k j : Nat), 2 * k ≤ j → (cSl sl k).getD j 0 = sl.getD j 0
  | 0, _, _ => rfl
  | k + 1, j, h => by
    rw [cSl]
    split
    · exact cSl_at sl k j (by omega)
    · rw [List.getD_eq_getElem?_getD, List.getElem?_set_ne (by omega), ← List.getD_eq_getElem?_getD]
      exact cSl_at sl k j (by omega)
theorem SlOK.bot {sl : List Int} (h : SlOK sl) (k : Nat) (hk : k ≤ 32) : 148 ≤ cBot sl k ∧ cBot sl k ≤ 4096 := by
  have := h.room k hk
  unfold cBot
  omega
theorem cBot_succ (sl : List Int) (k : Nat) : cBot sl (k + 1) = cBot sl k - sl.getD (2 * k + 1) 0 := by
  unfold cBot
  rw [show usedN sl (k + 1) = usedN sl k + sl.getD (2 * k + 1) 0 from rfl]
  omega
theorem SlOK.body {sl : List Int} (h : SlOK sl) (raw : List Int) (hl : raw.length = 4096) : ∀ k, k ≤ 32 → (cBody raw sl k).length = 4096
  | 0, _ => by rw [cBody, List.length_replicate]
  | k + 1, hk => by
    rw [cBody]
    have ih := SlOK.body h raw hl k (by omega)
    split
    · exact ih
    · have h1 := h.one k (by omega)
      have h2 := h.bot k (by omega)
      have h3 := h.bot (k + 1) hk
      have h4 := cBot_succ sl k
      rw [layI_length, ih]
      rw [stretch_length raw _ _ hl (by omega) (by omega) (by omega), ih]
      omega
def compB (raw : List Int) : List Int := encB (raw.take 4) (numAt raw 4 8) (numAt raw 12 4) (cBot (slotsOf raw) 32) (cSl (slotsOf raw) 32) (cBody raw (slotsOf raw) 32)
def pageCompact (raw : List Int) : List Int := if ownOK raw = true then compB raw else []
theorem compB_length {raw : List Int} (hB : IsB raw) (h : ownOK raw = true) : (compB raw).length = 4096 := by
  have hl := ownOK_len h
  exact encB_length (by rw [List.length_take, hl]; rfl) (by rw [cSl_length, slotsOf_length]) ((slOK_of hB h).body raw hl 32 (Nat.le_refl _))
end Go.Proofs.Ytcnaabjgjmodeaa

namespace Go.Proofs.Ytcnaabjgjmodeaa
open Go Go.RowKit
set_option linter.unusedVariables false
set_option linter.unusedSimpArgs false
structure RowK (E : Type) where
  m : Nat
  cells : E → List Value
  len : ∀ p, (cells p).length = m
  v : E → Value
  bs : E → List Int
variable {E : Type}
def RowK.all (K : RowK E) : List E → List Value
  | [] => []
  | p :: ps => K.cells p ++ K.all ps
theorem RowK.all_length (K : RowK E) (ps : List E) : (K.all ps).length = ps.length * K.m := by
  induction ps with
  | nil => simp [RowK.all]
  | cons p ps ih => rw [RowK.all, List.length_append, K.len, ih, List.length_cons, Nat.add_mul, Nat.one_mul, Nat.add_comm]
theorem RowK.all_append (K : RowK E) (ps qs : List E) : K.all (ps ++ qs) = K.all ps ++ K.all qs := by
  induction ps with
  | nil => rfl
  | cons p ps ih => simp only [List.cons_append, RowK.all, ih, List.append_assoc]
theorem RowK.all_at (K : RowK E) (ps : List E) (j i : Nat) (h : j < ps.length) (hi : i < K.m) : (K.all ps)[j * K.m + i]? = (K.cells ps[j])[i]? := by
  induction ps generalizing j with
  | nil => simp at h
  | cons p ps ih =>
    cases j with
    | zero => rw [Nat.zero_mul, Nat.zero_add, RowK.all, List.getElem?_append_left (by rw [K.len]; exact hi)]; rfl
    | succ j =>
      rw [RowK.all, List.getElem?_append_right (by rw [K.len, Nat.add_mul]; omega), K.len, show (j + 1) * K.m + i - K.m = j * K.m + i from by rw [Nat.add_mul]; omega]
      exact ih j (by simpa using h)
structure OwnR (K : RowK E) (base : Nat) (tw tb : TypeId) (w : World) (v : Value) (ps : List E) : Prop where
  row : w.ownsRow base tw K.m v ps.length (K.all ps)
  data : ∀ p ∈ ps, Own base tb .u8 w (K.v p) (K.bs p)
  out : ∀ u ∈ ps.map K.v, Apart v u
  each : (ps.map K.v).Pairwise Apart
def footR (K : RowK E) (v : Value) (ps : List E) (b : Nat) : Prop := v.ownBlock = some b ∨ ∃ p ∈ ps, (K.v p).ownBlock = some b
section
variable {K : RowK E} {base : Nat} {tw tb : TypeId} {w w' : World} {v : Value} {ps qs : List E}
theorem OwnR.form (h : OwnR K base tw tb w v ps) :
    (v = .slice none 0 0 ∧ ps = []) ∨ ∃ g cap, v = .slice (some ⟨g, 0, none⟩) ps.length cap ∧ base ≤ g ∧ g < w.heap.size ∧ ps.length ≤ cap ∧ cap ≤ maxLen := by
  rcases h.row.2 with ⟨rfl, hn⟩ | ⟨g, cap, cur, rfl, hb, hgg, hc, hm, _⟩
  · exact .inl ⟨rfl, List.length_eq_zero_iff.1 hn⟩
  · exact .inr ⟨g, cap, rfl, hb, (Array.getElem?_eq_some_iff.1 hgg).1, hc, hm⟩
theorem OwnR.lt (h : OwnR K base tw tb w v ps) (b : Nat) (hb : footR K v ps b) : base ≤ b ∧ b < w.heap.size := by
  rcases hb with hb | ⟨p, hp, hb⟩
  · exact World.ownsRow.lt h.row b hb
  · exact (h.data p hp).lt b hb
theorem OwnR.cell {g n cap : Nat} (h : OwnR K base tw tb w (.slice (some ⟨g, 0, none⟩) n cap) ps) (hn : n = ps.length) (j i : Nat) (hj : j < ps.length) (hi : i < K.m) :
    w.cell? ⟨g, j * K.m + i, none⟩ = (K.cells ps[j])[i]? := by
  subst hn
  rw [World.ownsRow.cellAt h.row (j * K.m + i) (by have := Nat.mul_le_mul_right K.m (Nat.succ_le_of_lt hj); rw [Nat.succ_mul] at this; omega), K.all_at ps j i hj hi]
theorem OwnR.frozen {g n cap : Nat} (h : OwnR K base tw tb w (.slice (some ⟨g, 0, none⟩) n cap) ps) (hn : n = ps.length) (j : Nat) : w.frozen? ⟨g, j, none⟩ = false := by
  subst hn
  exact World.ownsRow.frozenAt h.row j
theorem OwnR.kept {R : Nat → Prop} (h : OwnR K base tw tb w v ps) (hk : Kept R w w') (hr : ∀ b, footR K v ps b → ¬ R b) : OwnR K base tw tb w' v ps :=
  ⟨hk.owns h.row (fun b hb => hr b (.inl hb)), fun p hp => (h.data p hp).kept hk (fun b hb => hr b (.inr ⟨p, hp, hb⟩)), h.out, h.each⟩
theorem OwnR.same (h : OwnR K base tw tb w v ps) (hk : Same w w') : OwnR K base tw tb w' v ps := h.kept hk (fun _ _ => id)
theorem OwnR.nil (K : RowK E) (base : Nat) (tw tb : TypeId) (w : World) : OwnR K base tw tb w (.slice none 0 0) [] :=
  ⟨World.ownsRow_nil _ _ _ _, fun _ h => by simp at h, fun _ h => by simp at h, List.Pairwise.nil⟩
theorem OwnR.set {g n cap : Nat} {pre post : List E} {p p' : E} (h : OwnR K base tw tb w (.slice (some ⟨g, 0, none⟩) n cap) (pre ++ p :: post)) (hn : n = (pre ++ p :: post).length) (i : Nat) (u : Value) (hi : i < K.m)
    (hc : K.cells p' = (K.cells p).set i u) (hv : K.v p' = K.v p) (hb : K.bs p' = K.bs p) (j : Nat) (hj : j = pre.length * K.m + i) :
    OwnR K base tw tb (w.setCell ⟨g, j, none⟩ u) (.slice (some ⟨g, 0, none⟩) n cap) (pre ++ p' :: post) := by
  subst hn hj
  have hk : Kept (fun b => b = g) w (w.setCell ⟨g, pre.length * K.m + i, none⟩ u) := Kept.setCell (Kept.refl (fun b => b = g) w) (p := ⟨g, pre.length * K.m + i, none⟩) (.inr rfl) _
  have hmap : (pre ++ p' :: post).map K.v = (pre ++ p :: post).map K.v := by simp [hv]
  refine ⟨?_, fun q hq => ?_, by rw [hmap]; exact h.out, by rw [hmap]; exact h.each⟩
  · have hs := (World.ownsRow.stored h.row (pre.length * K.m + i) u).1
    have e : K.all (pre ++ p' :: post) = (K.all (pre ++ p :: post)).set (pre.length * K.m + i) u := by
      rw [K.all_append, K.all_append, List.set_append_right (h := by rw [K.all_length]; omega), K.all_length, Nat.add_sub_cancel_left, RowK.all, RowK.all, List.set_append_left (h := by rw [K.len]; exact hi), hc]
    rw [e]
    simpa using hs
  · have hq' : ∃ q' ∈ pre ++ p :: post, K.v q' = K.v q ∧ K.bs q' = K.bs q := by
      rcases List.mem_append.1 hq with hq | hq
      · exact ⟨q, by simp [hq], rfl, rfl⟩
      · rcases List.mem_cons.1 hq with rfl | hq
        · exact ⟨p, by simp, hv.symm, hb.symm⟩
        · exact ⟨q, by simp [hq], rfl, rfl⟩
    obtain ⟨q', hm, e1, e2⟩ := hq'
    have hd := h.data q' hm
    rw [e1, e2] at hd
    refine hd.kept hk (fun b hb e => ?_)
    subst e
    exact h.out (K.v q) (by rw [← e1]; exact List.mem_map_of_mem hm) b rfl hb
end
structure MarkK (K : RowK E) where
  on : Int → E → E
  sz : E → Nat
  v : ∀ k p, K.v (on k p) = K.v p
section
variable {K : RowK E} (M : MarkK K)
end
structure RdR (K : RowK E) (w : World) (v : Value) (ps : List E) : Prop where
  max : ps.length ≤ maxLen
  row : (ps = [] ∧ ∃ a c, v = .slice a 0 c) ∨ ∃ b off c, v = .slice (some ⟨b, off, none⟩) ps.length c ∧ ∀ j i, (h : j < ps.length) → i < K.m → w.cell? ⟨b, off + (j * K.m + i), none⟩ = (K.cells ps[j])[i]?
  data : ∀ p ∈ ps, Rd .u8 w (K.v p) (K.bs p)
section
variable {K : RowK E} {w w' : World} {v : Value} {ps : List E}
theorem RdR.kept {R : Nat → Prop} (h : RdR K w v ps) (hk : Kept R w w') (hr : ∀ b, footR K v ps b → ¬ R b) : RdR K w' v ps := by
  refine ⟨h.max, ?_, fun p hp => (h.data p hp).kept hk (fun b hb => hr b (.inr ⟨p, hp, hb⟩))⟩
  rcases h.row with h | ⟨b, off, c, rfl, hc⟩
  · exact .inl h
  · refine .inr ⟨b, off, c, rfl, fun j i hj hi => ?_⟩
    have hl := K.len ps[j]
    rw [List.getElem?_eq_getElem (by omega)]
    exact hk.cellOf (by rw [hc j i hj hi, List.getElem?_eq_getElem (by omega)]) (hr b (.inl rfl))
theorem RdR.same (h : RdR K w v ps) (hk : Same w w') : RdR K w' v ps := h.kept hk (fun _ _ => id)
theorem RdR.form (h : RdR K w v ps) : ∃ a c, v = .slice a ps.length c := by
  rcases h.row with ⟨rfl, a, c, rfl⟩ | ⟨b, off, c, rfl, _⟩ <;> exact ⟨_, _, rfl⟩
theorem OwnR.rd {base : Nat} {tw tb : TypeId} (h : OwnR K base tw tb w v ps) : RdR K w v ps := by
  refine ⟨?_, ?_, fun p hp => (h.data p hp).rd⟩
  · rcases h.form with ⟨rfl, rfl⟩ | ⟨g, cap, rfl, _, _, hc, hm⟩
    · simp
    · exact Nat.le_trans hc hm
  · rcases h.form with ⟨rfl, rfl⟩ | ⟨g, cap, rfl, _, _, hc, hm⟩
    · exact .inl ⟨rfl, _, _, rfl⟩
    · exact .inr ⟨g, 0, cap, rfl, fun j i hj hi => by rw [Nat.zero_add]; exact h.cell rfl j i hj hi⟩
end
end Go.Proofs.Ytcnaabjgjmodeaa

namespace Go.Proofs.Ytcnaabjgjmodeaa
open Go Go.RowKit
set_option linter.unusedVariables false
set_option linter.unusedSimpArgs false
variable {E : Type}
theorem lay_midR (A B C B' : List Value) (h : B'.length = B.length) : lay (A ++ (B ++ C)) A.length B' = A ++ (B' ++ C) := by
  unfold lay
  rw [List.take_left, h, List.drop_append, List.drop_of_length_le (by omega), Nat.add_sub_cancel_left, List.drop_left, List.nil_append]
theorem owns_setCells {base : Nat} {e : TypeId} {size g n cap : Nat} : ∀ (vs : List Value) (o : Nat) {w : World} {xs : List Value}, w.ownsRow base e size (.slice (some ⟨g, 0, none⟩) n cap) n xs → o + vs.length ≤ xs.length → (w.setCells g o vs).ownsRow base e size (.slice (some ⟨g, 0, none⟩) n cap) n (lay xs o vs)
  | [], o, w, xs, h, _ => by rw [lay_nil]; exact h
  | v :: vs, o, w, xs, h, hl => by
    simp only [List.length_cons] at hl
    have h1 := (World.ownsRow.stored h o v).1
    have := owns_setCells vs (o + 1) h1 (by rw [List.length_set]; omega)
    rw [lay_cons _ _ _ _ hl] at this
    exact this
section
variable {K : RowK E} {base : Nat} {tw tb : TypeId} {w w' : World}
theorem OwnR.setElem {g n cap : Nat} {pre post : List E} {p p' : E} (h : OwnR K base tw tb w (.slice (some ⟨g, 0, none⟩) n cap) (pre ++ p :: post)) (hn : n = (pre ++ p :: post).length) (j : Nat) (hj : j = pre.length * K.m)
    (hu : Own base tb .u8 w (K.v p') (K.bs p')) (hf : ∀ b, (K.v p').ownBlock = some b → ¬ footR K (.slice (some ⟨g, 0, none⟩) n cap) (pre ++ p :: post) b) :
    OwnR K base tw tb (w.setCells g j (K.cells p')) (.slice (some ⟨g, 0, none⟩) n cap) (pre ++ p' :: post) := by
  subst hn hj
  have hk : Kept (fun b => b = g) w (w.setCells g (pre.length * K.m) (K.cells p')) := Kept.setCells (R := fun b => b = g) (.inr rfl) _ _ (Kept.refl _ _)
  have hug : ∀ b, (K.v p').ownBlock = some b → ¬ b = g := fun b hb e => hf b hb (.inl (by rw [e]; rfl))
  have hold : ∀ q ∈ pre ++ post, q ∈ pre ++ p :: post := fun q hq => by
    rcases List.mem_append.1 hq with hq | hq
    · simp [hq]
    · simp [hq]
  have hea := h.each
  rw [List.map_append, List.map_cons] at hea
  obtain ⟨h1, h2, h3⟩ := List.pairwise_append.1 hea
  have h4 := List.pairwise_cons.1 h2
  refine ⟨?_, fun q hq => ?_, ?_, ?_⟩
  · have hs := owns_setCells (K.cells p') (pre.length * K.m) h.row (by rw [K.len, K.all_length, List.length_append, List.length_cons, Nat.add_mul, Nat.add_mul]; omega)
    have e : K.all (pre ++ p' :: post) = lay (K.all (pre ++ p :: post)) (pre.length * K.m) (K.cells p') := by
      rw [K.all_append, K.all_append, RowK.all, RowK.all, ← K.all_length pre, lay_midR _ _ _ _ (by rw [K.len, K.len])]
    rw [e]
    simpa using hs
  · have hd : ∀ q ∈ pre ++ post, Own base tb .u8 (w.setCells g (pre.length * K.m) (K.cells p')) (K.v q) (K.bs q) := fun q hq =>
      (h.data q (hold q hq)).kept hk (fun b hb e => h.out (K.v q) (List.mem_map_of_mem (hold q hq)) b (by rw [e]; rfl) hb)
    rcases List.mem_append.1 hq with hq | hq
    · exact hd q (by simp [hq])
    · rcases List.mem_cons.1 hq with rfl | hq
      · exact hu.kept hk hug
      · exact hd q (by simp [hq])
  · intro x hx
    rw [List.map_append, List.map_cons] at hx
    have hx' : x ∈ (pre ++ post).map K.v ∨ x = K.v p' := by
      simp only [List.mem_append, List.mem_cons, List.map_append] at hx ⊢
      rcases hx with hx | hx | hx
      · exact .inl (.inl hx)
      · exact .inr hx
      · exact .inl (.inr hx)
    rcases hx' with hx' | rfl
    · obtain ⟨q, hq, rfl⟩ := List.mem_map.1 hx'
      exact h.out (K.v q) (List.mem_map_of_mem (hold q hq))
    · exact fun b hb hu' => hf b hu' (.inl hb)
  · rw [List.map_append, List.map_cons]
    have hua : ∀ q ∈ pre ++ post, Apart (K.v p') (K.v q) := fun q hq b hb hq' => hf b hb (.inr ⟨q, hold q hq, hq'⟩)
    refine List.pairwise_append.2 ⟨h1, List.pairwise_cons.2 ⟨fun x hx => ?_, h4.2⟩, fun x hx y hy => ?_⟩
    · obtain ⟨q, hq, rfl⟩ := List.mem_map.1 hx
      exact hua q (by simp [hq])
    · obtain ⟨q, hq, rfl⟩ := List.mem_map.1 hx
      rcases List.mem_cons.1 hy with rfl | hy
      · exact (hua q (by simp [hq])).symm
      · exact h3 (K.v q) hx y (List.mem_cons_of_mem _ hy)
theorem OwnR.cellMid {g n cap : Nat} {pre post : List E} {p : E} (h : OwnR K base tw tb w (.slice (some ⟨g, 0, none⟩) n cap) (pre ++ p :: post)) (hn : n = (pre ++ p :: post).length) (i : Nat) (hi : i < K.m) (j : Nat) (hj : j = pre.length * K.m + i) :
    w.cell? ⟨g, j, none⟩ = (K.cells p)[i]? := by
  subst hj
  rw [h.cell hn pre.length i (by simp) hi]
  simp
theorem ownR_made {v : Value} {n : Nat} {z : Value} {zp : E} (hm : 0 < K.m) (hz : z.cells = (K.cells zp).toArray) (hv : K.v zp = .slice none 0 0) (hb : K.bs zp = []) (h : w.ownsRow base tw K.m v n (madeCells z.cells (n * K.m)).toList) :
    OwnR K base tw tb w v (List.replicate n zp) := by
  have e : K.all (List.replicate n zp) = (madeCells z.cells (n * K.m)).toList := by
    apply List.ext_getElem?
    intro j
    by_cases hj : j < n * K.m
    · have hl : j / K.m < (List.replicate n zp).length := by rw [List.length_replicate]; exact Nat.div_lt_of_lt_mul (by rw [Nat.mul_comm]; exact hj)
      have hi : j % K.m < K.m := Nat.mod_lt _ hm
      have h2 := K.all_at _ (j / K.m) (j % K.m) hl hi
      rw [show j / K.m * K.m + j % K.m = j from by rw [Nat.mul_comm]; exact Nat.div_add_mod j K.m] at h2
      rw [h2]
      have hlen := K.len zp
      simp [madeCells, hj, hz, hlen, hi]
    · rw [List.getElem?_eq_none (by rw [K.all_length, List.length_replicate]; omega), List.getElem?_eq_none (by simp [madeCells]; omega)]
  refine ⟨by rw [List.length_replicate, e]; exact h, fun p hp => ?_, fun u hu => ?_, ?_⟩
  · rw [List.eq_of_mem_replicate hp, hv, hb]; exact Own.nil _ _ _ _
  · rw [List.map_replicate] at hu
    rw [List.eq_of_mem_replicate hu, hv]
    intro b _ hb'
    simp [Value.ownBlock] at hb'
  · rw [List.map_replicate]
    refine List.pairwise_replicate.2 (.inr ?_)
    rw [hv]
    intro b _ hb'
    simp [Value.ownBlock] at hb'
end
end Go.Proofs.Ytcnaabjgjmodeaa

namespace Go.Proofs.Ytcnaabjgjmodeaa
open Go.RowKit
set_option linter.unusedVariables false
set_option linter.unusedSimpArgs false
def behind (g cap o : Nat) : Option Addr := if cap = o then some ⟨g, 0, none⟩ else some ⟨g, o, none⟩
theorem Own.laid {base : Nat} {e : TypeId} {w : World} {g n cap : Nat} {xs : List Int} (h : Own base e .u8 w (.slice (some ⟨g, 0, none⟩) n cap) xs) (hn : n = xs.length) (o : Nat) (ys : List Int) (ho : o + ys.length ≤ n) :
    Own base e .u8 (w.setCells g o (vals .u8 ys)) (.slice (some ⟨g, 0, none⟩) n cap) (layI xs o ys) := by
  subst hn
  have h1 := owns_setCells (size := 1) (vals .u8 ys) o h (by rw [vals_length, vals_length]; exact ho)
  rw [lay_layI] at h1
  unfold Own
  rw [layI_length _ _ _ ho]
  exact h1
theorem Own.caps {base : Nat} {e : TypeId} {k : IntKind} {w : World} {a : Option Addr} {n cap : Nat} {xs : List Int} (h : Own base e k w (.slice a n cap) xs) : n = xs.length ∧ n ≤ cap := by
  rcases h.form with ⟨h, h'⟩ | ⟨g', cap', h, _, _, hc, _⟩
  · simp only [Value.slice.injEq] at h
    rw [h']
    exact ⟨h.2.1, by omega⟩
  · simp only [Value.slice.injEq] at h
    exact ⟨h.2.1, by omega⟩
theorem run_copyOwn {P : Program} {T tb : TypeId} {w : World} {base : Nat} {e : TypeId} {g n cap : Nat} {xs ys : List Int} {sv : Value} (ty : TypeId) (hu : P.underlying T = some (.slice tb)) (hsz : (P.info? tb).map (·.size) = some 1)
    (hown : Own base e .u8 w (.slice (some ⟨g, 0, none⟩) n cap) xs) (hn : n = xs.length) (o : Nat) (ho : o + ys.length ≤ n) (hs : Rd .u8 w sv ys) :
    (Builtin.copy_ #[T, T] ty #[.slice (behind g cap o) (n - o) (cap - o), sv]).run P w = .ok (goInt ys.length) (w.setCells g o (vals .u8 ys)) := by
  have hcap : n ≤ cap := by
    rcases hown.form with ⟨h, _⟩ | ⟨g', cap', h, _, _, hc, _⟩
    · cases h
    · cases h; omega
  rcases hs.2 with ⟨rfl, a, c, rfl, _⟩ | ⟨b, off, c, rfl, _, hc⟩
  · have h := run_copy_none (P := P) w T T ty tb (behind g cap o) a (n - o) (cap - o) 0 c hu hsz (by simp)
    rw [h]
    rfl
  · by_cases h0 : ys.length = 0
    · obtain rfl : ys = [] := List.length_eq_zero_iff.1 h0
      have h := run_copy_none (P := P) w T T ty tb (behind g cap o) (some ⟨b, off, none⟩) (n - o) (cap - o) 0 c hu hsz (by simp)
      simp only [List.length_nil] at h ⊢
      rw [h]
      rfl
    · have e : behind g cap o = some ⟨g, o, none⟩ := if_neg (by omega)
      rw [e]
      have h := run_copy_cells (P := P) w T T ty tb g o (n - o) (cap - o) ⟨b, off, none⟩ ys.length c (vals .u8 ys) hu hsz (by rw [vals_length]; exact (Nat.min_eq_left (by omega)).symm) (news_of hc) (fun j hj => by rw [vals_length] at hj; rw [hown.cell hn (o + j) (by omega)]; rfl) (fun j _ => hown.frozen hn _) vals_one
      rw [vals_length] at h
      exact h
end Go.Proofs.Ytcnaabjgjmodeaa

namespace Go.Proofs.Ytcnaabjgjmodeaa
open Go.RowKit
set_option linter.unusedVariables false
set_option linter.unusedSimpArgs false
theorem layI_right (A B d : List Int) (o : Nat) : layI (A ++ B) (A.length + o) d = A ++ layI B o d := by
  unfold layI
  rw [List.take_append, List.take_of_length_le (by omega), Nat.add_sub_cancel_left, List.append_assoc, List.drop_append, List.drop_of_length_le (by omega), List.nil_append, show A.length + o + d.length - A.length = o + d.length from by omega]
theorem layI_left (A B d : List Int) (o : Nat) (h : o + d.length ≤ A.length) : layI (A ++ B) o d = layI A o d ++ B := by
  unfold layI
  rw [List.take_append_of_le_length (by omega), List.drop_append_of_le_length (by omega), List.append_assoc, List.append_assoc]
theorem layI_all (A d : List Int) (h : d.length = A.length) : layI A 0 d = d := by
  unfold layI
  simp [h]
theorem layI_drop (A d : List Int) (o m : Nat) (h : m ≤ o) (hl : o + d.length ≤ A.length) : (layI A o d).drop m = layI (A.drop m) (o - m) d := by
  unfold layI
  rw [List.drop_append_of_le_length (by rw [List.length_take]; omega), List.drop_take, List.drop_drop]
  congr 3
  omega
theorem encB_eq (sum : List Int) (lsn num bot : Int) (sl raw : List Int) (h1 : sum.length = 4) (h2 : sl.length = 64) : encB sum lsn num bot sl raw = headB sum lsn num bot ++ (slotB sl ++ raw.drop 148) := by
  unfold encB cont
  rw [List.length_append, headB_length _ _ _ _ h1, slotB_length, h2, List.append_assoc]
theorem encB_body {sum : List Int} {lsn num bot : Int} {sl raw : List Int} (h1 : sum.length = 4) (h2 : sl.length = 64) (h3 : raw.length = 4096) (b : Nat) (d : List Int) (hb : 148 ≤ b) (hd : b + d.length ≤ 4096) :
    layI (encB sum lsn num bot sl raw) b d = encB sum lsn num bot sl (layI raw b d) := by
  rw [encB_eq _ _ _ _ _ _ h1 h2, encB_eq _ _ _ _ _ _ h1 h2, layI_drop raw d b 148 hb (by omega)]
  have e1 : b = (headB sum lsn num bot).length + ((slotB sl).length + (b - 148)) := by rw [headB_length _ _ _ _ h1, slotB_length, h2]; omega
  conv => lhs; rw [e1]
  rw [layI_right, layI_right]
theorem slotB_append (a b : List Int) : slotB (a ++ b) = slotB a ++ slotB b := by simp [slotB]
theorem slotB_set (sl : List Int) (j : Nat) (x : Int) (h : j < sl.length) : layI (slotB sl) (2 * j) (lows x 2) = slotB (sl.set j x) := by
  have e : sl = sl.take j ++ (sl[j] :: sl.drop (j + 1)) := by rw [← List.drop_eq_getElem_cons h, List.take_append_drop]
  have e2 : sl.set j x = sl.take j ++ (x :: sl.drop (j + 1)) := List.set_eq_take_append_cons_drop.trans (if_pos h)
  rw [e2]
  conv => lhs; rw [e]
  rw [slotB_append, slotB_append]
  have hl : (slotB (sl.take j)).length = 2 * j := by rw [slotB_length, List.length_take]; omega
  rw [← hl, ← Nat.add_zero (slotB (sl.take j)).length, layI_right]
  rfl
theorem encB_slot {sum : List Int} {lsn num bot : Int} {sl raw : List Int} (h1 : sum.length = 4) (h2 : sl.length = 64) (j : Nat) (x : Int) (hj : j < 64) :
    layI (encB sum lsn num bot sl raw) (20 + 2 * j) (lows x 2) = encB sum lsn num bot (sl.set j x) raw := by
  rw [encB_eq _ _ _ _ _ _ h1 h2, encB_eq _ _ _ _ _ _ h1 (by rw [List.length_set]; exact h2)]
  have e1 : 20 + 2 * j = (headB sum lsn num bot).length + 2 * j := by rw [headB_length _ _ _ _ h1]
  rw [e1, layI_right, layI_left _ _ _ _ (by rw [slotB_length, lows_length, h2]; omega), slotB_set _ _ _ (by omega)]
theorem encB_bot {sum : List Int} {lsn num bot : Int} {sl raw : List Int} (h1 : sum.length = 4) (h2 : sl.length = 64) (x : Int) :
    layI (encB sum lsn num bot sl raw) 16 (lows x 2) = encB sum lsn num x sl raw := by
  rw [encB_eq _ _ _ _ _ _ h1 h2, encB_eq _ _ _ _ _ _ h1 h2]
  rw [layI_left _ _ _ _ (by rw [headB_length _ _ _ _ h1]; simp [lows_length])]
  congr 1
  unfold headB
  rw [layI_left _ _ _ _ (by simp [lows_length, h1])]
  congr 1
  have e : 16 = (sum ++ lows lsn 8 ++ lows num 4).length + 0 := by simp [lows_length, h1]
  conv => lhs; rw [e]
  rw [layI_right, layI_all _ _ (by simp [lows_length])]
theorem encB_lsn {sum : List Int} {lsn num bot : Int} {sl raw : List Int} (h1 : sum.length = 4) (h2 : sl.length = 64) (x : Int) :
    layI (encB sum lsn num bot sl raw) 4 (lows x 8) = encB sum x num bot sl raw := by
  rw [encB_eq _ _ _ _ _ _ h1 h2, encB_eq _ _ _ _ _ _ h1 h2]
  rw [layI_left _ _ _ _ (by rw [headB_length _ _ _ _ h1]; simp [lows_length])]
  congr 1
  unfold headB
  rw [layI_left _ _ _ _ (by simp [lows_length, h1]), layI_left _ _ _ _ (by simp [lows_length, h1]), layI_left _ _ _ _ (by simp [lows_length, h1])]
  congr 3
  have e : 4 = sum.length + 0 := by omega
  conv => lhs; rw [e]
  rw [layI_right, layI_all _ _ (by simp [lows_length])]
theorem own_enc {raw : List Int} (h : ownOK raw = true) : encB (raw.take 4) (numAt raw 4 8) (numAt raw 12 4) (numAt raw 16 2) (slotsOf raw) raw = raw ∧ isLSN (numAt raw 4 8) = true := by
  have hl := ownOK_len h
  unfold ownOK pageFault faultP at h
  simp only [hl, ne_eq, not_true_eq_false, if_false] at h
  simp only [beq_self_eq_true, Bool.true_and] at h
  by_cases h2 : headBad (raw.take 4) (numAt raw 4 8) (numAt raw 12 4) (numAt raw 16 2) (slotsOf raw) raw = true
  · simp [h2] at h
  unfold headBad at h2
  simp at h2
  exact ⟨h2.2, h2.1⟩
end Go.Proofs.Ytcnaabjgjmodeaa

namespace Go.Proofs.Ytcnaabjgjmodeaa
open Go.RowKit
set_option linter.unusedVariables false
set_option linter.unusedSimpArgs false
theorem Rd.cut {w : World} {b off c : Nat} {raw : List Int} (h : Rd .u8 w (.slice (some ⟨b, off, none⟩) raw.length c) raw) (x y : Nat) (hxy : x + y ≤ raw.length) :
    Rd .u8 w (.slice (some (if c = x then ⟨b, off, none⟩ else ⟨b, off + x, none⟩)) y (c - x)) ((raw.drop x).take y) := by
  have hl : ((raw.drop x).take y).length = y := by simp; omega
  rcases h.2 with ⟨rfl, _⟩ | ⟨b', off', c', he, hle, hc⟩
  · simp at hxy
    obtain ⟨rfl, rfl⟩ := hxy
    exact ⟨by simp, .inl ⟨by simp, _, _, rfl, fun h => by cases h⟩⟩
  · injection he with h1 h2 h3
    injection h1 with h1
    injection h1 with h1 h4
    subst h1 h4 h3
    by_cases h0 : y = 0
    · subst h0
      exact ⟨by rw [hl]; simp, .inl ⟨by simp, _, _, rfl, fun h => by cases h⟩⟩
    · rw [if_neg (by omega)]
      refine ⟨by have := h.1; omega, .inr ⟨b, off + x, c - x, by rw [hl], by omega, fun i hi => ?_⟩⟩
      rw [hl] at hi
      rw [Nat.add_assoc, hc (x + i) (by omega)]
      simp [List.getD, List.getElem?_take, List.getElem?_drop, hi]
theorem Rd.part {k : IntKind} {w : World} {b off n c : Nat} {bs : List Int} (h : ∀ i, i < bs.length → w.cell? ⟨b, off + i, none⟩ = some (.int k (bs.getD i 0))) (lo m : Nat) (hm : lo + m ≤ bs.length) (hn : n = m) (hc : m ≤ c) (hmax : m ≤ maxLen) :
    Rd k w (.slice (some ⟨b, off + lo, none⟩) n c) ((bs.drop lo).take m) := by
  have hl : ((bs.drop lo).take m).length = m := by simp; omega
  refine ⟨by omega, .inr ⟨b, off + lo, c, by rw [hn, hl], by rw [hl]; exact hc, fun i hi => ?_⟩⟩
  rw [hl] at hi
  have h1 := h (lo + i) (by omega)
  rw [← Nat.add_assoc] at h1
  rw [h1]
  simp [List.getD, hi]
end Go.Proofs.Ytcnaabjgjmodeaa
