import Derived.Test.YtdbpaadndaoihaaGreatDoorG07
import Derived.Test.YtdbpaadndaoihaaGreatDoorG05
import Derived.Test.YtdbpaadndaoihaaGreatDoorG06
import Derived.Test.YtdbpaadndaoihaaGreatDoorG00
namespace Go.Proofs.YtdbpaadndaoihaaGreatDoor
set_option linter.unusedVariables false
set_option linter.unusedSimpArgs false
set_option maxRecDepth 100000
set_option maxHeartbeats 8000000
open Go.RowKit
theorem getN_lows {x : Int} {n : Nat} (hn : 1 ≤ n) (hn8 : n ≤ 8) (h0 : 0 ≤ x) (h1 : x < 256 ^ n) (h2 : x ≤ 9223372036854775807) : getN (lows x n) = x := by
  obtain ⟨m, rfl⟩ : ∃ m : Nat, x = (m : Int) := ⟨x.toNat, by omega⟩
  have e : num (lows (m : Int) n) = (m : Int) := by
    rw [num_lows, Nat.mod_eq_of_lt]
    have : ((256 ^ n : Nat) : Int) = (256 : Int) ^ n := by simp
    omega
  unfold getN
  rw [e, lows_length, if_neg (by omega)]
theorem take_mid (A B C : List Int) : ((A ++ (B ++ C)).drop A.length).take B.length = B := by
  rw [List.drop_left, List.take_left]
theorem take_midN (A B C : List Int) (a b : Nat) (ha : a = A.length) (hb : b = B.length) : ((A ++ (B ++ C)).drop a).take b = B := by subst ha hb; exact take_mid A B C
theorem slotB_at (sl : List Int) (j : Nat) (hj : j < sl.length) : ((slotB sl).drop (2 * j)).take 2 = lows (sl.getD j 0) 2 := by
  have e : sl = sl.take j ++ (sl[j] :: sl.drop (j + 1)) := by rw [← List.drop_eq_getElem_cons hj, List.take_append_drop]
  have hg : sl.getD j 0 = sl[j] := by simp [hj]
  rw [hg]
  conv => lhs; rw [e]
  rw [slotB_append, show slotB (sl[j] :: sl.drop (j + 1)) = lows sl[j] 2 ++ slotB (sl.drop (j + 1)) from by unfold slotB; rw [List.flatMap_cons]]
  exact take_midN _ _ _ _ _ (by rw [slotB_length, List.length_take]; omega) (by rw [lows_length])
structure EncOK (sum : List Int) (lsn num bot : Int) (sl raw : List Int) : Prop where
  s4 : sum.length = 4
  sl64 : sl.length = 64
  r : raw.length = 4096
  lsn : 0 ≤ lsn ∧ lsn ≤ 9223372036854775807
  num : 0 ≤ num ∧ num < 4294967296
  bot : 0 ≤ bot ∧ bot ≤ 65535
  sls : ∀ x ∈ sl, 0 ≤ x ∧ x ≤ 65535
section
variable {sum : List Int} {lsn num bot : Int} {sl raw : List Int}
theorem EncOK.flat (h : EncOK sum lsn num bot sl raw) : encB sum lsn num bot sl raw = sum ++ (lows lsn 8 ++ (lows num 4 ++ (lows bot 2 ++ (lows 0 2 ++ (slotB sl ++ raw.drop 148))))) := by
  rw [encB_eq _ _ _ _ _ _ h.s4 h.sl64]
  simp [headB]
theorem EncOK.len (h : EncOK sum lsn num bot sl raw) : (encB sum lsn num bot sl raw).length = 4096 := encB_length h.s4 h.sl64 h.r
theorem EncOK.sum4 (h : EncOK sum lsn num bot sl raw) : (encB sum lsn num bot sl raw).take 4 = sum := by
  rw [h.flat, List.take_append_of_le_length (by rw [h.s4]; exact Nat.le_refl _), List.take_of_length_le (by rw [h.s4]; exact Nat.le_refl _)]
theorem EncOK.dec (h : EncOK sum lsn num bot sl raw) : numAt (encB sum lsn num bot sl raw) 4 8 = lsn ∧ numAt (encB sum lsn num bot sl raw) 12 4 = num ∧ numAt (encB sum lsn num bot sl raw) 16 2 = bot := by
  refine ⟨?_, ?_, ?_⟩
  · unfold numAt
    rw [h.flat, take_midN _ _ _ _ _ (by rw [h.s4]) (by rw [lows_length])]
    exact getN_lows (by decide) (by decide) h.lsn.1 (by have := h.lsn.2; have : (256 : Int) ^ 8 = 18446744073709551616 := by decide
                                                        omega) h.lsn.2
  · unfold numAt
    rw [h.flat, ← List.append_assoc, take_midN _ _ _ _ _ (by rw [List.length_append, h.s4, lows_length]) (by rw [lows_length])]
    exact getN_lows (by decide) (by decide) h.num.1 (by have := h.num.2; have : (256 : Int) ^ 4 = 4294967296 := by decide
                                                        omega) (by have := h.num.2; omega)
  · unfold numAt
    rw [h.flat, ← List.append_assoc, ← List.append_assoc, take_midN _ _ _ _ _ (by rw [List.length_append, List.length_append, h.s4, lows_length, lows_length]) (by rw [lows_length])]
    exact getN_lows (by decide) (by decide) h.bot.1 (by have := h.bot.2; have : (256 : Int) ^ 2 = 65536 := by decide
                                                        omega) (by have := h.bot.2; omega)
theorem EncOK.behind (h : EncOK sum lsn num bot sl raw) : (encB sum lsn num bot sl raw).drop 148 = raw.drop 148 := by
  rw [encB_eq _ _ _ _ _ _ h.s4 h.sl64, ← List.append_assoc, List.drop_append, List.drop_of_length_le (by rw [List.length_append, headB_length _ _ _ _ h.s4, slotB_length, h.sl64]; decide), List.nil_append, List.length_append, headB_length _ _ _ _ h.s4, slotB_length, h.sl64]
  rfl
theorem EncOK.slots (h : EncOK sum lsn num bot sl raw) : slotsOf (encB sum lsn num bot sl raw) = sl := by
  apply List.ext_getElem?
  intro j
  by_cases hj : j < 64
  · rw [List.getElem?_eq_getElem (by rw [slotsOf_length]; exact hj), List.getElem?_eq_getElem (by rw [h.sl64]; exact hj)]
    have e1 : (slotsOf (encB sum lsn num bot sl raw))[j]'(by rw [slotsOf_length]; exact hj) = (slotsOf (encB sum lsn num bot sl raw)).getD j 0 := by simp [slotsOf_length, hj]
    have e2 : sl[j]'(by rw [h.sl64]; exact hj) = sl.getD j 0 := by simp [h.sl64, hj]
    rw [e1, e2, slotsOf_at _ j hj]
    congr 1
    unfold numAt
    rw [encB_eq _ _ _ _ _ _ h.s4 h.sl64]
    have hd : (headB sum lsn num bot ++ (slotB sl ++ raw.drop 148)).drop (20 + 2 * j) = (slotB sl).drop (2 * j) ++ raw.drop 148 := by
      rw [List.drop_append, List.drop_of_length_le (by rw [headB_length _ _ _ _ h.s4]; omega), List.nil_append, headB_length _ _ _ _ h.s4, Nat.add_sub_cancel_left, List.drop_append_of_le_length (by rw [slotB_length, h.sl64]; omega)]
    rw [hd, List.take_append_of_le_length (by rw [List.length_drop, slotB_length, h.sl64]; omega), slotB_at sl j (by rw [h.sl64]; exact hj)]
    have hb : 0 ≤ sl.getD j 0 ∧ sl.getD j 0 ≤ 65535 := by rw [← e2]; exact h.sls _ (List.getElem_mem _)
    exact getN_lows (by decide) (by decide) hb.1 (by have : (256 : Int) ^ 2 = 65536 := by decide
                                                     omega) (by omega)
  · rw [List.getElem?_eq_none (by rw [slotsOf_length]; omega), List.getElem?_eq_none (by rw [h.sl64]; omega)]
theorem EncOK.again (h : EncOK sum lsn num bot sl raw) : encB sum lsn num bot sl (encB sum lsn num bot sl raw) = encB sum lsn num bot sl raw := by
  rw [encB_eq _ _ _ _ _ (encB sum lsn num bot sl raw) h.s4 h.sl64, h.behind, ← encB_eq _ _ _ _ _ _ h.s4 h.sl64]
theorem EncOK.own (h : EncOK sum lsn num bot sl raw) (hL : isLSN lsn = true) (hb : 148 ≤ bot ∧ bot ≤ 4096) (ha : astray bot sl = false) (hs : share sl = false) : ownOK (encB sum lsn num bot sl raw) = true := by
  obtain ⟨d1, d2, d3⟩ := h.dec
  unfold ownOK pageFault faultP
  rw [h.sum4, d1, d2, d3, h.slots, h.len]
  have hh : headBad sum lsn num bot sl (encB sum lsn num bot sl raw) = false := by
    unfold headBad
    rw [hL, h.again]
    simp
  rw [hh, ha, hs]
  simp
  omega
end
def sl0 (sl : List Int) (s : Nat) : List Int := (sl.set (2 * s) 0).set (2 * s + 1) 0
theorem sl0_length (sl : List Int) (s : Nat) : (sl0 sl s).length = sl.length := by simp [sl0]
theorem sl0_at (sl : List Int) (s j : Nat) : (sl0 sl s).getD j 0 = if j = 2 * s ∨ j = 2 * s + 1 then 0 else sl.getD j 0 := by
  unfold sl0
  simp only [List.getD_eq_getElem?_getD]
  by_cases h1 : j = 2 * s + 1
  · subst h1
    rw [if_pos (.inr rfl)]
    by_cases hl : 2 * s + 1 < sl.length
    · rw [List.getElem?_set_self (by rw [List.length_set]; exact hl)]; rfl
    · rw [List.getElem?_eq_none (by rw [List.length_set, List.length_set]; omega)]; rfl
  · rw [List.getElem?_set_ne (by omega)]
    by_cases h2 : j = 2 * s
    · subst h2
      rw [if_pos (.inl rfl)]
      by_cases hl : 2 * s < sl.length
      · rw [List.getElem?_set_self hl]; rfl
      · rw [List.getElem?_eq_none (by rw [List.length_set]; omega)]; rfl
    · rw [List.getElem?_set_ne (by omega), if_neg (by omega)]
theorem sl0_two (sl : List Int) (s k : Nat) : ((sl0 sl s).getD (2 * k) 0 = if k = s then 0 else sl.getD (2 * k) 0) ∧ ((sl0 sl s).getD (2 * k + 1) 0 = if k = s then 0 else sl.getD (2 * k + 1) 0) := by
  rw [sl0_at, sl0_at]
  by_cases e : k = s
  · subst e; simp
  · refine ⟨?_, ?_⟩
    · rw [if_neg (by omega), if_neg e]
    · rw [if_neg (by omega), if_neg e]
theorem SlOK.zero {sl : List Int} (h : SlOK sl) (s : Nat) : SlOK (sl0 sl s) := by
  refine ⟨fun k hk => ?_, fun i j hi hj => ?_⟩
  · obtain ⟨e1, e2⟩ := sl0_two sl s k
    rw [e1, e2]
    by_cases e : k = s
    · rw [if_pos e, if_pos e]; exact .inl ⟨rfl, rfl⟩
    · rw [if_neg e, if_neg e]; exact h.one k hk
  · obtain ⟨e1, e2⟩ := sl0_two sl s i
    obtain ⟨e3, e4⟩ := sl0_two sl s j
    rw [e1, e2, e3, e4]
    have h1 := h.two i j hi hj
    have h2 := h.one i hi
    have h3 := h.one j (by omega)
    by_cases ei : i = s
    · rw [if_pos ei, if_pos ei]; omega
    · rw [if_neg ei, if_neg ei]
      by_cases ej : j = s
      · rw [if_pos ej, if_pos ej]; omega
      · rw [if_neg ej, if_neg ej]; exact h1
theorem usedN_zero (sl : List Int) (s : Nat) : ∀ k, usedN (sl0 sl s) k = usedN sl k - (if s < k then sl.getD (2 * s + 1) 0 else 0)
  | 0 => by simp [usedN]
  | k + 1 => by
    rw [usedN, usedN, usedN_zero sl s k, (sl0_two sl s k).2]
    by_cases e : k = s
    · subst e
      rw [if_pos rfl, if_neg (by omega), if_pos (by omega)]
      omega
    · rw [if_neg e]
      by_cases h : s < k
      · rw [if_pos h, if_pos (by omega)]; omega
      · rw [if_neg h, if_neg (by omega)]; omega
theorem SlOK.astray0 {sl : List Int} {bot : Int} (h : ∀ k, k < 32 → astrayAt bot (sl.getD (2 * k) 0) (sl.getD (2 * k + 1) 0) = false) : astray bot sl = false := by
  unfold astray
  rw [List.any_eq_false]
  intro i hi
  rw [h i (List.mem_range.1 hi)]
  simp
theorem SlOK.share0 {sl : List Int} (h : SlOK sl) : share sl = false := by
  refine share_no sl (fun i hi j hj => ?_)
  unfold shareAt sharesB
  simpa using h.two i j hi hj
theorem cBody_eq {sl : List Int} (h : SlOK sl) (raw raw' : List Int) (e : raw.drop 148 = raw'.drop 148) : ∀ k, k ≤ 32 → cBody raw sl k = cBody raw' sl k
  | 0, _ => rfl
  | k + 1, hk => by
    rw [cBody, cBody, cBody_eq h raw raw' e k (by omega)]
    split
    · rfl
    · rename_i h0
      have h1 := h.one k (by omega)
      have hs : stretch raw (sl.getD (2 * k) 0) (sl.getD (2 * k + 1) 0) = stretch raw' (sl.getD (2 * k) 0) (sl.getD (2 * k + 1) 0) := by
        unfold stretch
        obtain ⟨m, hm⟩ : ∃ m, (sl.getD (2 * k) 0).toNat = 148 + m := ⟨(sl.getD (2 * k) 0).toNat - 148, by omega⟩
        rw [hm, ← List.drop_drop, ← List.drop_drop, e]
      rw [hs]
/-! ### The page that is set -/
def setPut (sum : List Int) (lsn num bt : Int) (sl body : List Int) (s : Nat) (d : List Int) : List Int :=
  encB sum lsn num (bt - d.length) ((sl.set (2 * s) (bt - d.length)).set (2 * s + 1) d.length) (layI body (bt - d.length).toNat d)
def setB (raw : List Int) (s : Nat) (u : Bool) (d : List Int) (lsn : Int) : List Int :=
  if u = false then encB (raw.take 4) lsn (numAt raw 12 4) (numAt raw 16 2) (sl0 (slotsOf raw) s) raw
  else if numAt raw 16 2 - 148 < d.length then setPut (raw.take 4) lsn (numAt raw 12 4) (cBot (sl0 (slotsOf raw) s) 32) (cSl (sl0 (slotsOf raw) s) 32) (cBody raw (sl0 (slotsOf raw) s) 32) s d
  else setPut (raw.take 4) lsn (numAt raw 12 4) (numAt raw 16 2) (sl0 (slotsOf raw) s) raw s d
def setBad (raw : List Int) (s : Int) (u : Bool) (d : List Int) (lsn : Int) : Bool := !ownOK raw || (decide (s < 0) || (decide (32 ≤ s) || (decide (lsn < 0) || (decide (1099511627776 < lsn) || (decide (1000 < d.length) || (!u && decide (0 < d.length)))))))
def setFull (raw : List Int) (s : Nat) (d : List Int) : Prop := 3948 < usedN (slotsOf raw) 32 - (slotsOf raw).getD (2 * s + 1) 0 + d.length
def setFullDec (raw : List Int) (s : Nat) (d : List Int) : Decidable (setFull raw s d) := inferInstanceAs (Decidable (_ < _))
def pageSet (raw : List Int) (s : Int) (u : Bool) (d : List Int) (lsn : Int) : Int × List Int :=
  if setBad raw s u d lsn = true then (1, []) else @ite _ (setFull raw s.toNat d) (setFullDec raw s.toNat d) (2, []) (0, setB raw s.toNat u d lsn)
section
variable {w : World} {P : Nat} {sum : List Int} {lsn num bot : Int} {sl raw : List Int}
theorem SP.layRaw (h : SP w P sum lsn num bot sl raw) (bn : Nat) (d : List Int) (hd : bn + d.length ≤ 4096) : SP (w.setCells P (71 + bn) (vals .u8 d)) P sum lsn num bot sl (layI raw bn d) := by
  refine ⟨?_, h.l1, h.l2, by rw [layI_length _ _ _ (by rw [h.l3]; exact hd), h.l3]⟩
  have hs := Blk.setCells (vals .u8 d) (71 + bn) h.blk (by rw [spCells_length h.l1 h.l2 h.l3, vals_length]; omega)
  have e : ∀ r : List Int, spCells sum lsn num bot sl r = (vals .u8 sum ++ (.int .i64 lsn :: .int .i64 num :: .int .i64 bot :: vals .i64 sl)) ++ vals .u8 r := fun r => by simp [spCells]
  have hA : (vals .u8 sum ++ (.int .i64 lsn :: .int .i64 num :: .int .i64 bot :: vals .i64 sl)).length = 71 := by simp [vals, h.l1, h.l2]
  have hl : lay (spCells sum lsn num bot sl raw) (71 + bn) (vals .u8 d) = spCells sum lsn num bot sl (layI raw bn d) := by
    rw [e raw, e (layI raw bn d), ← lay_layI, ← hA]
    unfold lay
    rw [List.take_append, List.take_of_length_le (by omega), Nat.add_sub_cancel_left, List.append_assoc, List.drop_append, List.drop_of_length_le (by omega), List.nil_append, show (vals .u8 sum ++ (.int .i64 lsn :: .int .i64 num :: .int .i64 bot :: vals .i64 sl)).length + bn + (vals .u8 d).length - (vals .u8 sum ++ (.int .i64 lsn :: .int .i64 num :: .int .i64 bot :: vals .i64 sl)).length = bn + (vals .u8 d).length from by omega]
  rw [hl] at hs
  exact hs
def rawB (P bn : Nat) : Option Addr := some (if 4096 = bn then (⟨P, 71, none⟩ : Addr) else ⟨P, 71 + bn, none⟩)
theorem run_copySP {T tb : TypeId} {sv : Value} {d : List Int} (ty : TypeId) (hu : Tryz.prog.underlying T = some (.slice tb)) (hsz : (Tryz.prog.info? tb).map (·.size) = some 1) (h : SP w P sum lsn num bot sl raw) (bn : Nat) (hd : bn + d.length ≤ 4096) (hs : Rd .u8 w sv d) :
    (Builtin.copy_ #[T, T] ty #[.slice (rawB P bn) (4096 - bn) (4096 - bn), sv]).run Tryz.prog w = .ok (goInt d.length) (w.setCells P (71 + bn) (vals .u8 d)) := by
  rcases hs.2 with ⟨rfl, a, c, rfl, _⟩ | ⟨b, off, c, rfl, _, hc⟩
  · have h := run_copy_none (P := Tryz.prog) w T T ty tb (rawB P bn) a (4096 - bn) (4096 - bn) 0 c hu hsz (by simp)
    rw [h]
    rfl
  · by_cases h0 : d.length = 0
    · obtain rfl : d = [] := List.length_eq_zero_iff.1 h0
      have h := run_copy_none (P := Tryz.prog) w T T ty tb (rawB P bn) (some ⟨b, off, none⟩) (4096 - bn) (4096 - bn) 0 c hu hsz (by simp)
      simp only [List.length_nil] at h ⊢
      rw [h]
      rfl
    · have e : rawB P bn = some ⟨P, 71 + bn, none⟩ := by unfold rawB; rw [if_neg (by omega)]
      rw [e]
      have hr := run_copy_cells (P := Tryz.prog) w T T ty tb P (71 + bn) (4096 - bn) (4096 - bn) ⟨b, off, none⟩ d.length c (vals .u8 d) hu hsz (by rw [vals_length]; exact (Nat.min_eq_left (by omega)).symm) (news_of hc) (fun j hj => by rw [vals_length] at hj; rw [Nat.add_assoc, h.rawAt (bn + j) (by omega)]; rfl) (fun j _ => h.blk.frozen _) vals_one
      rw [vals_length] at hr
      exact hr
end
theorem fits_slot_any (u : Bool) (a : Option Addr) (n c : Nat) (w : World) (hn : n ≤ 1099511627776) :
    Calls Tryz.prog 72 #[.agg #[.bool u, .slice a n c]] w fun e w' => e = .returned (.bool (decide (n ≤ 1000) && (u || decide (n = 0)))) ∧ Same w w' := by
  have HK0 := hid (sameA w [.bool u, .slice a n c] 34)
  have b0 := Blk.newL w [.bool u, .slice a n c] 34
  obtain ⟨c0, c1⟩ := b0.all2
  by_cases h1 : n ≤ 1000
  · have h1i : (n : Int) ≤ 1000 := by omega
    cases u with
    | true =>
      go_enter Tryz.func72, Tryz.ntmps72
      go_wp2
      go_ret
      exact ⟨by simp [h1], HK0.out⟩
    | false =>
      by_cases h2 : n = 0
      · have h2i : (n : Int) = 0 := by omega
        subst h2
        go_enter Tryz.func72, Tryz.ntmps72
        go_wp2
        go_ret
        exact ⟨by simp, HK0.out⟩
      · have h2i : ((n : Int) == 0) = false := by simp; omega
        go_enter Tryz.func72, Tryz.ntmps72
        go_wp2
        go_ret
        exact ⟨by simp [h1, h2]; try omega, HK0.out⟩
  · have h1i : ¬ (n : Int) ≤ 1000 := by omega
    go_enter Tryz.func72, Tryz.ntmps72
    go_wp2
    go_ret
    exact ⟨by simp [h1], HK0.out⟩
def SetR (w' : World) (P : Nat) (sum : List Int) (lsn num bot : Int) (sl raw : List Int) (s : Nat) (u : Bool) (d : List Int) : Prop :=
  if u = false then SP w' P sum lsn num bot (sl0 sl s) raw
  else if bot - 148 < d.length then SP w' P sum lsn num (cBot (sl0 sl s) 32 - d.length) (((cSl (sl0 sl s) 32).set (2 * s) (cBot (sl0 sl s) 32 - d.length)).set (2 * s + 1) d.length) (layI (cBody raw (sl0 sl s) 32) (cBot (sl0 sl s) 32 - d.length).toNat d)
  else SP w' P sum lsn num (bot - d.length) (((sl0 sl s).set (2 * s) (bot - d.length)).set (2 * s + 1) d.length) (layI raw (bot - d.length).toNat d)
theorem setSP_any (P : Nat) (sum : List Int) (lsn num bot : Int) (sl raw : List Int) (s : Nat) (u : Bool) (ta : Option Addr) (tc : Nat) (d : List Int) (w : World) (hp : SP w P sum lsn num bot sl raw) (hok : SlOK sl) (hs : s < 32) (hb : 148 ≤ bot ∧ bot ≤ 4096) (hd : d.length ≤ 1000) (hroom : 148 ≤ cBot (sl0 sl s) 32 - d.length)
    (hv : Rd .u8 w (.slice ta d.length tc) d) (hnP : ∀ w', Kept (fun b => b = P) w w' → Rd .u8 w' (.slice ta d.length tc) d) :
    Calls Tryz.prog 74 #[.pointer (some ⟨P, 0, none⟩), .int .i64 (s : Int), .agg #[.bool u, .slice ta d.length tc]] w fun e w' => e = .returned (.tuple #[]) ∧ SetR w' P sum lsn num bot sl raw s u d ∧ Kept (fun b => b = P) w w' := by
  have HV := hid hv
  have HNP := hid hnP
  have HOK := hid (hok.zero s)
  have hPl := hp.blk.lt
  have hs3 : (s : Int) < 32 := by omega
  have hbb := (hok.zero s).bot 32 (Nat.le_refl _)
  obtain ⟨n, hn⟩ : ∃ n, d.length = n := ⟨_, rfl⟩
  have HN := hid hn
  rw [hn] at hd hroom HV HNP ⊢
  obtain ⟨w1, hw1⟩ : ∃ x, w.alloc (.cells #[.bool u, .slice ta n tc] 34) = x := ⟨_, rfl⟩
  have HR1 := (show Hid (Blk w1 w.heap.size 34 [.bool u, .slice ta n tc]) from by rw [← hw1]; exact Blk.newL w [.bool u, .slice ta n tc] 34)
  have HK1 := (show Hid (Same w w1) from by rw [← hw1]; exact (Kept.refl _ _).alloc _)
  have HP1 := hid (hp.same HK1.out)
  have c0 := HP1.out.slAt (2 * s) (by omega)
  have c1 := HP1.out.slAt (2 * s + 1) (by omega)
  have cf := HP1.out.blk.frozen
  have HP2 := (show Hid (SP ((w1.setCell ⟨P, 7 + s * 2, none⟩ (.int .i64 0)).setCell ⟨P, 7 + s * 2 + 1, none⟩ (.int .i64 0)) P sum lsn num bot (sl0 sl s) raw) from by
    have h := (HP1.out.slot (2 * s) (by omega) 0).slot (2 * s + 1) (by omega) 0
    rw [show 7 + (2 * s + 1) = 7 + s * 2 + 1 from by omega, show 7 + 2 * s = 7 + s * 2 from by omega] at h
    exact h)
  rw [show 7 + (2 * s + 1) = 7 + s * 2 + 1 from by omega] at c1
  rw [show 7 + 2 * s = 7 + s * 2 from by omega] at c0
  have hk12 : Kept (fun b => b = P) w1 ((w1.setCell ⟨P, 7 + s * 2, none⟩ (.int .i64 0)).setCell ⟨P, 7 + s * 2 + 1, none⟩ (.int .i64 0)) := Kept.setCell (R := fun b => b = P) (Kept.setCell (R := fun b => b = P) (Kept.refl _ _) (p := ⟨P, 7 + s * 2, none⟩) (.inr rfl) _) (p := ⟨P, 7 + s * 2 + 1, none⟩) (.inr rfl) _
  have HK2 := hid ((HK1.out.mono (fun _ _ e => e.elim)).trans hk12)
  have HR2 := hid (HR1.out.kept hk12 (by omega))
  generalize sl.getD (2 * s) 0 = x0 at c0
  generalize sl.getD (2 * s + 1) 0 = x1 at c1
  clear hp hok hv hnP hn hk12
  have HW1 := hid hw1
  clear hw1
  cases u with
  | false =>
    obtain ⟨r0, r1⟩ := HR2.out.all2
    go_enter Tryz.func74, Tryz.ntmps74
    go_upto_region 1 with fail
    rw [HW1.out]
    generalize hw2 : (w1.setCell ⟨P, 7 + s * 2, none⟩ (.int .i64 0)).setCell ⟨P, 7 + s * 2 + 1, none⟩ (.int .i64 0) = w2 at *
    go_wp2
    refine bodyPost_ret (results_none (by rfl) _ _ _) rfl ?_
    exact ⟨rfl, by unfold SetR; rw [if_pos rfl]; exact HP2.out, HK2.out⟩
  | true =>
    obtain ⟨r0, r1⟩ := HR2.out.all2
    obtain ⟨n4, n5, n6⟩ := HP2.out.num3
    have q0 : IntKind.i64.wrap (bot - 148) = bot - 148 := by rw [IntKind.wrap_i64]; omega
    by_cases hbc : bot - 148 < (n : Int)
    · have kC := fun wx (h : SP wx P sum lsn num bot (sl0 sl s) raw) => compact_any P sum lsn num bot (sl0 sl s) raw wx h HOK.out
      go_enter Tryz.func74, Tryz.ntmps74
      go_upto_region 1 with fail
      rw [HW1.out]
      generalize hw2 : (w1.setCell ⟨P, 7 + s * 2, none⟩ (.int .i64 0)).setCell ⟨P, 7 + s * 2 + 1, none⟩ (.int .i64 0) = w2 at *
      go_wp2_with fail
      refine (kC _ HP2.out).mono ?_
      rintro e w3 ⟨rfl, hp3, hk3⟩
      have HP3 := hid hp3
      have HK3 := hid (HK2.out.trans hk3)
      have HR3 := hid (HR2.out.kept hk3 (by omega))
      obtain ⟨bt, hbt⟩ : ∃ x, cBot (sl0 sl s) 32 = x := ⟨_, rfl⟩
      have HFIN : Hid (∀ wx, SP wx P sum lsn num (bt - (n : Int)) (((cSl (sl0 sl s) 32).set (2 * s) (bt - (n : Int))).set (2 * s + 1) (n : Int)) (layI (cBody raw (sl0 sl s) 32) (bt - (n : Int)).toNat d) → SetR wx P sum lsn num bot sl raw s true d) := fun wx h => by
        unfold SetR
        rw [if_neg (by simp), HN.out, if_pos hbc, hbt]
        exact h
      rw [hbt] at HP3 hroom hbb
      obtain ⟨slx, hslx⟩ : ∃ x, cSl (sl0 sl s) 32 = x := ⟨_, rfl⟩
      obtain ⟨body, hbody⟩ : ∃ x, cBody raw (sl0 sl s) 32 = x := ⟨_, rfl⟩
      rw [hslx, hbody] at HP3 HFIN
      clear hp3 hk3 kC hbt hslx hbody n4 n5 n6 r0 r1
      obtain ⟨r0, r1⟩ := HR3.out.all2
      obtain ⟨n4, n5, n6⟩ := HP3.out.num3
      have nf := HP3.out.blk.frozen
      obtain ⟨bn, hbn⟩ : ∃ x : Nat, bt - (n : Int) = (x : Int) := ⟨(bt - (n : Int)).toNat, by omega⟩
      have q1 : IntKind.i64.wrap (bt - (n : Int)) = (bn : Int) := by rw [IntKind.wrap_i64, ← hbn]; omega
      have hbn2 : 148 ≤ bn ∧ bn + n ≤ 4096 := by omega
      rw [hbn, Int.toNat_natCast] at HFIN
      have HP4 := hid (HP3.out.setBot (bn : Int))
      have hk34 : Kept (fun b => b = P) w3 (w3.setCell ⟨P, 6, none⟩ (.int .i64 (bn : Int))) := Kept.setCell (R := fun b => b = P) (Kept.refl _ _) (p := ⟨P, 6, none⟩) (.inr rfl) _
      have HK4 := hid (HK3.out.trans hk34)
      have HR4 := hid (HR3.out.kept hk34 (by omega))
      obtain ⟨ab, hab⟩ : ∃ ab : Option Addr, some (if 4096 = bn then (⟨P, 71, none⟩ : Addr) else ⟨P, 71 + bn, none⟩) = ab := ⟨_, rfl⟩
      have HAB := (show Hid (rawB P bn = ab) from hab)
      have g2 : (bn : Int) ≤ 4096 := by omega
      clear hbn hk34
      go_upto_region 7 with fail
      generalize w3.setCell ⟨P, 6, none⟩ (.int .i64 (bn : Int)) = w4 at *
      clear n4 n5 n6 r0 r1 nf
      obtain ⟨n4, n5, n6⟩ := HP4.out.num3
      obtain ⟨r0, r1⟩ := HR4.out.all2
      let Y1 : World → Prop := fun wx : World => wx.cell? ⟨P, 6, none⟩ = some (.int .i64 (bn : Int)) ∧ wx.cell? ⟨w.heap.size, 1, none⟩ = some (.slice ta n tc)
      have hS : Y1 w4.drew := ⟨n6, r1⟩
      refine wp_region_V Y1 99 11 rfl (by kernel_rfl) ?_
      refine tk 0 36 hS ?_
      refine tk 1 37 hS ?_
      refine tk 2 38 hS ?_
      refine tk 3 39 hS ?_
      refine tk 4 40 hS ?_
      refine tk 5 41 hS ?_
      refine tk 6 42 hS ?_
      refine tkV 7 43 (.slice ab (4096 - bn) (4096 - bn)) hS ?_
      refine tk 8 44 hS ?_
      refine tk 9 45 hS ?_
      have HV4 := hid ((HNP.out _ HK4.out).same (Kept.refl _ _).drew)
      have hcp := run_copySP 3 Tryz.underlying22 byte_one (HP4.out.same (Kept.refl _ _).drew) bn (by rw [HN.out]; omega) HV4.out
      rw [HAB.out, HN.out] at hcp
      have HP5 := hid ((HP4.out.same (w' := w4.drew) (Kept.refl _ _).drew).layRaw bn d (by rw [HN.out]; omega))
      refine wpAnyV_one (i := 10) (by kernel_rfl) rfl (fun K hK => ?_)
      go_simp
      have hk45 : Kept (fun b => b = P) w4 (w4.drew.setCells P (71 + bn) (vals .u8 d)) := Kept.setCells (R := fun b => b = P) (.inr rfl) _ _ (Kept.refl _ _).drew
      have HK5 := hid (HK4.out.trans hk45)
      have HR5 := hid (HR4.out.kept hk45 (by omega))
      refine hK.out _ _ (fun _ => ⟨HP5.out.num3.2.2, HR5.out.cell 1⟩) ?_
      clear hK K hcp hk45
      try simp only [Act.put, sA, s0, sS]
      refine wpAnyV_done (by kernel_rfl) ?_
      generalize w4.drew.setCells P (71 + bn) (vals .u8 d) = w5 at HP5 HK5 HR5 ⊢
      clear n4 n5 n6 r0 r1 hS
      obtain ⟨n4, n5, n6⟩ := HP5.out.num3
      have nf := HP5.out.blk.frozen
      have d0 := HP5.out.slAt (2 * s) (by omega)
      have d1 := HP5.out.slAt (2 * s + 1) (by omega)
      rw [show 7 + (2 * s + 1) = 7 + s * 2 + 1 from by omega] at d1
      rw [show 7 + 2 * s = 7 + s * 2 from by omega] at d0
      have HP6 := (show Hid (SP ((w5.setCell ⟨P, 7 + s * 2, none⟩ (.int .i64 (bn : Int))).setCell ⟨P, 7 + s * 2 + 1, none⟩ (.int .i64 (n : Int))) P sum lsn num (bn : Int) ((slx.set (2 * s) (bn : Int)).set (2 * s + 1) (n : Int)) (layI body bn d)) from by
        have h := (HP5.out.slot (2 * s) (by omega) (bn : Int)).slot (2 * s + 1) (by omega) (n : Int)
        rw [show 7 + (2 * s + 1) = 7 + s * 2 + 1 from by omega, show 7 + 2 * s = 7 + s * 2 from by omega] at h
        exact h)
      have hk56 : Kept (fun b => b = P) w5 ((w5.setCell ⟨P, 7 + s * 2, none⟩ (.int .i64 (bn : Int))).setCell ⟨P, 7 + s * 2 + 1, none⟩ (.int .i64 (n : Int))) := Kept.setCell (R := fun b => b = P) (Kept.setCell (R := fun b => b = P) (Kept.refl _ _) (p := ⟨P, 7 + s * 2, none⟩) (.inr rfl) _) (p := ⟨P, 7 + s * 2 + 1, none⟩) (.inr rfl) _
      have HK6 := hid (HK5.out.trans hk56)
      clear hk56
      generalize slx.getD (2 * s) 0 = y0 at d0
      generalize slx.getD (2 * s + 1) 0 = y1 at d1
      go_wp2_with fail
      have hS : (fun wx : World => wx.cell? ⟨P, 6, none⟩ = some (.int .i64 (bn : Int))) w5.drew := n6
      refine wp_region_V (fun wx : World => wx.cell? ⟨P, 6, none⟩ = some (.int .i64 (bn : Int))) 99 12 rfl (by kernel_rfl) ?_
      refine tk 0 47 hS ?_
      refine tk 1 48 hS ?_
      refine tk 2 49 hS ?_
      refine tk 3 50 hS ?_
      refine tk 4 51 hS ?_
      refine tk 5 52 hS ?_
      refine tk 6 53 hS ?_
      refine tk 7 54 hS ?_
      refine tk 8 55 hS ?_
      refine tk 9 56 hS ?_
      refine tkV 10 57 (.pointer (some ⟨P, 7 + s * 2, none⟩)) hS ?_
      refine wpAnyV_one (i := 11) (by kernel_rfl) rfl (fun K hK => ?_)
      go_simp
      refine hK.out _ _ (fun _ => HP6.out.num3.2.2) ?_
      clear hK K
      try simp only [Act.put, sA, s0, sS]
      refine wpAnyV_done (by kernel_rfl) ?_
      refine bodyPost_end (results_none Tryz.results74 _ _ _) rfl ?_
      exact ⟨rfl, HFIN.out _ (HP6.out.same (Kept.refl _ _).drew), HK6.out.drew⟩
    · have hbc2 : ¬ bot - 148 < (n : Int) := hbc
      go_enter Tryz.func74, Tryz.ntmps74
      go_upto_region 1 with fail
      rw [HW1.out]
      generalize hw2 : (w1.setCell ⟨P, 7 + s * 2, none⟩ (.int .i64 0)).setCell ⟨P, 7 + s * 2 + 1, none⟩ (.int .i64 0) = w3 at *
      go_upto_region 6 with fail
      have HP3 := HP2
      have HK3 := HK2
      have HR3 := HR2
      obtain ⟨bt, hbt⟩ : ∃ x, bot = x := ⟨_, rfl⟩
      obtain ⟨slx, hslx⟩ : ∃ x, sl0 sl s = x := ⟨_, rfl⟩
      obtain ⟨body, hbody⟩ : ∃ x, raw = x := ⟨_, rfl⟩
      have HFIN : Hid (∀ wx, SP wx P sum lsn num (bt - (n : Int)) ((slx.set (2 * s) (bt - (n : Int))).set (2 * s + 1) (n : Int)) (layI body (bt - (n : Int)).toNat d) → SetR wx P sum lsn num bot sl raw s true d) := fun wx h => by
        unfold SetR
        rw [if_neg (by simp), HN.out, if_neg hbc, hbt, hslx, hbody]
        exact h
      have hroom : 148 ≤ bt - (n : Int) := by omega
      have hbb : 148 ≤ bt ∧ bt ≤ 4096 := by omega
      rw [hbt] at HP3
      rw [hslx, hbody] at HP3
      clear hbt n4 n5 n6 r0 r1
      obtain ⟨r0, r1⟩ := HR3.out.all2
      obtain ⟨n4, n5, n6⟩ := HP3.out.num3
      have nf := HP3.out.blk.frozen
      obtain ⟨bn, hbn⟩ : ∃ x : Nat, bt - (n : Int) = (x : Int) := ⟨(bt - (n : Int)).toNat, by omega⟩
      have q1 : IntKind.i64.wrap (bt - (n : Int)) = (bn : Int) := by rw [IntKind.wrap_i64, ← hbn]; omega
      have hbn2 : 148 ≤ bn ∧ bn + n ≤ 4096 := by omega
      rw [hbn, Int.toNat_natCast] at HFIN
      have HP4 := hid (HP3.out.setBot (bn : Int))
      have hk34 : Kept (fun b => b = P) w3 (w3.setCell ⟨P, 6, none⟩ (.int .i64 (bn : Int))) := Kept.setCell (R := fun b => b = P) (Kept.refl _ _) (p := ⟨P, 6, none⟩) (.inr rfl) _
      have HK4 := hid (HK3.out.trans hk34)
      have HR4 := hid (HR3.out.kept hk34 (by omega))
      obtain ⟨ab, hab⟩ : ∃ ab : Option Addr, some (if 4096 = bn then (⟨P, 71, none⟩ : Addr) else ⟨P, 71 + bn, none⟩) = ab := ⟨_, rfl⟩
      have HAB := (show Hid (rawB P bn = ab) from hab)
      have g2 : (bn : Int) ≤ 4096 := by omega
      clear hbn hk34
      go_upto_region 7 with fail
      generalize w3.setCell ⟨P, 6, none⟩ (.int .i64 (bn : Int)) = w4 at *
      clear n4 n5 n6 r0 r1 nf
      obtain ⟨n4, n5, n6⟩ := HP4.out.num3
      obtain ⟨r0, r1⟩ := HR4.out.all2
      let Y2 : World → Prop := fun wx : World => wx.cell? ⟨P, 6, none⟩ = some (.int .i64 (bn : Int)) ∧ wx.cell? ⟨w.heap.size, 1, none⟩ = some (.slice ta n tc)
      have hS : Y2 w4.drew := ⟨n6, r1⟩
      refine wp_region_V Y2 99 11 rfl (by kernel_rfl) ?_
      refine tk 0 36 hS ?_
      refine tk 1 37 hS ?_
      refine tk 2 38 hS ?_
      refine tk 3 39 hS ?_
      refine tk 4 40 hS ?_
      refine tk 5 41 hS ?_
      refine tk 6 42 hS ?_
      refine tkV 7 43 (.slice ab (4096 - bn) (4096 - bn)) hS ?_
      refine tk 8 44 hS ?_
      refine tk 9 45 hS ?_
      have HV4 := hid ((HNP.out _ HK4.out).same (Kept.refl _ _).drew)
      have hcp := run_copySP 3 Tryz.underlying22 byte_one (HP4.out.same (Kept.refl _ _).drew) bn (by rw [HN.out]; omega) HV4.out
      rw [HAB.out, HN.out] at hcp
      have HP5 := hid ((HP4.out.same (w' := w4.drew) (Kept.refl _ _).drew).layRaw bn d (by rw [HN.out]; omega))
      refine wpAnyV_one (i := 10) (by kernel_rfl) rfl (fun K hK => ?_)
      go_simp
      have hk45 : Kept (fun b => b = P) w4 (w4.drew.setCells P (71 + bn) (vals .u8 d)) := Kept.setCells (R := fun b => b = P) (.inr rfl) _ _ (Kept.refl _ _).drew
      have HK5 := hid (HK4.out.trans hk45)
      have HR5 := hid (HR4.out.kept hk45 (by omega))
      refine hK.out _ _ (fun _ => ⟨HP5.out.num3.2.2, HR5.out.cell 1⟩) ?_
      clear hK K hcp hk45
      try simp only [Act.put, sA, s0, sS]
      refine wpAnyV_done (by kernel_rfl) ?_
      generalize w4.drew.setCells P (71 + bn) (vals .u8 d) = w5 at HP5 HK5 HR5 ⊢
      clear n4 n5 n6 r0 r1 hS
      obtain ⟨n4, n5, n6⟩ := HP5.out.num3
      have nf := HP5.out.blk.frozen
      have d0 := HP5.out.slAt (2 * s) (by omega)
      have d1 := HP5.out.slAt (2 * s + 1) (by omega)
      rw [show 7 + (2 * s + 1) = 7 + s * 2 + 1 from by omega] at d1
      rw [show 7 + 2 * s = 7 + s * 2 from by omega] at d0
      have HP6 := (show Hid (SP ((w5.setCell ⟨P, 7 + s * 2, none⟩ (.int .i64 (bn : Int))).setCell ⟨P, 7 + s * 2 + 1, none⟩ (.int .i64 (n : Int))) P sum lsn num (bn : Int) ((slx.set (2 * s) (bn : Int)).set (2 * s + 1) (n : Int)) (layI body bn d)) from by
        have h := (HP5.out.slot (2 * s) (by omega) (bn : Int)).slot (2 * s + 1) (by omega) (n : Int)
        rw [show 7 + (2 * s + 1) = 7 + s * 2 + 1 from by omega, show 7 + 2 * s = 7 + s * 2 from by omega] at h
        exact h)
      have hk56 : Kept (fun b => b = P) w5 ((w5.setCell ⟨P, 7 + s * 2, none⟩ (.int .i64 (bn : Int))).setCell ⟨P, 7 + s * 2 + 1, none⟩ (.int .i64 (n : Int))) := Kept.setCell (R := fun b => b = P) (Kept.setCell (R := fun b => b = P) (Kept.refl _ _) (p := ⟨P, 7 + s * 2, none⟩) (.inr rfl) _) (p := ⟨P, 7 + s * 2 + 1, none⟩) (.inr rfl) _
      have HK6 := hid (HK5.out.trans hk56)
      clear hk56
      generalize slx.getD (2 * s) 0 = y0 at d0
      generalize slx.getD (2 * s + 1) 0 = y1 at d1
      go_wp2_with fail
      have hS : (fun wx : World => wx.cell? ⟨P, 6, none⟩ = some (.int .i64 (bn : Int))) w5.drew := n6
      refine wp_region_V (fun wx : World => wx.cell? ⟨P, 6, none⟩ = some (.int .i64 (bn : Int))) 99 12 rfl (by kernel_rfl) ?_
      refine tk 0 47 hS ?_
      refine tk 1 48 hS ?_
      refine tk 2 49 hS ?_
      refine tk 3 50 hS ?_
      refine tk 4 51 hS ?_
      refine tk 5 52 hS ?_
      refine tk 6 53 hS ?_
      refine tk 7 54 hS ?_
      refine tk 8 55 hS ?_
      refine tk 9 56 hS ?_
      refine tkV 10 57 (.pointer (some ⟨P, 7 + s * 2, none⟩)) hS ?_
      refine wpAnyV_one (i := 11) (by kernel_rfl) rfl (fun K hK => ?_)
      go_simp
      refine hK.out _ _ (fun _ => HP6.out.num3.2.2) ?_
      clear hK K
      try simp only [Act.put, sA, s0, sS]
      refine wpAnyV_done (by kernel_rfl) ?_
      refine bodyPost_end (results_none Tryz.results74 _ _ _) rfl ?_
      exact ⟨rfl, HFIN.out _ (HP6.out.same (Kept.refl _ _).drew), HK6.out.drew⟩
theorem set_lsn {raw : List Int} (h : ownOK raw = true) (lsn : Int) : layI raw 4 (lows lsn 8) = encB (raw.take 4) lsn (numAt raw 12 4) (numAt raw 16 2) (slotsOf raw) raw := by
  have hl := ownOK_len h
  conv => lhs; rw [← (own_enc h).1]
  rw [encB_lsn (by rw [List.length_take, hl]; rfl) (slotsOf_length raw)]
theorem set_slot {sum : List Int} {lsn num bot : Int} {sl raw : List Int} (h1 : sum.length = 4) (h2 : sl.length = 64) (s : Nat) (hs : s < 32) (x y : Int) :
    layI (layI (encB sum lsn num bot sl raw) (20 + 4 * s) (lows x 2)) (20 + 4 * s + 2) (lows y 2) = encB sum lsn num bot ((sl.set (2 * s) x).set (2 * s + 1) y) raw := by
  rw [show 20 + 4 * s = 20 + 2 * (2 * s) from by omega, encB_slot h1 h2 (2 * s) x (by omega), show 20 + 2 * (2 * s) + 2 = 20 + 2 * (2 * s + 1) from by omega, encB_slot h1 (by rw [List.length_set]; exact h2) (2 * s + 1) y (by omega)]
theorem set_comp {sum : List Int} {lsn num bot : Int} {sl raw : List Int} (h : EncOK sum lsn num bot sl raw) (hok : SlOK sl) (hw : ownOK (encB sum lsn num bot sl raw) = true) :
    pageCompact (encB sum lsn num bot sl raw) = encB sum lsn num (cBot sl 32) (cSl sl 32) (cBody raw sl 32) := by
  obtain ⟨d1, d2, d3⟩ := h.dec
  unfold pageCompact
  rw [if_pos hw]
  unfold compB
  rw [h.sum4, d1, d2, h.slots, cBody_eq hok _ raw h.behind 32 (Nat.le_refl _)]
theorem set_enc0 {raw : List Int} (hB : IsB raw) (hok : ownOK raw = true) (s : Nat) (lsn : Int) (hL : isLSN lsn = true) :
    EncOK (raw.take 4) lsn (numAt raw 12 4) (numAt raw 16 2) (sl0 (slotsOf raw) s) raw ∧ ownOK (encB (raw.take 4) lsn (numAt raw 12 4) (numAt raw 16 2) (sl0 (slotsOf raw) s) raw) = true := by
  have hl := ownOK_len hok
  obtain ⟨p1, p2, p3, p4⟩ := ownOK_parts hok
  have n12 := numAt_in raw hB 12 4 (by decide) (by decide) (by omega)
  have hsl := slOK_of hB hok
  have hsm := slotsOf_small raw hB hl
  have hE : EncOK (raw.take 4) lsn (numAt raw 12 4) (numAt raw 16 2) (sl0 (slotsOf raw) s) raw := by
    refine ⟨by rw [List.length_take, hl]; rfl, by rw [sl0_length, slotsOf_length], hl, isLSN_spec hL, by omega, by omega, fun x hx => ?_⟩
    unfold sl0 at hx
    rcases List.mem_or_eq_of_mem_set hx with hx | rfl
    · rcases List.mem_or_eq_of_mem_set hx with hx | rfl
      · have := hsm x hx; omega
      · omega
    · omega
  refine ⟨hE, hE.own hL ⟨p1, p2⟩ (SlOK.astray0 (fun k hk => ?_)) (hsl.zero s).share0⟩
  obtain ⟨e1, e2⟩ := sl0_two (slotsOf raw) s k
  rw [e1, e2]
  by_cases e : k = s
  · rw [if_pos e, if_pos e]; simp [astrayAt]
  · rw [if_neg e, if_neg e]
    unfold astray at p3
    rw [List.any_eq_false] at p3
    simpa using p3 k (List.mem_range.2 hk)
theorem set_put {sum : List Int} {lsn num bt : Int} {sl body : List Int} (h1 : sum.length = 4) (h2 : sl.length = 64) (h3 : body.length = 4096) (k : Nat) (hk : k < 32) (d : List Int) (bn : Nat) (hbn : bt - d.length = bn) (hb : 148 ≤ bn) (hd : bn + d.length ≤ 4096) :
    layI (layI (layI (layI (encB sum lsn num bt sl body) bn d) 16 (lows (bn : Int) 2)) (20 + 4 * k) (lows (bn : Int) 2)) (20 + 4 * k + 2) (lows (d.length : Int) 2) = setPut sum lsn num bt sl body k d := by
  rw [encB_body h1 h2 h3 _ _ hb hd, encB_bot h1 h2, set_slot h1 h2 k hk]
  unfold setPut
  rw [hbn, Int.toNat_natCast]
theorem isB_enc {sum : List Int} {lsn num bot : Int} {sl raw : List Int} (h1 : sum.length = 4) (h2 : sl.length = 64) (hs : IsB sum) (hr : IsB raw) : IsB (encB sum lsn num bot sl raw) := by
  rw [encB_eq _ _ _ _ _ _ h1 h2]
  unfold headB slotB
  intro x hx
  simp only [List.mem_append, List.mem_flatMap] at hx
  rcases hx with ((((h | h) | h) | h) | h) | ⟨y, _, h⟩ | h
  · exact hs x h
  · exact lows_isB _ _ x h
  · exact lows_isB _ _ x h
  · exact lows_isB _ _ x h
  · exact lows_isB _ _ x h
  · exact lows_isB _ _ x h
  · exact isB_drop hr _ x h
theorem Rd.keptOld {w0 w w' : World} {v : Value} {d : List Int} {P : Nat} (h0 : Rd .u8 w0 v d) (h : Rd .u8 w v d) (hP : w0.heap.size ≤ P) (hk : Kept (fun b => b = P) w w') : Rd .u8 w' v d := by
  refine ⟨h.1, ?_⟩
  rcases h0.2 with ⟨e, hx⟩ | ⟨b, off, c, rfl, hc, hx⟩
  · exact .inl ⟨e, hx⟩
  · by_cases hd : d.length = 0
    · obtain rfl : d = [] := List.length_eq_zero_iff.1 hd
      exact .inl ⟨rfl, _, _, rfl, fun e => by cases e⟩
    · have hb : b < w0.heap.size := World.block_lt_of_cell? w0 _ (hx 0 (by omega))
      exact (h.kept hk (fun b' e => by have : b = b' := (by simpa [Value.ownBlock] using e); show ¬ b' = P; omega)).2
def SetAns (ty : TypeId) (w w' : World) (e : Ending) (x : Int) (ys : List Int) : Prop := ∃ a c, e = .returned (.agg #[.int .i64 x, .slice a ys.length c]) ∧ (∀ b, (Value.slice a ys.length c).ownBlock = some b → w.heap.size ≤ b) ∧ Own 0 ty .u8 w' (.slice a ys.length c) ys ∧ Same w w'
theorem SetAns.none {ty : TypeId} {w w' : World} (x : Int) (h : Same w w') : SetAns ty w w' (.returned (.agg #[.int .i64 x, .slice none 0 0])) x [] := ⟨_, _, rfl, fun b hb => by simp [Value.ownBlock] at hb, Own.nil _ _ _ _, h⟩
theorem set2_at {sl : List Int} (hl : sl.length = 64) (s k : Nat) (hs : s < 32) (a b : Int) :
    (((sl.set (2 * s) a).set (2 * s + 1) b).getD (2 * k) 0 = if k = s then a else sl.getD (2 * k) 0) ∧ (((sl.set (2 * s) a).set (2 * s + 1) b).getD (2 * k + 1) 0 = if k = s then b else sl.getD (2 * k + 1) 0) := by
  simp only [List.getD_eq_getElem?_getD]
  by_cases e : k = s
  · subst e
    rw [if_pos rfl, if_pos rfl, List.getElem?_set_ne (by omega), List.getElem?_set_self (by omega), List.getElem?_set_self (by rw [List.length_set]; omega)]
    exact ⟨rfl, rfl⟩
  · rw [if_neg e, if_neg e, List.getElem?_set_ne (by omega), List.getElem?_set_ne (by omega), List.getElem?_set_ne (by omega), List.getElem?_set_ne (by omega)]
    exact ⟨rfl, rfl⟩
theorem cSl_two (sl : List Int) (hl : sl.length = 64) : ∀ n, n ≤ 32 → ∀ k, ((cSl sl n).getD (2 * k) 0 = if k < n ∧ ¬ sl.getD (2 * k) 0 = 0 then cBot sl (k + 1) else sl.getD (2 * k) 0) ∧ (cSl sl n).getD (2 * k + 1) 0 = sl.getD (2 * k + 1) 0
  | 0, _, k => ⟨by rw [if_neg (by omega)]; rfl, rfl⟩
  | n + 1, hn, k => by
    obtain ⟨h1, h2⟩ := cSl_two sl hl n (by omega) k
    rw [cSl]
    by_cases h0 : sl.getD (2 * n) 0 = 0
    · rw [if_pos h0, h1, h2]
      refine ⟨?_, rfl⟩
      by_cases e : k = n
      · subst e; rw [if_neg (by omega), if_neg (fun h => h.2 h0)]
      · by_cases hx : k < n ∧ ¬ sl.getD (2 * k) 0 = 0
        · rw [if_pos hx, if_pos ⟨by omega, hx.2⟩]
        · rw [if_neg hx, if_neg (fun h => hx ⟨by omega, h.2⟩)]
    · rw [if_neg h0]
      have hc : (cSl sl n).length = 64 := by rw [cSl_length, hl]
      refine ⟨?_, ?_⟩
      · by_cases e : k = n
        · subst e
          rw [if_pos ⟨by omega, h0⟩, List.getD_eq_getElem?_getD, List.getElem?_set_self (by omega)]
          rfl
        · rw [List.getD_eq_getElem?_getD, List.getElem?_set_ne (by omega), ← List.getD_eq_getElem?_getD, h1]
          by_cases hx : k < n ∧ ¬ sl.getD (2 * k) 0 = 0
          · rw [if_pos hx, if_pos ⟨by omega, hx.2⟩]
          · rw [if_neg hx, if_neg (fun h => hx ⟨by omega, h.2⟩)]
      · rw [List.getD_eq_getElem?_getD, List.getElem?_set_ne (by omega), ← List.getD_eq_getElem?_getD, h2]
theorem SlOK.botMono {sl : List Int} (h : SlOK sl) : ∀ (n m : Nat), m + n ≤ 32 → cBot sl (m + n) ≤ cBot sl m
  | 0, m, _ => Int.le_refl _
  | n + 1, m, hm => by
    have h1 := h.botMono n m (by omega)
    have h2 := cBot_succ sl (m + n)
    have h3 := h.one (m + n) (by omega)
    rw [show m + (n + 1) = m + n + 1 from by omega]
    omega
def From (bot : Int) (sl : List Int) : Prop := ∀ k, k < 32 → ¬ sl.getD (2 * k) 0 = 0 → bot ≤ sl.getD (2 * k) 0
theorem SlOK.comp {sl : List Int} (h : SlOK sl) (hl : sl.length = 64) : SlOK (cSl sl 32) ∧ From (cBot sl 32) (cSl sl 32) := by
  have at0 := fun k => cSl_two sl hl 32 (Nat.le_refl _) k
  have mono := fun a b (hab : a ≤ b) (hb : b ≤ 32) => (by have := h.botMono (b - a) a (by omega); rw [show a + (b - a) = b from by omega] at this; exact this : cBot sl b ≤ cBot sl a)
  refine ⟨⟨fun k hk => ?_, fun i j hi hj => ?_⟩, fun k hk h0 => ?_⟩
  · obtain ⟨e1, e2⟩ := at0 k
    rw [e1, e2]
    have h1 := h.one k hk
    have hb := h.bot (k + 1) (by omega)
    have hb0 := h.bot k (by omega)
    have hs := cBot_succ sl k
    by_cases h0 : sl.getD (2 * k) 0 = 0
    · rw [if_neg (fun x => x.2 h0)]; exact h1
    · rw [if_pos ⟨hk, h0⟩]; omega
  · obtain ⟨e1, e2⟩ := at0 i
    obtain ⟨e3, e4⟩ := at0 j
    rw [e1, e2, e3, e4]
    have h1 := h.one i hi
    have h2 := h.one j (by omega)
    have s1 := cBot_succ sl i
    have s2 := cBot_succ sl j
    have m1 := mono (j + 1) i hj (by omega)
    have b1 := h.bot (i + 1) (by omega)
    have b2 := h.bot (j + 1) (by omega)
    by_cases h0 : sl.getD (2 * i) 0 = 0
    · rw [if_neg (fun x => x.2 h0)]
      by_cases h3 : sl.getD (2 * j) 0 = 0
      · rw [if_neg (fun x => x.2 h3)]; omega
      · rw [if_pos ⟨by omega, h3⟩]; omega
    · rw [if_pos ⟨hi, h0⟩]
      by_cases h3 : sl.getD (2 * j) 0 = 0
      · rw [if_neg (fun x => x.2 h3)]; omega
      · rw [if_pos ⟨by omega, h3⟩]; omega
  · rw [(at0 k).1] at h0 ⊢
    by_cases h3 : sl.getD (2 * k) 0 = 0
    · rw [if_neg (fun x => x.2 h3)] at h0; exact absurd h3 h0
    · rw [if_pos ⟨hk, h3⟩]; exact mono (k + 1) 32 (by omega) (Nat.le_refl _)
theorem SlOK.put {sl : List Int} (h : SlOK sl) (hl : sl.length = 64) {bt : Int} (hf : From bt sl) (s : Nat) (hs : s < 32) (n : Nat) (hb : 148 ≤ bt - n) (hbt : bt ≤ 4096) (hn : n ≤ 1000) :
    SlOK ((sl.set (2 * s) (bt - n)).set (2 * s + 1) (n : Int)) ∧ From (bt - n) ((sl.set (2 * s) (bt - n)).set (2 * s + 1) (n : Int)) := by
  have at0 := fun k => set2_at hl s k hs (bt - n) (n : Int)
  have far := fun k (hk : k < 32) => (by have h1 := h.one k hk; have h2 := hf k hk; omega : (sl.getD (2 * k) 0 = 0 ∧ sl.getD (2 * k + 1) 0 = 0) ∨ (bt ≤ sl.getD (2 * k) 0 ∧ 0 ≤ sl.getD (2 * k + 1) 0))
  refine ⟨⟨fun k hk => ?_, fun i j hi hj => ?_⟩, fun k hk h0 => ?_⟩
  · rw [(at0 k).1, (at0 k).2]
    by_cases e : k = s
    · rw [if_pos e, if_pos e]; omega
    · rw [if_neg e, if_neg e]; exact h.one k hk
  · rw [(at0 i).1, (at0 i).2, (at0 j).1, (at0 j).2]
    have f1 := far i hi
    have f2 := far j (by omega)
    by_cases e : i = s
    · rw [if_pos e, if_pos e, if_neg (by omega), if_neg (by omega)]; omega
    · rw [if_neg e, if_neg e]
      by_cases e2 : j = s
      · rw [if_pos e2, if_pos e2]; omega
      · rw [if_neg e2, if_neg e2]; exact h.two i j hi hj
  · rw [(at0 k).1] at h0 ⊢
    by_cases e : k = s
    · rw [if_pos e]; omega
    · rw [if_neg e] at h0 ⊢
      have := hf k hk h0
      omega
theorem SlOK.all {sl : List Int} (h : SlOK sl) (hl : sl.length = 64) : ∀ x ∈ sl, 0 ≤ x ∧ x ≤ 65535 := by
  intro x hx
  obtain ⟨j, hj, rfl⟩ := List.mem_iff_getElem.1 hx
  have e : sl[j] = sl.getD j 0 := by simp [hj]
  rw [e]
  rcases Nat.mod_two_eq_zero_or_one j with h2 | h2
  · obtain ⟨k, rfl⟩ : ∃ k, j = 2 * k := ⟨j / 2, by omega⟩
    have := h.one k (by omega)
    omega
  · obtain ⟨k, rfl⟩ : ∃ k, j = 2 * k + 1 := ⟨j / 2, by omega⟩
    have := h.one k (by omega)
    omega
theorem EncOK.own' {sum : List Int} {lsn num bot : Int} {sl raw : List Int} (h : EncOK sum lsn num bot sl raw) (hL : isLSN lsn = true) (hb : 148 ≤ bot ∧ bot ≤ 4096) (hs : SlOK sl) (hf : From bot sl) : ownOK (encB sum lsn num bot sl raw) = true := by
  refine h.own hL hb (SlOK.astray0 (fun k hk => ?_)) hs.share0
  have h1 := hs.one k hk
  have h2 := hf k hk
  unfold astrayAt
  by_cases h0 : sl.getD (2 * k) 0 = 0
  · have : sl.getD (2 * k + 1) 0 = 0 := by omega
    rw [h0, this]; simp
  · have h3 := h2 h0
    have g1 : ¬ 1000 < sl.getD (2 * k + 1) 0 := by omega
    have g2 : ¬ sl.getD (2 * k) 0 < bot := by omega
    have g3 : ¬ 4096 < sl.getD (2 * k) 0 + sl.getD (2 * k + 1) 0 := by omega
    have g4 : (sl.getD (2 * k) 0 == 0) = false := by simpa using h0
    rw [decide_eq_false g1, decide_eq_false g2, decide_eq_false g3, g4]
    simp
theorem from_own {raw : List Int} (hB : IsB raw) (hok : ownOK raw = true) : From (numAt raw 16 2) (slotsOf raw) := by
  intro k hk h0
  obtain ⟨_, _, p3, _⟩ := ownOK_parts hok
  unfold astray at p3
  rw [List.any_eq_false] at p3
  have h1 := p3 k (List.mem_range.2 hk)
  apply Classical.byContradiction
  intro hn
  apply h1
  unfold astrayAt
  have g : ((slotsOf raw).getD (2 * k) 0 != 0) = true := by simpa using h0
  have g2 : decide ((slotsOf raw).getD (2 * k) 0 < numAt raw 16 2) = true := decide_eq_true (by omega)
  rw [g, g2]
  simp
theorem From.zero {bot : Int} {sl : List Int} (h : From bot sl) (s : Nat) : From bot (sl0 sl s) := by
  intro k hk h0
  rw [(sl0_two sl s k).1] at h0 ⊢
  by_cases e : k = s
  · rw [if_pos e] at h0; exact absurd rfl h0
  · rw [if_neg e] at h0 ⊢; exact h k hk h0
theorem isB_lay {a d : List Int} (ha : IsB a) (hd : IsB d) (o : Nat) : IsB (layI a o d) := by
  intro x hx
  unfold layI at hx
  rcases List.mem_append.1 hx with h | h
  · exact ha x (List.mem_of_mem_take h)
  · rcases List.mem_append.1 h with h | h
    · exact hd x h
    · exact ha x (List.mem_of_mem_drop h)
theorem isB_cBody {raw : List Int} (h : IsB raw) (sl : List Int) : ∀ k, IsB (cBody raw sl k)
  | 0 => fun x hx => by rw [cBody] at hx; rw [List.eq_of_mem_replicate hx]; omega
  | k + 1 => by
    rw [cBody]
    split
    · exact isB_cBody h sl k
    · exact isB_lay (isB_cBody h sl k) (isB_take (isB_drop h _) _) _
theorem encB_behind {sum : List Int} {lsn num bot : Int} {sl r r' : List Int} (h1 : sum.length = 4) (h2 : sl.length = 64) (e : r.drop 148 = r'.drop 148) : encB sum lsn num bot sl r = encB sum lsn num bot sl r' := by
  rw [encB_eq _ _ _ _ _ _ h1 h2, encB_eq _ _ _ _ _ _ h1 h2, e]
theorem setB_ok {E : List Int} (hB : IsB E) (hok : ownOK E = true) (k : Nat) (hk : k < 32) (u : Bool) (d : List Int) (hdB : IsB d) (lsn : Int) (hL : isLSN lsn = true) (hd : d.length ≤ 1000) (hroom : 148 ≤ cBot (sl0 (slotsOf E) k) 32 - d.length) :
    ∃ b sl r, setB E k u d lsn = encB (E.take 4) lsn (numAt E 12 4) b sl r ∧ EncOK (E.take 4) lsn (numAt E 12 4) b sl r ∧ ownOK (setB E k u d lsn) = true ∧ IsB (setB E k u d lsn) ∧
      (∀ wx P lsn0 rr, rr.drop 148 = E.drop 148 → rr.length = 4096 → SetR wx P (E.take 4) lsn0 (numAt E 12 4) (numAt E 16 2) (slotsOf E) rr k u d → ∃ r', r'.drop 148 = r.drop 148 ∧ SP wx P (E.take 4) lsn0 (numAt E 12 4) b sl r') := by
  have hl := ownOK_len hok
  obtain ⟨p1, p2, _, _⟩ := ownOK_parts hok
  have n12 := numAt_in E hB 12 4 (by decide) (by decide) (by omega)
  have hsl := (slOK_of hB hok).zero k
  have hz : (sl0 (slotsOf E) k).length = 64 := by rw [sl0_length, slotsOf_length]
  have h4 : (E.take 4).length = 4 := by rw [List.length_take, hl]; rfl
  have hE4 : IsB (E.take 4) := isB_take hB 4
  have hfr := (from_own hB hok).zero k
  have fin : ∀ b sl r, (148 ≤ b ∧ b ≤ 4096) → SlOK sl → From b sl → sl.length = 64 → r.length = 4096 → IsB r → EncOK (E.take 4) lsn (numAt E 12 4) b sl r ∧ ownOK (encB (E.take 4) lsn (numAt E 12 4) b sl r) = true ∧ IsB (encB (E.take 4) lsn (numAt E 12 4) b sl r) := by
    intro b sl r hb h1 h2 h3 h5 h6
    have hE : EncOK (E.take 4) lsn (numAt E 12 4) b sl r := ⟨h4, h3, h5, isLSN_spec hL, by omega, by omega, h1.all h3⟩
    exact ⟨hE, hE.own' hL hb h1 h2, isB_enc h4 h3 hE4 h6⟩
  have lay148 : ∀ (a d : List Int) (o : Nat), 148 ≤ o → o + d.length ≤ a.length → ∀ a' : List Int, a'.length = a.length → a'.drop 148 = a.drop 148 → (layI a' o d).drop 148 = (layI a o d).drop 148 := by
    intro a d o h1 h2 a' h3 h5
    rw [layI_drop _ _ _ _ h1 h2, layI_drop _ _ _ _ h1 (by omega), h5]
  cases u with
  | false =>
    obtain ⟨f1, f2, f3⟩ := fin (numAt E 16 2) (sl0 (slotsOf E) k) E ⟨p1, p2⟩ hsl hfr hz hl hB
    exact ⟨_, _, _, rfl, f1, f2, f3, fun wx P l rr e el h => ⟨rr, e, h⟩⟩
  | true =>
    by_cases hc : numAt E 16 2 - 148 < d.length
    · have hbb := hsl.bot 32 (Nat.le_refl _)
      obtain ⟨c1, c2⟩ := hsl.comp hz
      have hcz : (cSl (sl0 (slotsOf E) k) 32).length = 64 := by rw [cSl_length, hz]
      obtain ⟨q1, q2⟩ := c1.put hcz c2 k hk d.length hroom hbb.2 hd
      have hbl := hsl.body E hl 32 (Nat.le_refl _)
      obtain ⟨f1, f2, f3⟩ := fin (cBot (sl0 (slotsOf E) k) 32 - d.length) _ (layI (cBody E (sl0 (slotsOf E) k) 32) (cBot (sl0 (slotsOf E) k) 32 - d.length).toNat d) ⟨hroom, by omega⟩ q1 q2 (by rw [List.length_set, List.length_set, hcz]) (by rw [layI_length _ _ _ (by omega), hbl]) (isB_lay (isB_cBody hB _ _) hdB _)
      have e0 : setB E k true d lsn = encB (E.take 4) lsn (numAt E 12 4) (cBot (sl0 (slotsOf E) k) 32 - d.length) (((cSl (sl0 (slotsOf E) k) 32).set (2 * k) (cBot (sl0 (slotsOf E) k) 32 - d.length)).set (2 * k + 1) d.length) (layI (cBody E (sl0 (slotsOf E) k) 32) (cBot (sl0 (slotsOf E) k) 32 - d.length).toNat d) := by
        unfold setB setPut
        rw [if_neg (by simp), if_pos hc]
      rw [e0]
      refine ⟨_, _, _, rfl, f1, f2, f3, fun wx P l rr e el h => ?_⟩
      unfold SetR at h
      rw [if_neg (by simp), if_pos hc, cBody_eq hsl rr E e 32 (Nat.le_refl _)] at h
      exact ⟨_, rfl, h⟩
    · obtain ⟨q1, q2⟩ := hsl.put hz hfr k hk d.length (by omega) p2 hd
      obtain ⟨f1, f2, f3⟩ := fin (numAt E 16 2 - d.length) _ (layI E (numAt E 16 2 - d.length).toNat d) ⟨by omega, by omega⟩ q1 q2 (by rw [List.length_set, List.length_set, hz]) (by rw [layI_length _ _ _ (by omega), hl]) (isB_lay hB hdB _)
      have e0 : setB E k true d lsn = encB (E.take 4) lsn (numAt E 12 4) (numAt E 16 2 - d.length) (((sl0 (slotsOf E) k).set (2 * k) (numAt E 16 2 - d.length)).set (2 * k + 1) d.length) (layI E (numAt E 16 2 - d.length).toNat d) := by
        unfold setB setPut
        rw [if_neg (by simp), if_neg hc]
      rw [e0]
      refine ⟨_, _, _, rfl, f1, f2, f3, fun wx P l rr e el h => ?_⟩
      unfold SetR at h
      rw [if_neg (by simp), if_neg hc] at h
      exact ⟨_, lay148 E d _ (by omega) (by omega) rr (by omega) e, h⟩
def PgAt (w : World) (P : Nat) (E : List Int) : Prop := ∃ r : List Int, r.drop 148 = E.drop 148 ∧ SP w P (E.take 4) (numAt E 4 8) (numAt E 12 4) (numAt E 16 2) (slotsOf E) r
theorem PgAt.same {w w' : World} {P : Nat} {E : List Int} (h : PgAt w P E) (hk : Same w w') : PgAt w' P E := h.imp fun r x => ⟨x.1, x.2.same hk⟩
theorem PgAt.of {w : World} {P : Nat} {sum : List Int} {lsn num b : Int} {sl r r' : List Int} (hE : EncOK sum lsn num b sl r) (e : r'.drop 148 = r.drop 148) (h : SP w P sum lsn num b sl r') : PgAt w P (encB sum lsn num b sl r) := by
  obtain ⟨d1, d2, d3⟩ := hE.dec
  refine ⟨r', by rw [hE.behind, e], ?_⟩
  rw [hE.sum4, d1, d2, d3, hE.slots]
  exact h
theorem PgAt.enc {w : World} {P : Nat} {E : List Int} (h : PgAt w P E) (hok : ownOK E = true) : ∃ r, SP w P (E.take 4) (numAt E 4 8) (numAt E 12 4) (numAt E 16 2) (slotsOf E) r ∧ encB (E.take 4) (numAt E 4 8) (numAt E 12 4) (numAt E 16 2) (slotsOf E) r = E := by
  obtain ⟨r, e, h⟩ := h
  exact ⟨r, h, by rw [encB_behind h.l1 h.l2 e]; exact (own_enc hok).1⟩
def RdF (m : Nat) (w : World) (x : FR) : Prop :=
  x.n ≤ maxLen ∧ x.bs.length = x.n * m ∧ (x.n = 0 ∨ ∃ b off, x.a = some ⟨b, off, none⟩ ∧ x.n ≤ x.c ∧ ∀ i, i < x.n * m → w.cell? ⟨b, off + i, none⟩ = some (.int .i64 (x.bs.getD i 0)))
theorem RdF.kept {R : Nat → Prop} {m : Nat} {w w' : World} {x : FR} (h : RdF m w x) (hk : Kept R w w') (hr : ∀ b, x.v.ownBlock = some b → ¬ R b) : RdF m w' x := by
  refine ⟨h.1, h.2.1, ?_⟩
  rcases h.2.2 with h | ⟨b, off, he, hle, hc⟩
  · exact .inl h
  · exact .inr ⟨b, off, he, hle, fun i hi => hk.cellOf (hc i hi) (hr b (by simp [FR.v, he, Value.ownBlock]))⟩
theorem RdF.same {m : Nat} {w w' : World} {x : FR} (h : RdF m w x) (hk : Same w w') : RdF m w' x := h.kept hk (fun _ _ => id)
def OwnF (m : Nat) (e : TypeId) (w : World) (g n c : Nat) (bs : List Int) : Prop := w.ownsRow 0 e m (.slice (some ⟨g, 0, none⟩) n c) n (vals .i64 bs)
theorem FR.own_one {m : Nat} {w : World} {x : FR} (h : OwnL w (x.rows m)) : w.ownsRow 0 x.e m x.v x.n (vals .i64 x.bs) := h.own _ (List.mem_singleton.2 rfl)
theorem FR.own_len {m : Nat} {w : World} {x : FR} (h : OwnL w (x.rows m)) : x.bs.length = x.n * m := by
  have := (FR.own_one h).1
  rwa [vals_length] at this
theorem FR.own_form {m : Nat} {w : World} {x : FR} (h : OwnL w (x.rows m)) : (x.n = 0 ∧ x.a = none ∧ x.c = 0) ∨ ∃ g, x.a = some ⟨g, 0, none⟩ ∧ x.n ≤ x.c ∧ x.c ≤ maxLen ∧ OwnF m x.e w g x.n x.c x.bs := by
  have h1 := FR.own_one h
  rcases h1.2 with ⟨h2, h3⟩ | ⟨g, cap, cur, hv, hb, hgg, hc, hm, hs, ht⟩
  · simp only [FR.v] at h2
    injection h2 with a1 a2 a3
    exact .inl ⟨a2, a1, a3⟩
  · have hv' := hv
    simp only [FR.v] at hv'
    injection hv' with a1 a2 a3
    refine .inr ⟨g, a1, by omega, by omega, ?_⟩
    unfold OwnF
    rw [a3, ← hv]
    exact h1
theorem OwnF.cell {m : Nat} {e : TypeId} {w : World} {g n c : Nat} {bs : List Int} (h : OwnF m e w g n c bs) (j : Nat) (hj : j < n * m) : w.cell? ⟨g, j, none⟩ = some (.int .i64 (bs.getD j 0)) := by
  have h1 := h.1
  rw [vals_length] at h1
  rw [World.ownsRow.cellAt h j hj, vals_at .i64 bs j (by omega)]
theorem OwnF.frozen {m : Nat} {e : TypeId} {w : World} {g n c : Nat} {bs : List Int} (h : OwnF m e w g n c bs) (j : Nat) : w.frozen? ⟨g, j, none⟩ = false := World.ownsRow.frozenAt h j
theorem OwnF.stored {m : Nat} {e : TypeId} {w : World} {g n c : Nat} {bs : List Int} (h : OwnF m e w g n c bs) (j : Nat) (x : Int) : OwnF m e (w.setCell ⟨g, j, none⟩ (.int .i64 x)) g n c (bs.set j x) := by
  have := (World.ownsRow.stored h j (.int .i64 x)).1
  unfold OwnF
  have e : vals .i64 (bs.set j x) = (vals .i64 bs).set j (.int .i64 x) := by simp [vals]
  rw [e]
  exact this
theorem OwnF.same {m : Nat} {e : TypeId} {w w' : World} {g n c : Nat} {bs : List Int} (h : OwnF m e w g n c bs) (hk : Same w w') : OwnF m e w' g n c bs := hk.owns h (fun _ _ => id)
theorem OwnF.out {m : Nat} {e : TypeId} {w : World} {g n c : Nat} {bs : List Int} (h : OwnF m e w g n c bs) : OwnL w (FR.rows m ⟨e, some ⟨g, 0, none⟩, n, c, bs⟩) :=
  ⟨fun r hr => by rw [List.mem_singleton.1 hr]; exact h, List.pairwise_singleton _ _⟩
theorem FR.own_rd {m : Nat} {w : World} {x : FR} (h : OwnL w (x.rows m)) : RdF m w x := by
  have hl := FR.own_len h
  rcases FR.own_form h with ⟨h1, h2, h3⟩ | ⟨g, h1, h2, h3, h4⟩
  · exact ⟨by rw [h1]; exact Nat.zero_le _, hl, .inl h1⟩
  · exact ⟨by omega, hl, .inr ⟨g, 0, h1, h2, fun i hi => by rw [Nat.zero_add]; exact h4.cell i hi⟩⟩
end Go.Proofs.YtdbpaadndaoihaaGreatDoor
