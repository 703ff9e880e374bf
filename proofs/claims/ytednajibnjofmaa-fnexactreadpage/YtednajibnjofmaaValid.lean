/-
  spec.ValidDisk, impl.ValidDisk.
-/
import Derived.Test.YtednajibnjofmaaCopy
namespace Go.Proofs.Ytednajibnjofmaa
set_option maxHeartbeats 2000000
open Go.RowKit

/-- The call returned a bool, which says P. -/
def Says (e : Ending) (P : Prop) : Prop := ∃ B : Bool, e = .returned (.bool B) ∧ (B = true ↔ P)
theorem says_true {P : Prop} (h : P) : Says (.returned (.bool true)) P := ⟨true, rfl, fun _ => h, fun _ => rfl⟩
theorem says_false {P : Prop} (h : ¬ P) : Says (.returned (.bool false)) P := ⟨false, rfl, fun h => by simp at h, fun hp => absurd hp h⟩

def validP (n : Nat) (p : Int × List Int) : Prop := 0 ≤ p.1 ∧ p.1 < n ∧ p.2.length = 512
def validHead (len m : Nat) : Prop := len % 512 = 0 ∧ 1 ≤ len / 512 ∧ len / 512 ≤ 1024 ∧ m ≤ 8192
/-- A disk is valid: of the number of durable bytes and the data of the pending writes. -/
def Valid (len : Nat) (ds : List (Int × List Int)) : Prop := validHead len ds.length ∧ ∀ p ∈ ds, validP (len / 512) p
theorem valid_no_at {len : Nat} {ps : List PW} {k : Nat} (h : k < ps.length) (hp : ¬ validP (len / 512) (ps[k].sec, ps[k].bs)) : ¬ Valid len (dataP ps) :=
  fun hv => hp (hv.2 _ (List.mem_map.2 ⟨ps[k], List.getElem_mem h, rfl⟩))
theorem valid_no_head {len : Nat} {ps : List PW} (hp : ¬ validHead len ps.length) : ¬ Valid len (dataP ps) :=
  fun hv => hp (by have := hv.1; rwa [dataP_length] at this)
theorem valid_yes {len : Nat} {ps : List PW} (hh : validHead len ps.length) (h : ∀ k (hk : k < ps.length), validP (len / 512) (ps[k].sec, ps[k].bs)) : Valid len (dataP ps) := by
  refine ⟨by rw [dataP_length]; exact hh, fun p hp => ?_⟩
  obtain ⟨q, hq, rfl⟩ := List.mem_map.1 hp
  obtain ⟨k, hk, rfl⟩ := List.getElem_of_mem hq
  exact h k hk

theorem l1Sectors_any (a : Option Addr) (n c : Nat) (a2 : Option Addr) (n2 c2 : Nat) (w : World) (hn : n ≤ maxLen) :
    Calls Try.prog 40 #[.agg #[.slice a n c, .slice a2 n2 c2]] w fun e w' => e = .returned (.int .i64 (n / 512 : Nat)) ∧ w' = w.alloc (.cells #[.slice a n c, .slice a2 n2 c2] 32) := by
  unfold maxLen at hn
  go_enter Try.func40, Try.ntmps40
  go_wp2
  go_ret
  exact ⟨ret_int (by omega), rfl⟩
theorem countSectors_any (a : Option Addr) (n c : Nat) (a2 : Option Addr) (n2 c2 : Nat) (w : World) (hn : n ≤ maxLen) :
    Calls Try.prog 48 #[.agg #[.slice a n c, .slice a2 n2 c2]] w fun e w' => e = .returned (.int .i64 (n / 512 : Nat)) ∧ w' = w.alloc (.cells #[.slice a n c, .slice a2 n2 c2] 32) := by
  unfold maxLen at hn
  go_enter Try.func48, Try.ntmps48
  go_wp2
  go_ret
  exact ⟨ret_int (by omega), rfl⟩

theorem specValid_head (a : Option Addr) (n c : Nat) (a2 : Option Addr) (n2 c2 : Nat) (w : World) (hn : n ≤ maxLen) (hn2 : n2 ≤ maxLen) (h : ¬ validHead n n2) :
    Calls Try.prog 39 #[.agg #[.slice a n c, .slice a2 n2 c2]] w fun e w' => e = .returned (.bool false) ∧ Same w w' := by
  have hm := hn
  have hm2 := hn2
  unfold maxLen at hn hn2
  by_cases h1 : n % 512 = 0
  · have t1 : ((n : Int) % 512 != 0) = false := by simp; omega
    by_cases h2 : n / 512 < 1
    · have t2 : (n : Int) / 512 < 1 := by omega
      go_enter Try.func39, Try.ntmps39
      go_wp2_with (go_at_call 40; refine (l1Sectors_any _ _ _ _ _ _ _ hm).mono ?_; rintro e w' ⟨rfl, rfl⟩)
      go_ret
      exact ⟨rfl, ((Kept.refl _ _).alloc _).alloc _⟩
    · have t2 : ¬ (n : Int) / 512 < 1 := by omega
      by_cases h3 : 1024 < n / 512
      · have t3 : 1024 < (n : Int) / 512 := by omega
        go_enter Try.func39, Try.ntmps39
        go_wp2_with (go_at_call 40; refine (l1Sectors_any _ _ _ _ _ _ _ hm).mono ?_; rintro e w' ⟨rfl, rfl⟩)
        go_ret
        exact ⟨rfl, ((Kept.refl _ _).alloc _).alloc _⟩
      · have t3 : ¬ 1024 < (n : Int) / 512 := by omega
        have h4 : 8192 < n2 := by unfold validHead at h; omega
        have t4 : 8192 < (n2 : Int) := by omega
        clear h
        go_enter Try.func39, Try.ntmps39
        go_wp2_with (go_at_call 40; refine (l1Sectors_any _ _ _ _ _ _ _ hm).mono ?_; rintro e w' ⟨rfl, rfl⟩)
        go_ret
        exact ⟨rfl, ((Kept.refl _ _).alloc _).alloc _⟩
  · have t1 : ((n : Int) % 512 != 0) = true := by simp; omega
    go_enter Try.func39, Try.ntmps39
    go_wp2_with (go_at_call 40; refine (l1Sectors_any _ _ _ _ _ _ _ hm).mono ?_; rintro e w' ⟨rfl, rfl⟩)
    go_ret
    exact ⟨rfl, ((Kept.refl _ _).alloc _).alloc _⟩

theorem specValid_loop (a : Option Addr) (n c : Nat) (v : Value) (ps : List PW) (w : World) (hn : n ≤ maxLen) (hp : RdP w v ps) (h : validHead n ps.length) :
    Calls Try.prog 39 #[.agg #[.slice a n c, v]] w fun e w' => Says e (Valid n (dataP ps)) ∧ Same w w' := by
  have hm := hn
  have hn2 := hp.len
  unfold maxLen at hn hn2
  obtain ⟨h1, h2, h3, h4⟩ := id h
  have t1 : ((n : Int) % 512 != 0) = false := by simp; omega
  have t2 : ¬ (n : Int) / 512 < 1 := by omega
  have t3 : ¬ 1024 < (n : Int) / 512 := by omega
  have t4 : ¬ 8192 < (ps.length : Int) := by omega
  have HH : Hid (validHead n ps.length) := h
  clear h h1 h2 h3 h4
  rcases hp.row with ⟨rfl, a2, c2, rfl⟩ | ⟨b, off, c2, rfl, hc⟩
  · have HV : Hid (Valid n (dataP [])) := valid_yes HH.out (fun k hk => by simp at hk)
    clear hp hn2 t4
    go_enter Try.func39, Try.ntmps39
    go_wp2_with (go_at_call 40; refine (l1Sectors_any _ _ _ _ _ _ _ hm).mono ?_; rintro e w' ⟨rfl, rfl⟩)
    refine wp_loop_rounds 1 ?_
    rw [rounds_succ]
    go_wp2
    go_ret
    exact ⟨says_true HV.out, ((Kept.refl _ _).alloc _).alloc _⟩
  · have HP : Hid (RdP w (.slice (some ⟨b, off, none⟩) ps.length c2) ps) := hp
    have HC : Hid (∀ i (h : i < ps.length), w.cell? ⟨b, off + i * 2, none⟩ = some (.int .i64 ps[i].sec) ∧ w.cell? ⟨b, off + i * 2 + 1, none⟩ = some ps[i].v) := hc
    clear hp hc
    generalize hl : ps.length = len at hn2 t4 HP HH ⊢
    have HL : Hid (ps.length = len) := hl
    clear hl
    go_enter Try.func39, Try.ntmps39
    go_wp2_with (go_at_call 40; refine (l1Sectors_any _ _ _ _ _ _ _ hm).mono ?_; rintro e w' ⟨rfl, rfl⟩)
    go_loop [4] (fun i => ∃ k : Nat, k ≤ len ∧ i = .int .i64 k ∧ Hid (∀ j (hj : j < ps.length), j < k → validP (n / 512) (ps[j].sec, ps[j].bs))) (fun i => len - (intOf i).toNat)
    case atStart => exact ⟨0, Nat.zero_le _, rfl, fun j _ h => by omega⟩
    case round =>
      obtain ⟨k, hk, rfl, HV⟩ := hrel
      by_cases hlt : k < len
      · have hlp : k < ps.length := by rw [HL.out]; exact hlt
        obtain ⟨a1, c1, e1⟩ := (HP.out.data _ (List.getElem_mem hlp)).form
        have hm1 := (HP.out.data _ (List.getElem_mem hlp)).1
        unfold maxLen at hm1
        have hbw : b < w.heap.size := World.block_lt_of_cell? w ⟨b, off + k * 2, none⟩ (HC.out k hlp).1
        have q1 := (HC.out k hlp).1
        have q2 := (HC.out k hlp).2
        rw [e1] at q2
        clear e1
        have HN : Hid (¬ validP (n / 512) (ps[k].sec, ps[k].bs) → ¬ Valid n (dataP ps)) := fun h => valid_no_at hlp h
        have HE : Hid (validP (n / 512) (ps[k].sec, ps[k].bs) ↔ 0 ≤ ps[k].sec ∧ ps[k].sec < (n / 512 : Nat) ∧ ps[k].bs.length = 512) := Iff.rfl
        generalize hsec : ps[k].sec = sec at q1 HN HE
        generalize hbl : ps[k].bs.length = bl at q2 hm1 HE
        have HS : Hid (ps[k].sec = sec) := hsec
        clear hsec hbl
        by_cases s1 : sec < 0
        · go_wp2
          go_ret
          exact ⟨says_false (HN.out (fun hv => by have := HE.out.1 hv; omega)), ((Kept.refl _ _).alloc _).alloc _⟩
        · by_cases s2 : (n : Int) / 512 ≤ sec
          · go_wp2
            go_ret
            exact ⟨says_false (HN.out (fun hv => by have := HE.out.1 hv; omega)), ((Kept.refl _ _).alloc _).alloc _⟩
          · by_cases s3 : bl = 512
            · have s4 : ((bl : Int) != 512) = false := by simp; omega
              go_wp2
              go_round
              case rel =>
                refine ⟨k + 1, by omega, by go_num, fun j hj hjk => ?_⟩
                by_cases e : j = k
                · subst e
                  rw [HS.out]
                  exact HE.out.2 ⟨by omega, by omega, s3⟩
                · exact HV.out j hj (by omega)
              case measure => simp [intOf]; omega
            · have s4 : ((bl : Int) != 512) = true := by simp; omega
              go_wp2
              go_ret
              exact ⟨says_false (HN.out (fun hv => by have := HE.out.1 hv; omega)), ((Kept.refl _ _).alloc _).alloc _⟩
      · go_wp2
        go_ret
        obtain rfl : k = len := by omega
        have h2 := HL.out
        have hv := valid_yes (ps := ps) (by rw [h2]; exact HH.out) (fun j hj => HV.out j hj (by omega))
        exact ⟨says_true hv, ((Kept.refl _ _).alloc _).alloc _⟩

theorem implValid_head (a : Option Addr) (n c : Nat) (a2 : Option Addr) (n2 c2 : Nat) (w : World) (hn : n ≤ maxLen) (hn2 : n2 ≤ maxLen) (h : ¬ validHead n n2) :
    Calls Try.prog 47 #[.agg #[.slice a n c, .slice a2 n2 c2]] w fun e w' => e = .returned (.bool false) ∧ Same w w' := by
  have hm := hn
  unfold maxLen at hn hn2
  by_cases h2 : n / 512 < 1
  · have t2 : (n : Int) / 512 < 1 := by omega
    go_enter Try.func47, Try.ntmps47
    go_wp2_with (go_at_call 48; refine (countSectors_any _ _ _ _ _ _ _ hm).mono ?_; rintro e w' ⟨rfl, rfl⟩)
    go_ret
    exact ⟨rfl, ((Kept.refl _ _).alloc _).alloc _⟩
  · have t2 : ¬ (n : Int) / 512 < 1 := by omega
    by_cases h3 : 1024 < n / 512
    · have t3 : 1024 < (n : Int) / 512 := by omega
      go_enter Try.func47, Try.ntmps47
      go_wp2_with (go_at_call 48; refine (countSectors_any _ _ _ _ _ _ _ hm).mono ?_; rintro e w' ⟨rfl, rfl⟩)
      go_ret
      exact ⟨rfl, ((Kept.refl _ _).alloc _).alloc _⟩
    · have t3 : ¬ 1024 < (n : Int) / 512 := by omega
      by_cases h1 : n % 512 = 0
      · have t1 : ((n : Int) % 512 != 0) = false := by simp; omega
        have h4 : 8192 < n2 := by unfold validHead at h; omega
        have t4 : 8192 < (n2 : Int) := by omega
        clear h
        go_enter Try.func47, Try.ntmps47
        go_wp2_with (go_at_call 48; refine (countSectors_any _ _ _ _ _ _ _ hm).mono ?_; rintro e w' ⟨rfl, rfl⟩)
        go_ret
        exact ⟨rfl, ((Kept.refl _ _).alloc _).alloc _⟩
      · have t1 : ((n : Int) % 512 != 0) = true := by simp; omega
        go_enter Try.func47, Try.ntmps47
        go_wp2_with (go_at_call 48; refine (countSectors_any _ _ _ _ _ _ _ hm).mono ?_; rintro e w' ⟨rfl, rfl⟩)
        go_ret
        exact ⟨rfl, ((Kept.refl _ _).alloc _).alloc _⟩

theorem implValid_loop (a : Option Addr) (n c : Nat) (v : Value) (ps : List PW) (w : World) (hn : n ≤ maxLen) (hp : RdP w v ps) (h : validHead n ps.length) :
    Calls Try.prog 47 #[.agg #[.slice a n c, v]] w fun e w' => Says e (Valid n (dataP ps)) ∧ Same w w' := by
  have hm := hn
  have hn2 := hp.len
  unfold maxLen at hn hn2
  obtain ⟨h1, h2, h3, h4⟩ := id h
  have t1 : ((n : Int) % 512 != 0) = false := by simp; omega
  have t2 : ¬ (n : Int) / 512 < 1 := by omega
  have t3 : ¬ 1024 < (n : Int) / 512 := by omega
  have t4 : ¬ 8192 < (ps.length : Int) := by omega
  have HH : Hid (validHead n ps.length) := h
  clear h h1 h2 h3 h4
  rcases hp.row with ⟨rfl, a2, c2, rfl⟩ | ⟨b, off, c2, rfl, hc⟩
  · have HV : Hid (Valid n (dataP [])) := valid_yes HH.out (fun k hk => by simp at hk)
    clear hp hn2 t4
    go_enter Try.func47, Try.ntmps47
    go_wp2_with (go_at_call 48; refine (countSectors_any _ _ _ _ _ _ _ hm).mono ?_; rintro e w' ⟨rfl, rfl⟩)
    refine wp_loop_rounds 1 ?_
    rw [rounds_succ]
    go_wp2
    go_ret
    exact ⟨says_true HV.out, ((Kept.refl _ _).alloc _).alloc _⟩
  · have HP : Hid (RdP w (.slice (some ⟨b, off, none⟩) ps.length c2) ps) := hp
    have HC : Hid (∀ i (h : i < ps.length), w.cell? ⟨b, off + i * 2, none⟩ = some (.int .i64 ps[i].sec) ∧ w.cell? ⟨b, off + i * 2 + 1, none⟩ = some ps[i].v) := hc
    clear hp hc
    generalize hl : ps.length = len at hn2 t4 HP HH ⊢
    have HL : Hid (ps.length = len) := hl
    clear hl
    go_enter Try.func47, Try.ntmps47
    go_wp2_with (go_at_call 48; refine (countSectors_any _ _ _ _ _ _ _ hm).mono ?_; rintro e w' ⟨rfl, rfl⟩)
    go_loopw [28] (fun i wr => ∃ k : Nat, k ≤ len ∧ i = .int .i64 k ∧ Hid (∀ j (hj : j < ps.length), j < k → validP (n / 512) (ps[j].sec, ps[j].bs)) ∧ Hid (Same w wr)) (fun i _ => len - (intOf i).toNat)
    case atStart => exact ⟨0, Nat.zero_le _, rfl, fun j _ h => by omega, ((Kept.refl _ _).alloc _).alloc _⟩
    case round =>
      obtain ⟨k, hk, rfl, HV, HK⟩ := hrel
      by_cases hlt : k < len
      · have hlp : k < ps.length := by rw [HL.out]; exact hlt
        obtain ⟨a1, c1, e1⟩ := (HP.out.data _ (List.getElem_mem hlp)).form
        have hm1 := (HP.out.data _ (List.getElem_mem hlp)).1
        unfold maxLen at hm1
        have q1 := HK.out.cellOf (HC.out k hlp).1 id
        have q2 := HK.out.cellOf (HC.out k hlp).2 id
        rw [e1] at q2
        clear e1
        have HN : Hid (¬ validP (n / 512) (ps[k].sec, ps[k].bs) → ¬ Valid n (dataP ps)) := fun h => valid_no_at hlp h
        have HE : Hid (validP (n / 512) (ps[k].sec, ps[k].bs) ↔ 0 ≤ ps[k].sec ∧ ps[k].sec < (n / 512 : Nat) ∧ ps[k].bs.length = 512) := Iff.rfl
        generalize hsec : ps[k].sec = sec at q1 HN HE
        generalize hbl : ps[k].bs.length = bl at q2 hm1 HE
        have HS : Hid (ps[k].sec = sec) := hsec
        clear hsec hbl
        by_cases s1 : sec < 0
        · go_wp2
          go_ret
          exact ⟨says_false (HN.out (fun hv => by have := HE.out.1 hv; omega)), HK.out.alloc _⟩
        · by_cases s2 : (n : Int) / 512 ≤ sec
          · go_wp2
            go_ret
            exact ⟨says_false (HN.out (fun hv => by have := HE.out.1 hv; omega)), HK.out.alloc _⟩
          · by_cases s3 : bl = 512
            · have s4 : ((bl : Int) != 512) = false := by simp; omega
              go_wp2
              go_roundw
              case rel =>
                refine ⟨k + 1, by omega, by go_num, fun j hj hjk => ?_, HK.out.alloc _⟩
                by_cases e : j = k
                · subst e
                  rw [HS.out]
                  exact HE.out.2 ⟨by omega, by omega, s3⟩
                · exact HV.out j hj (by omega)
              case measure => simp [intOf]; omega
            · have s4 : ((bl : Int) != 512) = true := by simp; omega
              go_wp2
              go_ret
              exact ⟨says_false (HN.out (fun hv => by have := HE.out.1 hv; omega)), HK.out.alloc _⟩
      · go_wp2
        go_ret
        obtain rfl : k = len := by omega
        have h2 := HL.out
        have hv := valid_yes (ps := ps) (by rw [h2]; exact HH.out) (fun j hj => HV.out j hj (by omega))
        exact ⟨says_true hv, HK.out⟩

/-- Both say just whether the disk is valid. -/
theorem specValid_any (dv pv : Value) (dur : List Int) (ps : List PW) (w : World) (hp : RdD w dv pv dur ps) :
    Calls Try.prog 39 #[.agg #[dv, pv]] w fun e w' => Says e (Valid dur.length (dataP ps)) ∧ Same w w' := by
  obtain ⟨a1, c1, rfl⟩ := hp.dur.form
  by_cases h : validHead dur.length ps.length
  · exact specValid_loop a1 dur.length c1 pv ps w hp.dur.1 hp.pend h
  · obtain ⟨a2, c2, rfl⟩ := hp.pend.form
    exact (specValid_head a1 _ c1 a2 _ c2 w hp.dur.1 hp.pend.len h).mono fun e w' ⟨he, hk⟩ => ⟨by rw [he]; exact says_false (valid_no_head h), hk⟩
theorem implValid_any (dv pv : Value) (dur : List Int) (ps : List PW) (w : World) (hp : RdD w dv pv dur ps) :
    Calls Try.prog 47 #[.agg #[dv, pv]] w fun e w' => Says e (Valid dur.length (dataP ps)) ∧ Same w w' := by
  obtain ⟨a1, c1, rfl⟩ := hp.dur.form
  by_cases h : validHead dur.length ps.length
  · exact implValid_loop a1 dur.length c1 pv ps w hp.dur.1 hp.pend h
  · obtain ⟨a2, c2, rfl⟩ := hp.pend.form
    exact (implValid_head a1 _ c1 a2 _ c2 w hp.dur.1 hp.pend.len h).mono fun e w' ⟨he, hk⟩ => ⟨by rw [he]; exact says_false (valid_no_head h), hk⟩
end Go.Proofs.Ytednajibnjofmaa
