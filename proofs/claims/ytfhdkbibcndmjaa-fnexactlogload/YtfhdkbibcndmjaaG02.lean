import Derived.Test.YtfhdkbibcndmjaaG01
import Derived.Test.YtfhdkbibcndmjaaG00
import Derived.WalkKit
import Derived.OrdersHeld
import Derived.Deep.RegionHeld3
namespace Go.Proofs.Ytfhdkbibcndmjaa
set_option maxHeartbeats 2000000
open Go.RowKit
def Says (e : Ending) (P : Prop) : Prop := ∃ B : Bool, e = .returned (.bool B) ∧ (B = true ↔ P)
theorem says_true {P : Prop} (h : P) : Says (.returned (.bool true)) P := ⟨true, rfl, fun _ => h, fun _ => rfl⟩
theorem says_false {P : Prop} (h : ¬ P) : Says (.returned (.bool false)) P := ⟨false, rfl, fun h => by simp at h, fun hp => absurd hp h⟩
def validP (n : Nat) (p : Int × List Int) : Prop := 0 ≤ p.1 ∧ p.1 < n ∧ p.2.length = 512
def validHead (len m : Nat) : Prop := len % 512 = 0 ∧ 1 ≤ len / 512 ∧ len / 512 ≤ 1024 ∧ m ≤ 8192
def Valid (len : Nat) (ds : List (Int × List Int)) : Prop := validHead len ds.length ∧ ∀ p ∈ ds, validP (len / 512) p
theorem valid_no_at {len : Nat} {ps : List PW} {k : Nat} (h : k < ps.length) (hp : ¬ validP (len / 512) (ps[k].sec, ps[k].bs)) : ¬ Valid len (dataP ps) :=
  fun hv => hp (hv.2 _ (List.mem_map.2 ⟨ps[k], List.getElem_mem h, rfl⟩))
theorem valid_no_head {len : Nat} {ps : List PW} (hp : ¬ validHead len ps.length) : ¬ Valid len (dataP ps) :=
  fun hv => hp (by have := hv.1; rwa [dataP_length] at this)
theorem valid_yes {len : Nat} {ps : List PW} (hh : validHead len ps.length) (h : ∀ k (hk : k < ps.length), validP (len / 512) (ps[k].sec, ps[k].bs)) : Valid len (dataP ps) := by
  refine ⟨by rw [dataP_length]; exact hh, fun p hp => ?_⟩
  obtain ⟨q, hq, rfl⟩ := List.mem_map.1 hp
  obtain ⟨k, hk, rfl⟩ := List.getElem_of_mem hq
  exact h k hk
theorem l1Sectors_any (a : Option Addr) (n c : Nat) (a2 : Option Addr) (n2 c2 : Nat) (w : World) (hn : n ≤ maxLen) :
    Calls Try.prog 50 #[.agg #[.slice a n c, .slice a2 n2 c2]] w fun e w' => e = .returned (.int .i64 (n / 512 : Nat)) ∧ w' = w.alloc (.cells #[.slice a n c, .slice a2 n2 c2] 25) := by
  unfold maxLen at hn
  go_enter Try.func50, Try.ntmps50
  go_wp2
  go_ret
  exact ⟨ret_int (by omega), rfl⟩
theorem countSectors_any (a : Option Addr) (n c : Nat) (a2 : Option Addr) (n2 c2 : Nat) (w : World) (hn : n ≤ maxLen) :
    Calls Try.prog 51 #[.agg #[.slice a n c, .slice a2 n2 c2]] w fun e w' => e = .returned (.int .i64 (n / 512 : Nat)) ∧ w' = w.alloc (.cells #[.slice a n c, .slice a2 n2 c2] 25) := by
  unfold maxLen at hn
  go_enter Try.func51, Try.ntmps51
  go_wp2
  go_ret
  exact ⟨ret_int (by omega), rfl⟩
theorem specValid_head (a : Option Addr) (n c : Nat) (a2 : Option Addr) (n2 c2 : Nat) (w : World) (hn : n ≤ maxLen) (hn2 : n2 ≤ maxLen) (h : ¬ validHead n n2) :
    Calls Try.prog 9 #[.agg #[.slice a n c, .slice a2 n2 c2]] w fun e w' => e = .returned (.bool false) ∧ Same w w' := by
  have hm := hn
  have hm2 := hn2
  unfold maxLen at hn hn2
  by_cases h1 : n % 512 = 0
  · have t1 : ((n : Int) % 512 != 0) = false := by simp; omega
    by_cases h2 : n / 512 < 1
    · have t2 : (n : Int) / 512 < 1 := by omega
      go_enter Try.func9, Try.ntmps9
      go_wp2_with (go_at_call 50; refine (l1Sectors_any _ _ _ _ _ _ _ hm).mono ?_; rintro e w' ⟨rfl, rfl⟩)
      go_ret
      exact ⟨rfl, ((Kept.refl _ _).alloc _).alloc _⟩
    · have t2 : ¬ (n : Int) / 512 < 1 := by omega
      by_cases h3 : 1024 < n / 512
      · have t3 : 1024 < (n : Int) / 512 := by omega
        go_enter Try.func9, Try.ntmps9
        go_wp2_with (go_at_call 50; refine (l1Sectors_any _ _ _ _ _ _ _ hm).mono ?_; rintro e w' ⟨rfl, rfl⟩)
        go_ret
        exact ⟨rfl, ((Kept.refl _ _).alloc _).alloc _⟩
      · have t3 : ¬ 1024 < (n : Int) / 512 := by omega
        have h4 : 8192 < n2 := by unfold validHead at h; omega
        have t4 : 8192 < (n2 : Int) := by omega
        clear h
        go_enter Try.func9, Try.ntmps9
        go_wp2_with (go_at_call 50; refine (l1Sectors_any _ _ _ _ _ _ _ hm).mono ?_; rintro e w' ⟨rfl, rfl⟩)
        go_ret
        exact ⟨rfl, ((Kept.refl _ _).alloc _).alloc _⟩
  · have t1 : ((n : Int) % 512 != 0) = true := by simp; omega
    go_enter Try.func9, Try.ntmps9
    go_wp2_with (go_at_call 50; refine (l1Sectors_any _ _ _ _ _ _ _ hm).mono ?_; rintro e w' ⟨rfl, rfl⟩)
    go_ret
    exact ⟨rfl, ((Kept.refl _ _).alloc _).alloc _⟩
theorem specValid_loop (a : Option Addr) (n c : Nat) (v : Value) (ps : List PW) (w : World) (hn : n ≤ maxLen) (hp : RdP w v ps) (h : validHead n ps.length) :
    Calls Try.prog 9 #[.agg #[.slice a n c, v]] w fun e w' => Says e (Valid n (dataP ps)) ∧ Same w w' := by
  have hm := hn
  have hn2 := hp.len
  unfold maxLen at hn hn2
  obtain ⟨h1, h2, h3, h4⟩ := id h
  have t1 : ((n : Int) % 512 != 0) = false := by simp; omega
  have t2 : ¬ (n : Int) / 512 < 1 := by omega
  have t3 : ¬ 1024 < (n : Int) / 512 := by omega
  have t4 : ¬ 8192 < (ps.length : Int) := by omega
  have HH : Hid (validHead n ps.length) := h
  clear h h1 h2 h3 h4
  rcases hp.row with ⟨rfl, a2, c2, rfl⟩ | ⟨b, off, c2, rfl, hc⟩
  · have HV : Hid (Valid n (dataP [])) := valid_yes HH.out (fun k hk => by simp at hk)
    clear hp hn2 t4
    go_enter Try.func9, Try.ntmps9
    go_wp2_with (go_at_call 50; refine (l1Sectors_any _ _ _ _ _ _ _ hm).mono ?_; rintro e w' ⟨rfl, rfl⟩)
    refine wp_loop_rounds 1 ?_
    rw [rounds_succ]
    go_wp2
    go_ret
    exact ⟨says_true HV.out, ((Kept.refl _ _).alloc _).alloc _⟩
  · have HP : Hid (RdP w (.slice (some ⟨b, off, none⟩) ps.length c2) ps) := hp
    have HC : Hid (∀ i (h : i < ps.length), w.cell? ⟨b, off + i * 2, none⟩ = some (.int .i64 ps[i].sec) ∧ w.cell? ⟨b, off + i * 2 + 1, none⟩ = some ps[i].v) := hc
    clear hp hc
    generalize hl : ps.length = len at hn2 t4 HP HH ⊢
    have HL : Hid (ps.length = len) := hl
    clear hl
    go_enter Try.func9, Try.ntmps9
    go_wp2_with (go_at_call 50; refine (l1Sectors_any _ _ _ _ _ _ _ hm).mono ?_; rintro e w' ⟨rfl, rfl⟩)
    go_loop [4] (fun i => ∃ k : Nat, k ≤ len ∧ i = .int .i64 k ∧ Hid (∀ j (hj : j < ps.length), j < k → validP (n / 512) (ps[j].sec, ps[j].bs))) (fun i => len - (intOf i).toNat)
    case atStart => exact ⟨0, Nat.zero_le _, rfl, fun j _ h => by omega⟩
    case round =>
      obtain ⟨k, hk, rfl, HV⟩ := hrel
      by_cases hlt : k < len
      · have hlp : k < ps.length := by rw [HL.out]; exact hlt
        obtain ⟨a1, c1, e1⟩ := (HP.out.data _ (List.getElem_mem hlp)).form
        have hm1 := (HP.out.data _ (List.getElem_mem hlp)).1
        unfold maxLen at hm1
        have hbw : b < w.heap.size := World.block_lt_of_cell? w ⟨b, off + k * 2, none⟩ (HC.out k hlp).1
        have q1 := (HC.out k hlp).1
        have q2 := (HC.out k hlp).2
        rw [e1] at q2
        clear e1
        have HN : Hid (¬ validP (n / 512) (ps[k].sec, ps[k].bs) → ¬ Valid n (dataP ps)) := fun h => valid_no_at hlp h
        have HE : Hid (validP (n / 512) (ps[k].sec, ps[k].bs) ↔ 0 ≤ ps[k].sec ∧ ps[k].sec < (n / 512 : Nat) ∧ ps[k].bs.length = 512) := Iff.rfl
        generalize hsec : ps[k].sec = sec at q1 HN HE
        generalize hbl : ps[k].bs.length = bl at q2 hm1 HE
        have HS : Hid (ps[k].sec = sec) := hsec
        clear hsec hbl
        by_cases s1 : sec < 0
        · go_wp2
          go_ret
          exact ⟨says_false (HN.out (fun hv => by have := HE.out.1 hv; omega)), ((Kept.refl _ _).alloc _).alloc _⟩
        · by_cases s2 : (n : Int) / 512 ≤ sec
          · go_wp2
            go_ret
            exact ⟨says_false (HN.out (fun hv => by have := HE.out.1 hv; omega)), ((Kept.refl _ _).alloc _).alloc _⟩
          · by_cases s3 : bl = 512
            · have s4 : ((bl : Int) != 512) = false := by simp; omega
              go_wp2
              go_round
              case rel =>
                refine ⟨k + 1, by omega, by go_num, fun j hj hjk => ?_⟩
                by_cases e : j = k
                · subst e
                  rw [HS.out]
                  exact HE.out.2 ⟨by omega, by omega, s3⟩
                · exact HV.out j hj (by omega)
              case measure => simp [intOf]; omega
            · have s4 : ((bl : Int) != 512) = true := by simp; omega
              go_wp2
              go_ret
              exact ⟨says_false (HN.out (fun hv => by have := HE.out.1 hv; omega)), ((Kept.refl _ _).alloc _).alloc _⟩
      · go_wp2
        go_ret
        obtain rfl : k = len := by omega
        have h2 := HL.out
        have hv := valid_yes (ps := ps) (by rw [h2]; exact HH.out) (fun j hj => HV.out j hj (by omega))
        exact ⟨says_true hv, ((Kept.refl _ _).alloc _).alloc _⟩
theorem implValid_head (a : Option Addr) (n c : Nat) (a2 : Option Addr) (n2 c2 : Nat) (w : World) (hn : n ≤ maxLen) (hn2 : n2 ≤ maxLen) (h : ¬ validHead n n2) :
    Calls Try.prog 10 #[.agg #[.slice a n c, .slice a2 n2 c2]] w fun e w' => e = .returned (.bool false) ∧ Same w w' := by
  have hm := hn
  unfold maxLen at hn hn2
  by_cases h2 : n / 512 < 1
  · have t2 : (n : Int) / 512 < 1 := by omega
    go_enter Try.func10, Try.ntmps10
    go_wp2_with (go_at_call 51; refine (countSectors_any _ _ _ _ _ _ _ hm).mono ?_; rintro e w' ⟨rfl, rfl⟩)
    go_ret
    exact ⟨rfl, ((Kept.refl _ _).alloc _).alloc _⟩
  · have t2 : ¬ (n : Int) / 512 < 1 := by omega
    by_cases h3 : 1024 < n / 512
    · have t3 : 1024 < (n : Int) / 512 := by omega
      go_enter Try.func10, Try.ntmps10
      go_wp2_with (go_at_call 51; refine (countSectors_any _ _ _ _ _ _ _ hm).mono ?_; rintro e w' ⟨rfl, rfl⟩)
      go_ret
      exact ⟨rfl, ((Kept.refl _ _).alloc _).alloc _⟩
    · have t3 : ¬ 1024 < (n : Int) / 512 := by omega
      by_cases h1 : n % 512 = 0
      · have t1 : ((n : Int) % 512 != 0) = false := by simp; omega
        have h4 : 8192 < n2 := by unfold validHead at h; omega
        have t4 : 8192 < (n2 : Int) := by omega
        clear h
        go_enter Try.func10, Try.ntmps10
        go_wp2_with (go_at_call 51; refine (countSectors_any _ _ _ _ _ _ _ hm).mono ?_; rintro e w' ⟨rfl, rfl⟩)
        go_ret
        exact ⟨rfl, ((Kept.refl _ _).alloc _).alloc _⟩
      · have t1 : ((n : Int) % 512 != 0) = true := by simp; omega
        go_enter Try.func10, Try.ntmps10
        go_wp2_with (go_at_call 51; refine (countSectors_any _ _ _ _ _ _ _ hm).mono ?_; rintro e w' ⟨rfl, rfl⟩)
        go_ret
        exact ⟨rfl, ((Kept.refl _ _).alloc _).alloc _⟩
theorem implValid_loop (a : Option Addr) (n c : Nat) (v : Value) (ps : List PW) (w : World) (hn : n ≤ maxLen) (hp : RdP w v ps) (h : validHead n ps.length) :
    Calls Try.prog 10 #[.agg #[.slice a n c, v]] w fun e w' => Says e (Valid n (dataP ps)) ∧ Same w w' := by
  have hm := hn
  have hn2 := hp.len
  unfold maxLen at hn hn2
  obtain ⟨h1, h2, h3, h4⟩ := id h
  have t1 : ((n : Int) % 512 != 0) = false := by simp; omega
  have t2 : ¬ (n : Int) / 512 < 1 := by omega
  have t3 : ¬ 1024 < (n : Int) / 512 := by omega
  have t4 : ¬ 8192 < (ps.length : Int) := by omega
  have HH : Hid (validHead n ps.length) := h
  clear h h1 h2 h3 h4
  rcases hp.row with ⟨rfl, a2, c2, rfl⟩ | ⟨b, off, c2, rfl, hc⟩
  · have HV : Hid (Valid n (dataP [])) := valid_yes HH.out (fun k hk => by simp at hk)
    clear hp hn2 t4
    go_enter Try.func10, Try.ntmps10
    go_wp2_with (go_at_call 51; refine (countSectors_any _ _ _ _ _ _ _ hm).mono ?_; rintro e w' ⟨rfl, rfl⟩)
    refine wp_loop_rounds 1 ?_
    rw [rounds_succ]
    go_wp2
    go_ret
    exact ⟨says_true HV.out, ((Kept.refl _ _).alloc _).alloc _⟩
  · have HP : Hid (RdP w (.slice (some ⟨b, off, none⟩) ps.length c2) ps) := hp
    have HC : Hid (∀ i (h : i < ps.length), w.cell? ⟨b, off + i * 2, none⟩ = some (.int .i64 ps[i].sec) ∧ w.cell? ⟨b, off + i * 2 + 1, none⟩ = some ps[i].v) := hc
    clear hp hc
    generalize hl : ps.length = len at hn2 t4 HP HH ⊢
    have HL : Hid (ps.length = len) := hl
    clear hl
    go_enter Try.func10, Try.ntmps10
    go_wp2_with (go_at_call 51; refine (countSectors_any _ _ _ _ _ _ _ hm).mono ?_; rintro e w' ⟨rfl, rfl⟩)
    go_loopw [28] (fun i wr => ∃ k : Nat, k ≤ len ∧ i = .int .i64 k ∧ Hid (∀ j (hj : j < ps.length), j < k → validP (n / 512) (ps[j].sec, ps[j].bs)) ∧ Hid (Same w wr)) (fun i _ => len - (intOf i).toNat)
    case atStart => exact ⟨0, Nat.zero_le _, rfl, fun j _ h => by omega, ((Kept.refl _ _).alloc _).alloc _⟩
    case round =>
      obtain ⟨k, hk, rfl, HV, HK⟩ := hrel
      by_cases hlt : k < len
      · have hlp : k < ps.length := by rw [HL.out]; exact hlt
        obtain ⟨a1, c1, e1⟩ := (HP.out.data _ (List.getElem_mem hlp)).form
        have hm1 := (HP.out.data _ (List.getElem_mem hlp)).1
        unfold maxLen at hm1
        have q1 := HK.out.cellOf (HC.out k hlp).1 id
        have q2 := HK.out.cellOf (HC.out k hlp).2 id
        rw [e1] at q2
        clear e1
        have HN : Hid (¬ validP (n / 512) (ps[k].sec, ps[k].bs) → ¬ Valid n (dataP ps)) := fun h => valid_no_at hlp h
        have HE : Hid (validP (n / 512) (ps[k].sec, ps[k].bs) ↔ 0 ≤ ps[k].sec ∧ ps[k].sec < (n / 512 : Nat) ∧ ps[k].bs.length = 512) := Iff.rfl
        generalize hsec : ps[k].sec = sec at q1 HN HE
        generalize hbl : ps[k].bs.length = bl at q2 hm1 HE
        have HS : Hid (ps[k].sec = sec) := hsec
        clear hsec hbl
        by_cases s1 : sec < 0
        · go_wp2
          go_ret
          exact ⟨says_false (HN.out (fun hv => by have := HE.out.1 hv; omega)), HK.out.alloc _⟩
        · by_cases s2 : (n : Int) / 512 ≤ sec
          · go_wp2
            go_ret
            exact ⟨says_false (HN.out (fun hv => by have := HE.out.1 hv; omega)), HK.out.alloc _⟩
          · by_cases s3 : bl = 512
            · have s4 : ((bl : Int) != 512) = false := by simp; omega
              go_wp2
              go_roundw
              case rel =>
                refine ⟨k + 1, by omega, by go_num, fun j hj hjk => ?_, HK.out.alloc _⟩
                by_cases e : j = k
                · subst e
                  rw [HS.out]
                  exact HE.out.2 ⟨by omega, by omega, s3⟩
                · exact HV.out j hj (by omega)
              case measure => simp [intOf]; omega
            · have s4 : ((bl : Int) != 512) = true := by simp; omega
              go_wp2
              go_ret
              exact ⟨says_false (HN.out (fun hv => by have := HE.out.1 hv; omega)), HK.out.alloc _⟩
      · go_wp2
        go_ret
        obtain rfl : k = len := by omega
        have h2 := HL.out
        have hv := valid_yes (ps := ps) (by rw [h2]; exact HH.out) (fun j hj => HV.out j hj (by omega))
        exact ⟨says_true hv, HK.out⟩
theorem specValid_any (dv pv : Value) (dur : List Int) (ps : List PW) (w : World) (hp : RdD w dv pv dur ps) :
    Calls Try.prog 9 #[.agg #[dv, pv]] w fun e w' => Says e (Valid dur.length (dataP ps)) ∧ Same w w' := by
  obtain ⟨a1, c1, rfl⟩ := hp.dur.form
  by_cases h : validHead dur.length ps.length
  · exact specValid_loop a1 dur.length c1 pv ps w hp.dur.1 hp.pend h
  · obtain ⟨a2, c2, rfl⟩ := hp.pend.form
    exact (specValid_head a1 _ c1 a2 _ c2 w hp.dur.1 hp.pend.len h).mono fun e w' ⟨he, hk⟩ => ⟨by rw [he]; exact says_false (valid_no_head h), hk⟩
theorem implValid_any (dv pv : Value) (dur : List Int) (ps : List PW) (w : World) (hp : RdD w dv pv dur ps) :
    Calls Try.prog 10 #[.agg #[dv, pv]] w fun e w' => Says e (Valid dur.length (dataP ps)) ∧ Same w w' := by
  obtain ⟨a1, c1, rfl⟩ := hp.dur.form
  by_cases h : validHead dur.length ps.length
  · exact implValid_loop a1 dur.length c1 pv ps w hp.dur.1 hp.pend h
  · obtain ⟨a2, c2, rfl⟩ := hp.pend.form
    exact (implValid_head a1 _ c1 a2 _ c2 w hp.dur.1 hp.pend.len h).mono fun e w' ⟨he, hk⟩ => ⟨by rw [he]; exact says_false (valid_no_head h), hk⟩
end Go.Proofs.Ytfhdkbibcndmjaa

namespace Go.Proofs.Ytfhdkbibcndmjaa
open Go.RowKit
set_option linter.unusedVariables false
set_option linter.unusedSimpArgs false
theorem Rd.part {k : IntKind} {w : World} {b off n c : Nat} {bs : List Int} (h : ∀ i, i < bs.length → w.cell? ⟨b, off + i, none⟩ = some (.int k (bs.getD i 0))) (lo m : Nat) (hm : lo + m ≤ bs.length) (hn : n = m) (hc : m ≤ c) (hmax : m ≤ maxLen) :
    Rd k w (.slice (some ⟨b, off + lo, none⟩) n c) ((bs.drop lo).take m) := by
  have hl : ((bs.drop lo).take m).length = m := by simp; omega
  refine ⟨by omega, .inr ⟨b, off + lo, c, by rw [hn, hl], by rw [hl]; exact hc, fun i hi => ?_⟩⟩
  rw [hl] at hi
  have h1 := h (lo + i) (by omega)
  rw [← Nat.add_assoc] at h1
  rw [h1]
  simp [List.getD, hi]
end Go.Proofs.Ytfhdkbibcndmjaa

namespace Go.Proofs.Ytfhdkbibcndmjaa
set_option maxHeartbeats 2000000
open Go.RowKit
def lastP (s : Int) : List (Int × List Int) → Option (List Int)
  | [] => none
  | p :: ps => match lastP s ps with
    | some bs => some bs
    | none => if p.1 = s then some p.2 else none
theorem lastP_none (s : Int) (ds : List (Int × List Int)) (h : ∀ p ∈ ds, p.1 ≠ s) : lastP s ds = none := by
  induction ds with
  | nil => rfl
  | cons p ds ih => simp [lastP, ih (fun q hq => h q (List.mem_cons_of_mem _ hq)), h p (List.mem_cons_self ..)]
theorem lastP_append_none (s : Int) (ds es : List (Int × List Int)) (h : ∀ p ∈ es, p.1 ≠ s) : lastP s (ds ++ es) = lastP s ds := by
  induction ds with
  | nil => simpa [lastP] using lastP_none s es h
  | cons p ds ih => simp [lastP, ih]
theorem lastP_snoc (s : Int) (ds : List (Int × List Int)) (bs : List Int) : lastP s (ds ++ [(s, bs)]) = some bs := by
  induction ds with
  | nil => simp [lastP]
  | cons p ds ih => simp [lastP, ih]
def seeD (s : Int) (dur : List Int) (ds : List (Int × List Int)) : List Int := (lastP s ds).getD ((dur.drop (s.toNat * 512)).take 512)
theorem seeD_at {s : Int} {dur : List Int} {ps : List PW} {k : Nat} (hk : k < ps.length) (hs : ps[k].sec = s) (h : ∀ j (hj : j < ps.length), k < j → ps[j].sec ≠ s) : seeD s dur (dataP ps) = ps[k].bs := by
  have e : dataP ps = (dataP (ps.take k) ++ [(s, ps[k].bs)]) ++ dataP (ps.drop (k + 1)) := by
    have e1 : ps = ps.take k ++ (ps[k] :: ps.drop (k + 1)) := by rw [← List.drop_eq_getElem_cons hk, List.take_append_drop]
    have e2 : dataP ps = dataP (ps.take k ++ (ps[k] :: ps.drop (k + 1))) := congrArg dataP e1
    have e3 : dataP (ps.take k ++ (ps[k] :: ps.drop (k + 1))) = dataP (ps.take k) ++ ((ps[k].sec, ps[k].bs) :: dataP (ps.drop (k + 1))) := by
      unfold dataP
      rw [List.map_append, List.map_cons]
    rw [e2, e3, hs, List.append_assoc]
    rfl
  unfold seeD
  rw [e, lastP_append_none, lastP_snoc]
  · rfl
  · intro p hp
    obtain ⟨q, hq, rfl⟩ := List.mem_map.1 hp
    obtain ⟨j, hj, rfl⟩ := List.getElem_of_mem hq
    simp only [List.length_drop] at hj
    rw [List.getElem_drop]
    exact h _ (by omega) (by omega)
theorem seeD_none {s : Int} {dur : List Int} {ps : List PW} (h : ∀ j (hj : j < ps.length), ps[j].sec ≠ s) : seeD s dur (dataP ps) = (dur.drop (s.toNat * 512)).take 512 := by
  unfold seeD
  rw [lastP_none]
  · rfl
  · intro p hp
    obtain ⟨q, hq, rfl⟩ := List.mem_map.1 hp
    obtain ⟨j, hj, rfl⟩ := List.getElem_of_mem hq
    exact h j hj
theorem l1See_any (dv pv : Value) (dur : List Int) (ps : List PW) (s : Int) (w : World) (h0 : 0 ≤ s) (h1 : s ≤ 1048576) (h2 : (s.toNat + 1) * 512 ≤ dur.length) (hd : dur.length ≤ 1099511627776) (hs : ∀ p ∈ ps, p.bs.length ≤ 1099511627776) (hv : RdD w dv pv dur ps) :
    Calls Try.prog 77 #[.agg #[dv, pv], .int .i64 s] w fun e w' => ∃ a n c, e = .returned (.slice a n c) ∧ Own 0 5 .u8 w' (.slice a n c) (seeD s dur (dataP ps)) ∧ (∀ b, (Value.slice a n c).ownBlock = some b → w.heap.size ≤ b) ∧ Same w w' := by
  have hn2 := hv.pend.len
  unfold maxLen at hn2
  obtain ⟨sn, rfl⟩ : ∃ sn : Nat, s = sn := ⟨s.toNat, by omega⟩
  simp only [Int.toNat_natCast] at h2
  obtain ⟨b0, o0, c0, rfl, hl0, hc0⟩ : ∃ b off c, dv = .slice (some ⟨b, off, none⟩) dur.length c ∧ dur.length ≤ c ∧ ∀ i, i < dur.length → w.cell? ⟨b, off + i, none⟩ = some (.int .u8 (dur.getD i 0)) := by
    rcases hv.dur.2 with ⟨rfl, _⟩ | h
    · simp at h2
    · exact h
  have e1 : ((sn : Int) * 512).toNat = sn * 512 := by omega
  have e2 : (((sn : Int) + 1) * 512).toNat = sn * 512 + 512 := by omega
  have g1 : ((sn : Int) + 1) * 512 ≤ (c0 : Int) := by omega
  have g2 : 0 ≤ ((sn : Int) + 1) * 512 := by omega
  have g3 : (sn : Int) * 512 ≤ ((sn : Int) + 1) * 512 := by omega
  have HC0 : Hid (∀ i, i < dur.length → w.cell? ⟨b0, o0 + i, none⟩ = some (.int .u8 (dur.getD i 0))) := hc0
  have HD : Hid (∀ wx, Same w wx → ∀ c, 512 ≤ c → Rd .u8 wx (.slice (some ⟨b0, o0 + sn * 512, none⟩) 512 c) ((dur.drop (sn * 512)).take 512)) := fun wx hk c h512 =>
    Rd.part (fun i hi => hk.cellOf (hc0 i hi) id) (sn * 512) 512 (by omega) rfl h512 (by simp [maxLen])
  clear hc0
  rcases hv.pend.row with ⟨rfl, a2, c2, rfl⟩ | ⟨b, off, c2, rfl, hc⟩
  · clear hv hn2 hs
    go_enter Try.func77, Try.ntmps77
    go_wp2
    refine wp_loop_rounds 1 ?_
    rw [rounds_succ]
    go_wp2_with fail
    refine (l1Copy_any _ _ _ (by simp; omega) (HD.out _ ((Kept.refl _ _).alloc _) (c0 - sn * 512) (by omega))).mono ?_
    rintro e w1 ⟨a, n, c, rfl, ho, hf, hk⟩
    have HO := (show Hid (Own 0 5 .u8 w1 (.slice a n c) ((dur.drop (sn * 512)).take 512)) from ho)
    have HF : Hid (∀ b, (Value.slice a n c).ownBlock = some b → w.heap.size ≤ b) := fun b hb => by have := hf b hb; simp at this; omega
    have HK : Hid (Same w w1) := ((Kept.refl _ _).alloc _).trans hk
    clear ho hf hk
    go_wp2
    go_ret
    exact ⟨a, n, c, rfl, HO.out, HF.out, HK.out⟩
  · have HP : Hid (RdP w (.slice (some ⟨b, off, none⟩) ps.length c2) ps) := hv.pend
    have HC : Hid (∀ i (h : i < ps.length), w.cell? ⟨b, off + i * 2, none⟩ = some (.int .i64 ps[i].sec) ∧ w.cell? ⟨b, off + i * 2 + 1, none⟩ = some ps[i].v) := hc
    have HS : Hid (∀ p ∈ ps, p.bs.length ≤ 1099511627776) := hs
    clear hv hc hs
    generalize hl : ps.length = len at hn2 HP ⊢
    have HL : Hid (ps.length = len) := hl
    clear hl
    by_cases hz : len = 0
    · subst hz
      have HN : Hid (seeD sn dur (dataP ps) = (dur.drop (sn * 512)).take 512) := by
        have h := seeD_none (s := sn) (dur := dur) (ps := ps) (fun j hj => by have := HL.out; omega)
        simpa [Hid] using h
      go_enter Try.func77, Try.ntmps77
      go_wp2
      refine wp_loop_rounds 1 ?_
      rw [rounds_succ]
      go_wp2_with fail
      refine (l1Copy_any _ _ _ (by simp; omega) (HD.out _ ((Kept.refl _ _).alloc _) (c0 - sn * 512) (by omega))).mono ?_
      rintro e w1 ⟨a, n, c, rfl, ho, hf, hk⟩
      rw [← HN.out] at ho
      have HO := (show Hid (Own 0 5 .u8 w1 (.slice a n c) (seeD sn dur (dataP ps))) from ho)
      have HF : Hid (∀ b, (Value.slice a n c).ownBlock = some b → w.heap.size ≤ b) := fun b hb => by have := hf b hb; simp at this; omega
      have HK : Hid (Same w w1) := ((Kept.refl _ _).alloc _).trans hk
      clear ho hf hk HN
      go_wp2
      go_ret
      exact ⟨a, n, c, rfl, HO.out, HF.out, HK.out⟩
    · go_enter Try.func77, Try.ntmps77
      go_wp2
      go_loop [5] (fun i => (∃ k : Nat, k < len ∧ i = .int .i64 k ∧ Hid (∀ j (hj : j < ps.length), k < j → ps[j].sec ≠ sn)) ∨ (i = .int .i64 (-1) ∧ Hid (∀ j (hj : j < ps.length), ps[j].sec ≠ sn))) (fun i => (intOf i + 1).toNat)
      case atStart => exact .inl ⟨len - 1, by omega, by congr 1; omega, fun j hj h => by have := HL.out; omega⟩
      case round =>
        rcases hrel with ⟨k, hlt, rfl, HV⟩ | ⟨rfl, HV⟩
        · have hlp : k < ps.length := by rw [HL.out]; exact hlt
          obtain ⟨a1, c1, ev1⟩ := (HP.out.data _ (List.getElem_mem hlp)).form
          have hrd := (HP.out.data _ (List.getElem_mem hlp)).same (w' := w.alloc (.cells #[.slice (some ⟨b0, o0, none⟩) dur.length c0, .slice (some ⟨b, off, none⟩) len c2] 25)) ((Kept.refl _ _).alloc _)
          have hm1 := HS.out _ (List.getElem_mem hlp)
          have hbw : b < w.heap.size := World.block_lt_of_cell? w ⟨b, off + k * 2, none⟩ (HC.out k hlp).1
          have q1 := (HC.out k hlp).1
          have q2 := (HC.out k hlp).2
          rw [ev1] at q2 hrd
          have HRD := (show Hid (Rd .u8 (w.alloc (.cells #[.slice (some ⟨b0, o0, none⟩) dur.length c0, .slice (some ⟨b, off, none⟩) len c2] 25)) (.slice a1 ps[k].bs.length c1) ps[k].bs) from hrd)
          clear ev1 hrd
          by_cases hs : ps[k].sec = sn
          · have HE : Hid (seeD sn dur (dataP ps) = ps[k].bs) := seeD_at hlp hs HV.out
            rw [hs] at q1
            clear hs
            go_wp2_with fail
            refine (l1Copy_any _ ps[k].bs _ hm1 HRD.out).mono ?_
            rintro e w1 ⟨a, n, c, rfl, ho, hf, hk⟩
            rw [← HE.out] at ho
            have HO := (show Hid (Own 0 5 .u8 w1 (.slice a n c) (seeD sn dur (dataP ps))) from ho)
            have HF : Hid (∀ b, (Value.slice a n c).ownBlock = some b → w.heap.size ≤ b) := fun b hb => by have := hf b hb; simp at this; omega
            have HK : Hid (Same w w1) := ((Kept.refl _ _).alloc _).trans hk
            clear ho hf hk HE
            go_wp2
            go_ret
            exact ⟨a, n, c, rfl, HO.out, HF.out, HK.out⟩
          · have hs' : (ps[k].sec == (sn : Int)) = false := by simpa using hs
            have HSS : Hid (ps[k].sec ≠ sn) := hs
            generalize ps[k].sec = sec at q1 hs'
            clear hs HRD hm1
            go_wp2
            go_round
            case rel =>
              by_cases hk0 : k = 0
              · refine .inr ⟨by congr 1; omega, fun j hj => ?_⟩
                by_cases e : j = k
                · subst e; exact HSS.out
                · exact HV.out j hj (by omega)
              · refine .inl ⟨k - 1, by omega, by congr 1; omega, fun j hj h => ?_⟩
                by_cases e : j = k
                · subst e; exact HSS.out
                · exact HV.out j hj (by omega)
            case measure => simp [intOf]
        · have HN : Hid (seeD sn dur (dataP ps) = (dur.drop (sn * 512)).take 512) := by
            have h := seeD_none (s := sn) (dur := dur) (ps := ps) HV.out
            simpa [Hid] using h
          go_wp2_with fail
          refine (l1Copy_any _ _ _ (by simp; omega) (HD.out _ ((Kept.refl _ _).alloc _) (c0 - sn * 512) (by omega))).mono ?_
          rintro e w1 ⟨a, n, c, rfl, ho, hf, hk⟩
          rw [← HN.out] at ho
          have HO := (show Hid (Own 0 5 .u8 w1 (.slice a n c) (seeD sn dur (dataP ps))) from ho)
          have HF : Hid (∀ b, (Value.slice a n c).ownBlock = some b → w.heap.size ≤ b) := fun b hb => by have := hf b hb; simp at this; omega
          have HK : Hid (Same w w1) := ((Kept.refl _ _).alloc _).trans hk
          clear ho hf hk HN
          go_wp2
          go_ret
          exact ⟨a, n, c, rfl, HO.out, HF.out, HK.out⟩
def IsRead (s : Int) (dur : List Int) (ds : List (Int × List Int)) (bs : List Int) : Prop :=
  (Valid dur.length ds ∧ 0 ≤ s ∧ s < (dur.length / 512 : Nat) ∧ bs = seeD s dur ds) ∨ (¬ (Valid dur.length ds ∧ 0 ≤ s ∧ s < (dur.length / 512 : Nat)) ∧ bs = [])
theorem IsRead.one {s : Int} {dur : List Int} {ds : List (Int × List Int)} {bs cs : List Int} (h : IsRead s dur ds bs) (k : IsRead s dur ds cs) : bs = cs := by
  rcases h with ⟨h1, h2, h3, rfl⟩ | ⟨h, rfl⟩ <;> rcases k with ⟨k1, k2, k3, rfl⟩ | ⟨k, rfl⟩
  · rfl
  · exact absurd ⟨h1, h2, h3⟩ k
  · exact absurd ⟨k1, k2, k3⟩ h
  · rfl
theorem lastP_mem (s : Int) (ds : List (Int × List Int)) (bs : List Int) (h : lastP s ds = some bs) : ∃ p ∈ ds, p.2 = bs := by
  induction ds with
  | nil => simp [lastP] at h
  | cons p ds ih =>
    unfold lastP at h
    split at h
    · next cs hc =>
      obtain ⟨q, hq, e⟩ := ih (by rw [hc, ← h])
      exact ⟨q, List.mem_cons_of_mem _ hq, e⟩
    · split at h
      · simp at h
        exact ⟨p, List.mem_cons_self .., h⟩
      · simp at h
theorem IsRead.len {s : Int} {dur : List Int} {ds : List (Int × List Int)} {bs : List Int} (h : IsRead s dur ds bs) : bs.length ≤ 512 := by
  rcases h with ⟨hv, _, _, rfl⟩ | ⟨_, rfl⟩
  · unfold seeD
    cases hl : lastP s ds with
    | none => simp; omega
    | some cs =>
      obtain ⟨p, hp, rfl⟩ := lastP_mem s ds cs hl
      have := (hv.2 p hp).2.2
      simp [this]
  · simp
theorem implRead_any (dv pv : Value) (dur : List Int) (ps : List PW) (s : Int) (w : World) (hd : dur.length ≤ 1099511627776) (hs : ∀ p ∈ ps, p.bs.length ≤ 1099511627776) (hv : RdD w dv pv dur ps) :
    Calls Try.prog 18 #[.agg #[dv, pv], .int .i64 s] w fun e w' => ∃ a n c bs, e = .returned (.slice a n c) ∧ IsRead s dur (dataP ps) bs ∧ Own 0 5 .u8 w' (.slice a n c) bs ∧ (∀ b, (Value.slice a n c).ownBlock = some b → w.heap.size ≤ b) ∧ Same w w' := by
  have hn2 := hv.pend.len
  unfold maxLen at hn2
  obtain ⟨a1, c1, e1⟩ := hv.dur.form
  obtain ⟨a2, c2, e2⟩ := hv.pend.form
  have hm := hv.dur.1
  have HP : Hid (RdP w pv ps) := hv.pend
  have HV0 : Hid (Rd .u8 w dv dur) := hv.dur
  subst e1 e2
  have HV := (show Hid (RdD w (.slice a1 dur.length c1) (.slice a2 ps.length c2) dur ps) from hv)
  have HS : Hid (∀ p ∈ ps, p.bs.length ≤ 1099511627776) := hs
  clear hv hs
  go_enter Try.func18, Try.ntmps18
  go_wp2_with fail
  refine (implValid_any _ _ dur ps _ (HV.out.same ((Kept.refl _ _).alloc _))).mono ?_
  rintro e w1 ⟨⟨B, rfl, hB⟩, hk1⟩
  have HB1 : Hid (Box w1 w.heap.size (.slice a1 dur.length c1) (.slice a2 ps.length c2)) := (Box.new _ _ _ _).same hk1
  have HK1 : Hid (Same w w1) := ((Kept.refl _ _).alloc _).trans hk1
  clear hk1
  obtain ⟨p1, p2⟩ := HB1.out
  have hl1 := HB1.out.lt
  cases B with
  | false =>
    have HN : Hid (¬ Valid dur.length (dataP ps)) := fun h => by have := hB.2 h; simp at this
    clear hB
    go_wp2
    go_ret
    exact ⟨_, _, _, [], rfl, .inr ⟨fun h => HN.out h.1, rfl⟩, Own.nil _ _ _ _, fun b hb => by simp [Value.ownBlock] at hb, HK1.out⟩
  | true =>
    have HY : Hid (Valid dur.length (dataP ps)) := hB.1 rfl
    clear hB
    by_cases s1 : s < 0
    · go_wp2
      go_ret
      exact ⟨_, _, _, [], rfl, .inr ⟨fun h => by omega, rfl⟩, Own.nil _ _ _ _, fun b hb => by simp [Value.ownBlock] at hb, HK1.out⟩
    · by_cases s2 : (dur.length : Int) / 512 ≤ s
      · go_wp2_with (go_at_call 51; refine (countSectors_any _ _ _ _ _ _ _ hm).mono ?_; rintro e w' ⟨rfl, rfl⟩)
        go_ret
        exact ⟨_, _, _, [], rfl, .inr ⟨fun h => by omega, rfl⟩, Own.nil _ _ _ _, fun b hb => by simp [Value.ownBlock] at hb, HK1.out.alloc _⟩
      · have s3 : ((dur.length / 512 : Nat) : Int) ≤ 1024 := by have := HY.out.1.2.2.1; omega
        obtain ⟨sn, rfl⟩ : ∃ sn : Nat, s = sn := ⟨s.toNat, by omega⟩
        have h2 : (sn + 1) * 512 ≤ dur.length := by omega
        obtain ⟨b0, o0, hl0, rfl, hc0⟩ : ∃ b off, dur.length ≤ c1 ∧ a1 = some ⟨b, off, none⟩ ∧ ∀ i, i < dur.length → w.cell? ⟨b, off + i, none⟩ = some (.int .u8 (dur.getD i 0)) := by
          rcases HV0.out.2 with ⟨rfl, _⟩ | ⟨b, off, c, e, hl, hc⟩
          · simp at h2
          · simp only [Value.slice.injEq, true_and] at e
            obtain ⟨rfl, rfl⟩ := e
            exact ⟨b, off, hl, rfl, hc⟩
        have e1 : ((sn : Int) * 512).toNat = sn * 512 := by omega
        have e2 : ((sn : Int) * 512 + 512).toNat = sn * 512 + 512 := by omega
        have g1 : (sn : Int) * 512 + 512 ≤ (c1 : Int) := by omega
        have g2 : 0 ≤ (sn : Int) * 512 + 512 := by omega
        have HD : Hid (∀ wx, Same w1 wx → ∀ c, 512 ≤ c → Rd .u8 wx (.slice (some ⟨b0, o0 + sn * 512, none⟩) 512 c) ((dur.drop (sn * 512)).take 512)) := fun wx hk c h512 =>
          Rd.part (fun i hi => (HK1.out.trans hk).cellOf (hc0 i hi) id) (sn * 512) 512 (by omega) rfl h512 (by simp [maxLen])
        clear hc0 HV0 HV
        by_cases hz : ps.length = 0
        · have HN : Hid (seeD sn dur (dataP ps) = (dur.drop (sn * 512)).take 512) := by
            have h := seeD_none (s := sn) (dur := dur) (ps := ps) (fun j hj => by omega)
            simpa [Hid] using h
          go_wp2_with (go_at_call 51; refine (countSectors_any _ _ _ _ _ _ _ hm).mono ?_; rintro e w' ⟨rfl, rfl⟩)
          refine wp_loop_rounds 1 ?_
          rw [rounds_succ]
          go_wp2_with fail
          refine (clone_any _ _ _ (by simp; omega) (HD.out _ ((Kept.refl _ _).alloc _) (c1 - sn * 512) (by omega))).mono ?_
          rintro e w2 ⟨a, n, c, rfl, ho, hf, hk⟩
          rw [← HN.out] at ho
          have HO := (show Hid (Own 0 5 .u8 w2 (.slice a n c) (seeD sn dur (dataP ps))) from ho)
          have HF : Hid (∀ b, (Value.slice a n c).ownBlock = some b → w.heap.size ≤ b) := fun b hb => by have h1 := hf b hb; have h2 := HK1.out.size; simp at h1; omega
          have HK : Hid (Same w w2) := (HK1.out.alloc _).trans hk
          clear ho hf hk HN
          go_wp2
          go_ret
          exact ⟨a, n, c, _, rfl, .inl ⟨HY.out, by omega, by omega, rfl⟩, HO.out, HF.out, HK.out⟩
        · obtain ⟨b, off, rfl, hc⟩ : ∃ b off, a2 = some ⟨b, off, none⟩ ∧ ∀ i (h : i < ps.length), w.cell? ⟨b, off + i * 2, none⟩ = some (.int .i64 ps[i].sec) ∧ w.cell? ⟨b, off + i * 2 + 1, none⟩ = some ps[i].v := by
            rcases HP.out.row with ⟨rfl, _⟩ | ⟨b, off, c, e, hc⟩
            · simp at hz
            · simp only [Value.slice.injEq, true_and] at e
              obtain ⟨rfl, rfl⟩ := e
              exact ⟨b, off, rfl, hc⟩
          have HC : Hid (∀ i (h : i < ps.length), w.cell? ⟨b, off + i * 2, none⟩ = some (.int .i64 ps[i].sec) ∧ w.cell? ⟨b, off + i * 2 + 1, none⟩ = some ps[i].v) := hc
          clear hc
          go_wp2_with (go_at_call 51; refine (countSectors_any _ _ _ _ _ _ _ hm).mono ?_; rintro e w' ⟨rfl, rfl⟩)
          go_loop [5] (fun i => (∃ k : Nat, k < ps.length ∧ i = .int .i64 k ∧ Hid (∀ j (hj : j < ps.length), k < j → ps[j].sec ≠ sn)) ∨ (i = .int .i64 (-1) ∧ Hid (∀ j (hj : j < ps.length), ps[j].sec ≠ sn))) (fun i => (intOf i + 1).toNat)
          case atStart => exact .inl ⟨ps.length - 1, by omega, by congr 1; omega, fun j hj h => by omega⟩
          case round =>
            rcases hrel with ⟨k, hlp, rfl, HV⟩ | ⟨rfl, HV⟩
            · obtain ⟨a3, c3, ev1⟩ := (HP.out.data _ (List.getElem_mem hlp)).form
              have hrd := (HP.out.data _ (List.getElem_mem hlp)).same (w' := w1.alloc (.cells #[.slice (some ⟨b0, o0, none⟩) dur.length c1, .slice (some ⟨b, off, none⟩) ps.length c2] 25)) (HK1.out.alloc _)
              have hm1 := HS.out _ (List.getElem_mem hlp)
              have q1 := HK1.out.cellOf (HC.out k hlp).1 id
              have q2 := HK1.out.cellOf (HC.out k hlp).2 id
              have hbw : b < w1.heap.size := World.block_lt_of_cell? w1 ⟨b, off + k * 2, none⟩ q1
              rw [ev1] at q2 hrd
              have HRD := (show Hid (Rd .u8 (w1.alloc (.cells #[.slice (some ⟨b0, o0, none⟩) dur.length c1, .slice (some ⟨b, off, none⟩) ps.length c2] 25)) (.slice a3 ps[k].bs.length c3) ps[k].bs) from hrd)
              clear ev1 hrd
              by_cases hs : ps[k].sec = sn
              · have HN : Hid (seeD sn dur (dataP ps) = ps[k].bs) := seeD_at hlp hs HV.out
                rw [hs] at q1
                clear hs
                go_wp2_with fail
                refine (clone_any _ ps[k].bs _ hm1 HRD.out).mono ?_
                rintro e w2 ⟨a, n, c, rfl, ho, hf, hk⟩
                rw [← HN.out] at ho
                have HO := (show Hid (Own 0 5 .u8 w2 (.slice a n c) (seeD sn dur (dataP ps))) from ho)
                have HF : Hid (∀ b, (Value.slice a n c).ownBlock = some b → w.heap.size ≤ b) := fun b hb => by have h1 := hf b hb; have h2 := HK1.out.size; simp at h1; omega
                have HK : Hid (Same w w2) := (HK1.out.alloc _).trans hk
                clear ho hf hk HN
                go_wp2
                go_ret
                exact ⟨a, n, c, _, rfl, .inl ⟨HY.out, by omega, by omega, rfl⟩, HO.out, HF.out, HK.out⟩
              · have hs' : (ps[k].sec == (sn : Int)) = false := by simpa using hs
                have HSS : Hid (ps[k].sec ≠ sn) := hs
                generalize ps[k].sec = sec at q1 hs'
                clear hs HRD hm1
                go_wp2
                go_round
                case rel =>
                  by_cases hk0 : k = 0
                  · refine .inr ⟨by congr 1; omega, fun j hj => ?_⟩
                    by_cases e : j = k
                    · subst e; exact HSS.out
                    · exact HV.out j hj (by omega)
                  · refine .inl ⟨k - 1, by omega, by congr 1; omega, fun j hj h => ?_⟩
                    by_cases e : j = k
                    · subst e; exact HSS.out
                    · exact HV.out j hj (by omega)
                case measure => simp [intOf]
            · have HN : Hid (seeD sn dur (dataP ps) = (dur.drop (sn * 512)).take 512) := by
                have h := seeD_none (s := sn) (dur := dur) (ps := ps) HV.out
                simpa [Hid] using h
              go_wp2_with fail
              refine (clone_any _ _ _ (by simp; omega) (HD.out _ ((Kept.refl _ _).alloc _) (c1 - sn * 512) (by omega))).mono ?_
              rintro e w2 ⟨a, n, c, rfl, ho, hf, hk⟩
              rw [← HN.out] at ho
              have HO := (show Hid (Own 0 5 .u8 w2 (.slice a n c) (seeD sn dur (dataP ps))) from ho)
              have HF : Hid (∀ b, (Value.slice a n c).ownBlock = some b → w.heap.size ≤ b) := fun b hb => by have h1 := hf b hb; have h2 := HK1.out.size; simp at h1; omega
              have HK : Hid (Same w w2) := (HK1.out.alloc _).trans hk
              clear ho hf hk HN
              go_wp2
              go_ret
              exact ⟨a, n, c, _, rfl, .inl ⟨HY.out, by omega, by omega, rfl⟩, HO.out, HF.out, HK.out⟩
end Go.Proofs.Ytfhdkbibcndmjaa

namespace Go.Proofs.Ytfhdkbibcndmjaa
open Go
section
variable {P : Program} {ops : Array Oper} {Q : Exit → Act → World → Prop} {md : Region.Mode} {S : World → Prop} {s : Nat}
def wpAnyV (P : Program) (md : Region.Mode) (ops : Array Oper) (Q : Exit → Act → World → Prop) (S : World → Prop) (s : Nat) : Nat → Array Bool → Act → World → Prop
  | 0, listed, a, w => Region.ready md ops listed = [] ∧ Q .normal a w
  | fuel + 1, listed, a, w =>
    (Region.ready md ops listed = [] → Q .normal a w) ∧
    ∀ i ∈ Region.ready md ops listed, wpOp P ops Q i (fun a' w' => (i ≠ s → S w') ∧ wpAnyV P md ops Q S s fuel (listed.setIfInBounds i true) a' w') a w
theorem wpAny_of_V : ∀ (fuel : Nat) (listed : Array Bool) (a : Act) (w : World), wpAnyV P md ops Q S s fuel listed a w → wpAny P md ops Q fuel listed a w
  | 0, _, _, _, h => h
  | fuel + 1, _, _, _, h => ⟨h.1, fun i hi => wpOp_mono (fun a' w' h' => wpAny_of_V fuel _ a' w' h'.2) (h.2 i hi)⟩
def waits (md : Region.Mode) (ops : Array Oper) (s i : Nat) : Bool :=
  match ops[s]? with
  | some o => o.after.any fun e => Region.binds md e && e.on == i
  | none => true
theorem waits_spec {i : Nat} (h : waits md ops s i = true) {os : Oper} (ho : ops[s]? = some os) (hn : ∀ e ∈ os.after, Region.binds md e = true → e.on ≠ i) : False := by
  unfold waits at h
  rw [ho] at h
  obtain ⟨e, he, hb⟩ := Array.any_eq_true'.1 h
  simp only [Bool.and_eq_true, beq_iff_eq] at hb
  exact hn e he hb.1 hb.2
theorem ready_apart {listed : Array Bool} {i j : Nat} (hi : i ∈ Region.ready md ops listed) (hj : j ∈ Region.ready md ops listed) {oj : Oper} (hoj : ops[j]? = some oj) :
    ∀ e ∈ oj.after, Region.binds md e = true → e.on ≠ i := by
  rintro e he hb rfl
  obtain ⟨_, o, ho, hall⟩ := mem_ready.1 hj
  obtain rfl : o = oj := by rw [hoj] at ho; exact (Option.some.inj ho).symm
  have hyes := hall e he hb
  have hno := (mem_ready.1 hi).1
  by_cases hl : e.on < listed.size <;> simp_all
def Loose (md : Region.Mode) (ops : Array Oper) (i : Nat) (oi : Oper) (listed : Array Bool) : Prop :=
  ∀ j oj, ops[j]? = some oj → j ≠ i → listed.getD j true = false → (∀ e ∈ oj.after, Region.binds md e = true → e.on ≠ i) → oi.apart ops oj = true
theorem Loose.on {i j : Nat} {oi : Oper} {listed : Array Bool} (h : Loose md ops i oi listed) (hj : listed.getD j true = false) : Loose md ops i oi (listed.setIfInBounds j true) := fun k ok hk hki hun hno =>
  h k ok hk hki (if e : j = k then e ▸ hj else (getD_set_ne true e) ▸ hun) hno
theorem wpAnyV_first {i : Nat} {oi : Oper} {v : Value} (hi : ops[i]? = some oi) (hsel : ∀ (j : Nat) (o : Oper) cs b, ops[j]? = some o → o.op ≠ .select cs b) (hs : waits md ops s i = true)
    (hQ : ∀ c a w, Q (.panic c) (a.put oi.dst v) w → Q (.panic c) a w) (fuel : Nat) : ∀ (listed : Array Bool) (a : Act) (w : World), Loose md ops i oi listed → i ∈ Region.ready md ops listed → YieldsIf P ops S oi v a → S w →
      wpAnyV P md ops Q S s fuel (listed.setIfInBounds i true) (a.put oi.dst v) w → wpAnyV P md ops Q S s (fuel + 1) listed a w := by
  induction fuel with
  | zero =>
    intro listed a w _ hr hy hS H
    constructor
    · intro h0; simp [h0] at hr
    · intro j hj
      by_cases e : j = i
      · exact e ▸ hy.wpOp hi hS ⟨fun _ => hS, H⟩
      · have := ready_mono hj e
        simp [H.1] at this
  | succ fuel ih =>
    intro listed a w hl hr hy hS H
    constructor
    · intro h0; simp [h0] at hr
    · intro j hj
      by_cases e : j = i
      · exact e ▸ hy.wpOp hi hS ⟨fun _ => hS, H⟩
      · obtain ⟨hun, oj, hoj, _⟩ := mem_ready.1 hj
        have hap := ready_apart hr hj hoj
        have hjs : j ≠ s := fun es => waits_spec hs (es ▸ hoj) hap
        refine wpOp_mono ?_ (wpOp_putIf hoj (hl j oj hoj e hun hap) (fun cs b => hsel i oi cs b hi) (fun cs b => hsel j oj cs b hoj) hQ hy (H.2 j (ready_mono hj e)))
        rintro a' w' ⟨hy', hS', hw'⟩
        exact ⟨hS', ih _ a' w' (hl.on hun) (ready_mono hr (Ne.symm e)) hy' (hS' hjs) (by rw [Array.setIfInBounds_comm _ _ e]; exact hw')⟩
theorem wpAnyV_take {i : Nat} {oi : Oper} {v : Value} {fuel : Nat} {listed : Array Bool} {a : Act} {w : World} (d : Option Tmp) (hi : ops[i]? = some oi) (hd : oi.dst = d)
    (hsl : Region.noSelect ops = true) (hf : Region.free md ops listed i = true) (hr : (Region.ready md ops listed).contains i = true) (hs : waits md ops s i = true)
    (hQ : ∀ c a w, Q (.panic c) (a.put d v) w → Q (.panic c) a w) (hy : YieldsIf P ops S oi v a) (hS : S w)
    (h : wpAnyV P md ops Q S s fuel (listed.setIfInBounds i true) (a.put d v) w) : wpAnyV P md ops Q S s (fuel + 1) listed a w := by
  subst hd
  exact wpAnyV_first hi (Region.noSelect_spec hsl) hs hQ fuel listed a w (Region.free_spec hi hf) (by simpa using hr) hy hS h
theorem sA {α : Type} {l : List α} {i : Nat} {a : α} : l.toArray.setIfInBounds i a = (l.set i a).toArray := List.setIfInBounds_toArray ..
theorem s0 {α : Type} {x : α} {xs : List α} {a : α} : (x :: xs).set 0 a = a :: xs := List.set_cons_zero
theorem sS {α : Type} {x : α} {xs : List α} {i : Nat} {a : α} : (x :: xs).set (i + 1) a = x :: xs.set i a := List.set_cons_succ
theorem tk (i d : Nat) {oi : Oper} {v : Value} {fuel : Nat} {listed : Array Bool} {a a' : Act} {w : World} (hS : S w)
    (h : wpAnyV P md ops Q S s fuel (listed.setIfInBounds i true) a' w) (hi : ops[i]? = some oi := by rfl) (hg : Region.wanted oi (yielded ops a.tmps) = true := by rfl) (hd : oi.dst = some d := by rfl)
    (hy : ∀ w, S w → (execOp a.eval oi).run P w = .ok (.value v) w := by intro w hSw; (try dsimp only at hSw); go_simp; (try with_reducible rfl))
    (hsl : Region.noSelect ops = true := by kernel_rfl) (hf : Region.free md ops listed i = true := by kernel_rfl) (hr : (Region.ready md ops listed).contains i = true := by kernel_rfl) (hs : waits md ops s i = true := by kernel_rfl)
    (hQ : ∀ c a w, Q (.panic c) (a.put (some d) v) w → Q (.panic c) a w := by exact fun _ _ _ h => h)
    (ha : a.put (some d) v = a' := by first | (simp only [Act.put, sA, s0, sS]; done) | (simp only [Act.put, sA, s0, sS]; rfl) | rfl) : wpAnyV P md ops Q S s (fuel + 1) listed a w :=
  wpAnyV_take (some d) hi hd hsl hf hr hs hQ (Or.inl ⟨hg, hy⟩) hS (ha ▸ h)
theorem tkV (i d : Nat) (v : Value) {oi : Oper} {fuel : Nat} {listed : Array Bool} {a a' : Act} {w : World} (hS : S w)
    (h : wpAnyV P md ops Q S s fuel (listed.setIfInBounds i true) a' w) (hi : ops[i]? = some oi := by rfl) (hg : Region.wanted oi (yielded ops a.tmps) = true := by rfl) (hd : oi.dst = some d := by rfl)
    (hy : ∀ w, S w → (execOp a.eval oi).run P w = .ok (.value v) w := by intro w hSw; (try dsimp only at hSw); go_simp; (try omega))
    (hsl : Region.noSelect ops = true := by kernel_rfl) (hf : Region.free md ops listed i = true := by kernel_rfl) (hr : (Region.ready md ops listed).contains i = true := by kernel_rfl) (hs : waits md ops s i = true := by kernel_rfl)
    (hQ : ∀ c a w, Q (.panic c) (a.put (some d) v) w → Q (.panic c) a w := by exact fun _ _ _ h => h)
    (ha : a.put (some d) v = a' := by first | (simp only [Act.put, sA, s0, sS]; done) | (simp only [Act.put, sA, s0, sS]; rfl) | rfl) : wpAnyV P md ops Q S s (fuel + 1) listed a w :=
  wpAnyV_take (some d) hi hd hsl hf hr hs hQ (Or.inl ⟨hg, hy⟩) hS (ha ▸ h)
theorem tkS (i d : Nat) {oi : Oper} {fuel : Nat} {listed : Array Bool} {a a' : Act} {w : World} (hS : S w)
    (h : wpAnyV P md ops Q S s fuel (listed.setIfInBounds i true) a' w) (hi : ops[i]? = some oi := by rfl) (hg : Region.wanted oi (yielded ops a.tmps) = false := by rfl) (hd : oi.dst = some d := by rfl)
    (hsl : Region.noSelect ops = true := by kernel_rfl) (hf : Region.free md ops listed i = true := by kernel_rfl) (hr : (Region.ready md ops listed).contains i = true := by kernel_rfl) (hs : waits md ops s i = true := by kernel_rfl)
    (hQ : ∀ c a w, Q (.panic c) (a.put (some d) undef) w → Q (.panic c) a w := by exact fun _ _ _ h => h)
    (ha : a.put (some d) undef = a' := by first | (simp only [Act.put, sA, s0, sS]; done) | (simp only [Act.put, sA, s0, sS]; rfl) | rfl) : wpAnyV P md ops Q S s (fuel + 1) listed a w :=
  wpAnyV_take (some d) hi hd hsl hf hr hs hQ (Or.inr ⟨hg, rfl⟩) hS (ha ▸ h)
theorem wpAnyV_one {i : Nat} {o : Oper} {fuel : Nat} {listed : Array Bool} {a : Act} {w : World} (hr : Region.ready md ops listed = [i]) (ho : ops[i]? = some o)
    (h : ∀ K' : Act → World → Prop, Shut (∀ a w, (i ≠ s → S w) → wpAnyV P md ops Q S s fuel (listed.setIfInBounds i true) a w → K' a w) → if Region.wanted o (yielded ops a.tmps) = true then Oper.wp P o a w K' Q else K' (a.put o.dst undef) w) :
    wpAnyV P md ops Q S s (fuel + 1) listed a w := by
  constructor
  · intro h0; simp [hr] at h0
  · intro j hj
    rw [hr] at hj
    obtain rfl : j = i := by simpa using hj
    exact wpOp_step ho (fun K' hK => h K' (fun a w hS hW => hK a w ⟨hS, hW⟩))
theorem wpAnyV_two {i j : Nat} {o o' : Oper} {fuel : Nat} {listed : Array Bool} {a : Act} {w : World} (hr : Region.ready md ops listed = [i, j]) (ho : ops[i]? = some o) (ho' : ops[j]? = some o')
    (h : ∀ K' : Act → World → Prop, Shut (∀ a w, (i ≠ s → S w) → wpAnyV P md ops Q S s fuel (listed.setIfInBounds i true) a w → K' a w) → if Region.wanted o (yielded ops a.tmps) = true then Oper.wp P o a w K' Q else K' (a.put o.dst undef) w)
    (h' : ∀ K' : Act → World → Prop, Shut (∀ a w, (j ≠ s → S w) → wpAnyV P md ops Q S s fuel (listed.setIfInBounds j true) a w → K' a w) → if Region.wanted o' (yielded ops a.tmps) = true then Oper.wp P o' a w K' Q else K' (a.put o'.dst undef) w) :
    wpAnyV P md ops Q S s (fuel + 1) listed a w := by
  constructor
  · intro h0; simp [hr] at h0
  · intro k hk
    rw [hr] at hk
    simp only [List.mem_cons, List.not_mem_nil, or_false] at hk
    rcases hk with rfl | rfl
    · exact wpOp_step ho (fun K' hK => h K' (fun a w hS hW => hK a w ⟨hS, hW⟩))
    · exact wpOp_step ho' (fun K' hK => h' K' (fun a w hS hW => hK a w ⟨hS, hW⟩))
theorem wpAnyV_done {fuel : Nat} {listed : Array Bool} {a : Act} {w : World} (hr : Region.ready md ops listed = []) (h : Q .normal a w) : wpAnyV P md ops Q S s fuel listed a w := by
  cases fuel with
  | zero => exact ⟨hr, h⟩
  | succ n => exact ⟨fun _ => h, by rw [hr]; simp⟩
theorem wp_region_V {id : Nat} {a : Act} {w : World} (S : World → Prop) (s n : Nat) (hn : ops.size = n) (hm : P.follows .mixedOrders = true) (h : wpAnyV P .any ops Q S s n (Array.replicate n false) a w.drew) : (Code.region id ops true).wp P Q a w := by
  subst hn
  exact wp_region_any hm (wpAny_of_V _ _ _ _ h)
end
end Go.Proofs.Ytfhdkbibcndmjaa

namespace Go.Proofs.Ytfhdkbibcndmjaa
open Go.RowKit
set_option linter.unusedSimpArgs false
def Blk (w : World) (B : Nat) (e : TypeId) (xs : List Value) : Prop := w.heap[B]? = some (.cells xs.toArray e (0, 0))
theorem Blk.lt {w : World} {B : Nat} {e : TypeId} {xs : List Value} (h : Blk w B e xs) : B < w.heap.size := (Array.getElem?_eq_some_iff.1 h).1
theorem Blk.cell {w : World} {B : Nat} {e : TypeId} {xs : List Value} (h : Blk w B e xs) (j : Nat) : w.cell? ⟨B, j, none⟩ = xs[j]? := by
  unfold Blk at h
  simp [World.cell?, h]
theorem Blk.frozen {w : World} {B : Nat} {e : TypeId} {xs : List Value} (h : Blk w B e xs) (j : Nat) : w.frozen? ⟨B, j, none⟩ = false := by
  unfold Blk at h
  simp [World.frozen?, h]
theorem Blk.kept {R : Nat → Prop} {w w' : World} {B : Nat} {e : TypeId} {xs : List Value} (h : Blk w B e xs) (hk : Kept R w w') (hr : ¬ R B) : Blk w' B e xs := hk.heap h hr
theorem Blk.same {w w' : World} {B : Nat} {e : TypeId} {xs : List Value} (h : Blk w B e xs) (hk : Same w w') : Blk w' B e xs := hk.heap h id
theorem Blk.new (w : World) (xs : Array Value) (e : TypeId) : Blk (w.alloc (.cells xs e)) w.heap.size e xs.toList := by
  unfold Blk World.alloc
  rw [Array.toArray_toList]
  exact Array.getElem?_push_size
theorem Blk.newL (w : World) (xs : List Value) (e : TypeId) : Blk (w.alloc (.cells xs.toArray e)) w.heap.size e xs := Blk.new w xs.toArray e
theorem Blk.c0 {w : World} {B : Nat} {e : TypeId} {v0 : Value} {t : List Value} (h : Blk w B e (v0 :: t)) : w.cell? ⟨B, 0, none⟩ = some v0 := h.cell 0
theorem Blk.c1 {w : World} {B : Nat} {e : TypeId} {v0 v1 : Value} {t : List Value} (h : Blk w B e (v0 :: v1 :: t)) : w.cell? ⟨B, 1, none⟩ = some v1 := h.cell 1
theorem Blk.c2 {w : World} {B : Nat} {e : TypeId} {v0 v1 v2 : Value} {t : List Value} (h : Blk w B e (v0 :: v1 :: v2 :: t)) : w.cell? ⟨B, 2, none⟩ = some v2 := h.cell 2
theorem Blk.c3 {w : World} {B : Nat} {e : TypeId} {v0 v1 v2 v3 : Value} {t : List Value} (h : Blk w B e (v0 :: v1 :: v2 :: v3 :: t)) : w.cell? ⟨B, 3, none⟩ = some v3 := h.cell 3
theorem Blk.c4 {w : World} {B : Nat} {e : TypeId} {v0 v1 v2 v3 v4 : Value} {t : List Value} (h : Blk w B e (v0 :: v1 :: v2 :: v3 :: v4 :: t)) : w.cell? ⟨B, 4, none⟩ = some v4 := h.cell 4
theorem Blk.c5 {w : World} {B : Nat} {e : TypeId} {v0 v1 v2 v3 v4 v5 : Value} {t : List Value} (h : Blk w B e (v0 :: v1 :: v2 :: v3 :: v4 :: v5 :: t)) : w.cell? ⟨B, 5, none⟩ = some v5 := h.cell 5
theorem Blk.c6 {w : World} {B : Nat} {e : TypeId} {v0 v1 v2 v3 v4 v5 v6 : Value} {t : List Value} (h : Blk w B e (v0 :: v1 :: v2 :: v3 :: v4 :: v5 :: v6 :: t)) : w.cell? ⟨B, 6, none⟩ = some v6 := h.cell 6
theorem Blk.all2 {w : World} {B : Nat} {e : TypeId} {v0 v1 : Value} (h : Blk w B e [v0, v1]) : w.cell? ⟨B, 0, none⟩ = some v0 ∧ w.cell? ⟨B, 1, none⟩ = some v1 := ⟨h.cell 0, h.cell 1⟩
theorem Blk.all3 {w : World} {B : Nat} {e : TypeId} {v0 v1 v2 : Value} (h : Blk w B e [v0, v1, v2]) : w.cell? ⟨B, 0, none⟩ = some v0 ∧ w.cell? ⟨B, 1, none⟩ = some v1 ∧ w.cell? ⟨B, 2, none⟩ = some v2 := ⟨h.cell 0, h.cell 1, h.cell 2⟩
theorem Blk.all4 {w : World} {B : Nat} {e : TypeId} {v0 v1 v2 v3 : Value} (h : Blk w B e [v0, v1, v2, v3]) : w.cell? ⟨B, 0, none⟩ = some v0 ∧ w.cell? ⟨B, 1, none⟩ = some v1 ∧ w.cell? ⟨B, 2, none⟩ = some v2 ∧ w.cell? ⟨B, 3, none⟩ = some v3 := ⟨h.cell 0, h.cell 1, h.cell 2, h.cell 3⟩
theorem sameA (w : World) (xs : List Value) (e : TypeId) : Same w (w.alloc (.cells xs.toArray e)) := (Kept.refl _ _).alloc _
theorem Blk.newA (w : World) (xs : List Value) (e : TypeId) (ys : List Value) (e' : TypeId) : Blk ((w.alloc (.cells xs.toArray e)).alloc (.cells ys.toArray e')) w.heap.size e xs := by
  have h := Blk.newL w xs e
  have := Below.heap_alloc (w.alloc (.cells xs.toArray e)) (.cells ys.toArray e') w.heap.size h.lt
  unfold Blk at *
  rw [this]
  exact h
theorem Blk.newB (w : World) (xs : List Value) (e : TypeId) (ys : List Value) (e' : TypeId) : Blk ((w.alloc (.cells xs.toArray e)).alloc (.cells ys.toArray e')) (w.heap.size + 1) e' ys := by
  have h := Blk.newL (w.alloc (.cells xs.toArray e)) ys e'
  rwa [World.size_alloc] at h
theorem sameA2 (w : World) (xs : List Value) (e : TypeId) (ys : List Value) (e' : TypeId) : Same w ((w.alloc (.cells xs.toArray e)).alloc (.cells ys.toArray e')) := ((Kept.refl _ _).alloc _).alloc _
theorem new1 (w : World) (xs : List Value) (e : TypeId) : Hid (Same w (w.alloc (.cells xs.toArray e))) ∧ Hid (Blk (w.alloc (.cells xs.toArray e)) w.heap.size e xs) := ⟨sameA w xs e, Blk.newL w xs e⟩
theorem new2 (w : World) (xs : List Value) (e : TypeId) (ys : List Value) (e' : TypeId) : Hid (Same w ((w.alloc (.cells xs.toArray e)).alloc (.cells ys.toArray e'))) ∧ Hid (Blk ((w.alloc (.cells xs.toArray e)).alloc (.cells ys.toArray e')) w.heap.size e xs) ∧ Hid (Blk ((w.alloc (.cells xs.toArray e)).alloc (.cells ys.toArray e')) (w.heap.size + 1) e' ys) := ⟨sameA2 w xs e ys e', Blk.newA w xs e ys e', Blk.newB w xs e ys e'⟩
theorem Blk.drew {w : World} {B : Nat} {e : TypeId} {xs : List Value} (h : Blk w B e xs) : Blk w.drew B e xs := h
theorem Blk.alloc {w : World} {B : Nat} {e : TypeId} {xs : List Value} (h : Blk w B e xs) (o : Obj) : Blk (w.alloc o) B e xs := by
  have := Below.heap_alloc w o B h.lt
  unfold Blk
  rw [this]
  exact h
theorem Blk.stored {w : World} {B : Nat} {e : TypeId} {xs : List Value} (h : Blk w B e xs) (j : Nat) (v : Value) : Blk (w.setCell ⟨B, j, none⟩ v) B e (xs.set j v) := by
  unfold Blk at h ⊢
  have hl := (Array.getElem?_eq_some_iff.1 h).1
  have hg := (Array.getElem?_eq_some_iff.1 h).2
  simp [World.setCell, hl, Array.getElem_modify, hg]
theorem Blk.other {w : World} {B : Nat} {e : TypeId} {xs : List Value} (h : Blk w B e xs) {p : Addr} (hp : p.block ≠ B) (v : Value) : Blk (w.setCell p v) B e xs := by
  unfold Blk
  rw [Below.heap_setCell _ _ _ _ (fun e => hp e.symm)]
  exact h
theorem Own.blk {w : World} {base g n : Nat} {e : TypeId} {k : IntKind} {bs : List Int} (h : Own base e k w (.slice (some ⟨g, 0, none⟩) n n) bs) : Blk w g e (vals k bs) := by
  rcases h.2 with ⟨h, _⟩ | ⟨g', cap, cur, h, _, hg, _, _, hs, ht⟩
  · cases h
  · cases h
    have hl : cur.toList.length = bs.length * 1 := by simpa using hs
    rw [List.take_of_length_le (by omega)] at ht
    unfold Blk
    rw [← ht]
    simpa using hg
theorem Blk.own {w : World} {g : Nat} {e : TypeId} {k : IntKind} {bs : List Int} (h : Blk w g e (vals k bs)) (hm : bs.length ≤ maxLen) : Own 0 e k w (.slice (some ⟨g, 0, none⟩) bs.length bs.length) bs :=
  ⟨by simp [vals], .inr ⟨g, bs.length, (vals k bs).toArray, rfl, Nat.zero_le _, h, Nat.le_refl _, hm, by simp [vals], by simp only [Nat.mul_one]; exact List.take_of_length_le (by simp [vals])⟩⟩
def lay (xs : List Value) (o : Nat) (vs : List Value) : List Value := xs.take o ++ (vs ++ xs.drop (o + vs.length))
theorem lay_cons (xs : List Value) (o : Nat) (v : Value) (vs : List Value) (h : o + (vs.length + 1) ≤ xs.length) : lay (xs.set o v) (o + 1) vs = lay xs o (v :: vs) := by
  have hlt : o < xs.length := by omega
  apply List.ext_getElem?
  intro j
  unfold lay
  simp only [List.getElem?_append, List.length_take, List.length_set, List.getElem?_take, List.getElem?_drop, List.length_cons]
  by_cases h1 : j < o
  · rw [if_pos (by omega), if_pos (by omega), if_pos (by omega), if_pos h1, List.getElem?_set_ne (by omega)]
  · by_cases h2 : j = o
    · subst h2
      rw [if_pos (by omega), if_pos (by omega), if_neg (by omega), if_pos (by omega)]
      have e : j - min j xs.length = 0 := by omega
      simp [hlt, e]
    · by_cases h3 : j < o + 1 + vs.length
      · rw [if_neg (by omega), if_pos (by omega), if_neg (by omega), if_pos (by omega)]
        have e : j - min o xs.length = (j - min (o + 1) xs.length) + 1 := by omega
        rw [e, List.getElem?_cons_succ]
      · rw [if_neg (by omega), if_neg (by omega), if_neg (by omega), if_neg (by omega), List.getElem?_set_ne (by omega)]
        congr 1
        omega
theorem lay_nil (xs : List Value) (o : Nat) : lay xs o [] = xs := by simp [lay]
end Go.Proofs.Ytfhdkbibcndmjaa
