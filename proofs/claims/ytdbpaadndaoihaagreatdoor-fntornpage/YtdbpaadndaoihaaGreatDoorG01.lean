import Derived.Test.YtdbpaadndaoihaaGreatDoorG00
import Derived.Laws.AppendOwnNone
import Derived.Deep.RegionWith
import Derived.Deep.DeepMust
import Derived.WalkKit
import Derived.OrdersHeld
import Derived.Deep.RegionHeld3
import Derived.Deep.AppendLies
import Derived.Laws.CopyOwn
namespace Go.Proofs.YtdbpaadndaoihaaGreatDoor
set_option maxHeartbeats 4000000
set_option linter.unusedVariables false
set_option linter.unusedSimpArgs false
set_option maxRecDepth 100000
open Go.RowKit Go
theorem l1Copy_any (v : Value) (bs : List Int) (w : World) (hn : bs.length ≤ 1099511627776) (hv : Rd .u8 w v bs) :
  Calls Tryz.prog 101 #[v] w fun e w' => ∃ a n c, e = .returned (.slice a n c) ∧ Own 0 5 .u8 w' (.slice a n c) bs ∧ (∀ b, (Value.slice a n c).ownBlock = some b → w.heap.size ≤ b) ∧ Same w w' := by
 obtain ⟨i0, hi, hz0, hz1, hz2⟩ := info_parts Tryz.infoByte'
 rcases hv.2 with ⟨rfl, a, c, rfl, hac⟩ | ⟨b, off, c, rfl, _, hc⟩
 ·cases a with
  | none =>
   obtain rfl : c = 0 := hac rfl
   clear hv hn hac
   go_enter Tryz.func101, Tryz.ntmps101
   go_wp2_with (at_builtin; refine wpList_append_own_none rfl (.tmp 3) (.tmp 4) 22 rfl w.heap.size 5 i0 1 Tryz.underlying22 hi _ 0 [] rfl (World.ownsRow_made w #[] 0 (Nat.le_refl _) (by simp) (by simp)) rfl ?_)
   go_ret
   exact ⟨_, _, _, rfl, (World.ownsRow_made w #[] 0 (Nat.zero_le _) (by simp) (by simp)), fun b hb => by simp [Value.ownBlock] at hb; omega, (Kept.refl _ _).alloc _⟩
  | some ad =>
   clear hv hn hac
   go_enter Tryz.func101, Tryz.ntmps101
   go_wp2_with (at_builtin; refine wpList_append_own _ rfl (.tmp 3) (.tmp 4) 22 rfl w.heap.size 5 i0 (.int .u8 0) 1 1 Tryz.underlying22 hi hz0 hz1 hz2 rfl (by decide) (.slice (some ⟨w.heap.size, 0, none⟩) 0 0) 0 [] rfl (World.ownsRow_made w #[] 0 (Nat.le_refl _) (by simp) (by simp)) ad 0 c [] rfl rfl (fun j u h => by simp at h) (fun u h => by simp at h) (by simp) (by simp) (by simp) ?_; intro v' w1 hown1 hgrow1 _; have HF := (show Hid (Own w.heap.size 5 .u8 w1 v' []) from hown1); have HK : Hid (Same w w1) := ((Kept.refl _ _).alloc _).grown hgrow1 (fun k e => .inl (by simp [Value.ownBlock] at e; omega)); obtain ⟨aa, na, ca, rfl⟩ := slice_of_own HF.out; clear hown1 hgrow1)
   go_ret
   exact ⟨_, _, _, rfl, HF.out.mono (fun b _ => Nat.zero_le b), fun b hb => (HF.out.lt b hb).1, HK.out⟩
 ·have HC : Hid (∀ i, i < bs.length → (w.alloc (.cells #[] 5)).cell? ⟨b, off + i, none⟩ = some (.int .u8 (bs.getD i 0))) := fun i hi => ((Kept.refl (fun _ => False) w).alloc _).cellOf (hc i hi) id
  clear hv hc
  go_enter Tryz.func101, Tryz.ntmps101
  go_wp2_with (at_builtin; refine wpList_append_own _ rfl (.tmp 3) (.tmp 4) 22 rfl w.heap.size 5 i0 (.int .u8 0) 1 1 Tryz.underlying22 hi hz0 hz1 hz2 rfl (by decide) (.slice (some ⟨w.heap.size, 0, none⟩) 0 0) 0 [] rfl (World.ownsRow_made w #[] 0 (Nat.le_refl _) (by simp) (by simp)) ⟨b, off, none⟩ bs.length c (vals .u8 bs) rfl (by simp [vals_length]) (news_of HC.out) vals_one (by unfold maxLen; omega) (by omega) (by simp) ?_; intro v' w1 hown1 hgrow1 _; have HF := (show Hid (Own w.heap.size 5 .u8 w1 v' bs) from (by simpa [Own, Hid] using hown1)); have HK : Hid (Same w w1) := ((Kept.refl _ _).alloc _).grown hgrow1 (fun k e => .inl (by simp [Value.ownBlock] at e; omega)); obtain ⟨aa, na, ca, rfl⟩ := slice_of_own HF.out; clear hown1 hgrow1)
  go_ret
  exact ⟨_, _, _, rfl, HF.out.mono (fun b _ => Nat.zero_le b), fun b hb => (HF.out.lt b hb).1, HK.out⟩
theorem clone_any (v : Value) (bs : List Int) (w : World) (hn : bs.length ≤ 1099511627776) (hv : Rd .u8 w v bs) :
  Calls Tryz.prog 49 #[v] w fun e w' => ∃ a n c, e = .returned (.slice a n c) ∧ Own 0 5 .u8 w' (.slice a n c) bs ∧ (∀ b, (Value.slice a n c).ownBlock = some b → w.heap.size ≤ b) ∧ Same w w' := by
 obtain ⟨i0, hi, hz0, hz1, hz2⟩ := info_parts Tryz.infoByte'
 have hnil := fun (wx : World) (a : Option Addr) (n c : Nat) => Lib.run_eql_slice_nil (P := Tryz.prog) wx 22 5 a n c 0 0 Tryz.underlying22
 rcases hv.2 with ⟨rfl, a, c, rfl, hac⟩ | ⟨b, off, c, rfl, _, hc⟩
 ·cases a with
  | none =>
   obtain rfl : c = 0 := hac rfl
   clear hv hn hac
   go_enter Tryz.func49, Tryz.ntmps49
   go_wp2
   go_ret
   exact ⟨_, _, _, rfl, Own.nil _ _ _ _, fun b hb => by simp [Value.ownBlock] at hb, Kept.refl _ _⟩
  | some ad =>
   clear hv hn hac
   go_enter Tryz.func49, Tryz.ntmps49
   go_wp2_with (at_builtin; refine wpList_append_own _ rfl (.tmp 5) (.tmp 6) 22 rfl w.heap.size 5 i0 (.int .u8 0) 1 1 Tryz.underlying22 hi hz0 hz1 hz2 rfl (by decide) (.slice (some ⟨w.heap.size, 0, none⟩) 0 0) 0 [] rfl (World.ownsRow_made w #[] 0 (Nat.le_refl _) (by simp) (by simp)) ad 0 c [] rfl rfl (fun j u h => by simp at h) (fun u h => by simp at h) (by simp) (by simp) (by simp) ?_; intro v' w1 hown1 hgrow1 _; have HF := (show Hid (Own w.heap.size 5 .u8 w1 v' []) from hown1); have HK : Hid (Same w w1) := ((Kept.refl _ _).alloc _).grown hgrow1 (fun k e => .inl (by simp [Value.ownBlock] at e; omega)); obtain ⟨aa, na, ca, rfl⟩ := slice_of_own HF.out; clear hown1 hgrow1)
   go_ret
   exact ⟨_, _, _, rfl, HF.out.mono (fun b _ => Nat.zero_le b), fun b hb => (HF.out.lt b hb).1, HK.out⟩
 ·have HC : Hid (∀ i, i < bs.length → (w.alloc (.cells #[] 5)).cell? ⟨b, off + i, none⟩ = some (.int .u8 (bs.getD i 0))) := fun i hi => ((Kept.refl (fun _ => False) w).alloc _).cellOf (hc i hi) id
  clear hv hc
  go_enter Tryz.func49, Tryz.ntmps49
  go_wp2_with (at_builtin; refine wpList_append_own _ rfl (.tmp 5) (.tmp 6) 22 rfl w.heap.size 5 i0 (.int .u8 0) 1 1 Tryz.underlying22 hi hz0 hz1 hz2 rfl (by decide) (.slice (some ⟨w.heap.size, 0, none⟩) 0 0) 0 [] rfl (World.ownsRow_made w #[] 0 (Nat.le_refl _) (by simp) (by simp)) ⟨b, off, none⟩ bs.length c (vals .u8 bs) rfl (by simp [vals_length]) (news_of HC.out) vals_one (by unfold maxLen; omega) (by omega) (by simp) ?_; intro v' w1 hown1 hgrow1 _; have HF := (show Hid (Own w.heap.size 5 .u8 w1 v' bs) from (by simpa [Own, Hid] using hown1)); have HK : Hid (Same w w1) := ((Kept.refl _ _).alloc _).grown hgrow1 (fun k e => .inl (by simp [Value.ownBlock] at e; omega)); obtain ⟨aa, na, ca, rfl⟩ := slice_of_own HF.out; clear hown1 hgrow1)
  go_ret
  exact ⟨_, _, _, rfl, HF.out.mono (fun b _ => Nat.zero_le b), fun b hb => (HF.out.lt b hb).1, HK.out⟩
theorem Tryz.infoSW : (Tryz.prog.info? 128).map (fun i => (i.zero, i.size, i.bytes)) = some (some (.agg #[.int .i64 0, .slice none 0 0]), 2, 32) := by kernel_rfl
def Says (e : Ending) (P : Prop) : Prop := ∃ B : Bool, e = .returned (.bool B) ∧ (B = true ↔ P)
theorem says_true {P : Prop} (h : P) : Says (.returned (.bool true)) P := ⟨true, rfl, fun _ => h, fun _ => rfl⟩
theorem says_false {P : Prop} (h : ¬ P) : Says (.returned (.bool false)) P := ⟨false, rfl, fun h => by simp at h, fun hp => absurd hp h⟩
def validP (n : Nat) (p : Int × List Int) : Prop := 0 ≤ p.1 ∧ p.1 < n ∧ p.2.length = 512
def validHead (len m : Nat) : Prop := len % 512 = 0 ∧ 1 ≤ len / 512 ∧ len / 512 ≤ 1024 ∧ m ≤ 8192
def Valid (len : Nat) (ds : List (Int × List Int)) : Prop := validHead len ds.length ∧ ∀ p ∈ ds, validP (len / 512) p
theorem valid_no_at {len : Nat} {ps : List PW} {k : Nat} (h : k < ps.length) (hp : ¬ validP (len / 512) (ps[k].sec, ps[k].bs)) : ¬ Valid len (dataP ps) :=
 fun hv => hp (hv.2 _ (List.mem_map.2 ⟨ps[k], List.getElem_mem h, rfl⟩))
theorem valid_no_head {len : Nat} {ps : List PW} (hp : ¬ validHead len ps.length) : ¬ Valid len (dataP ps) :=
 fun hv => hp (by have := hv.1; rwa [dataP_length] at this)
theorem valid_yes {len : Nat} {ps : List PW} (hh : validHead len ps.length) (h : ∀ k (hk : k < ps.length), validP (len / 512) (ps[k].sec, ps[k].bs)) : Valid len (dataP ps) := by
 refine ⟨by rw [dataP_length]; exact hh, fun p hp => ?_⟩
 obtain ⟨q, hq, rfl⟩ := List.mem_map.1 hp
 obtain ⟨k, hk, rfl⟩ := List.getElem_of_mem hq
 exact h k hk
theorem countSectors_any (a : Option Addr) (n c : Nat) (a2 : Option Addr) (n2 c2 : Nat) (w : World) (hn : n ≤ maxLen) :
  Calls Tryz.prog 75 #[.agg #[.slice a n c, .slice a2 n2 c2]] w fun e w' => e = .returned (.int .i64 (n / 512 : Nat)) ∧ w' = w.alloc (.cells #[.slice a n c, .slice a2 n2 c2] 27) := by
 unfold maxLen at hn
 go_enter Tryz.func75, Tryz.ntmps75
 go_wp2
 go_ret
 exact ⟨ret_int (by omega), rfl⟩
theorem implValid_head (a : Option Addr) (n c : Nat) (a2 : Option Addr) (n2 c2 : Nat) (w : World) (hn : n ≤ maxLen) (hn2 : n2 ≤ maxLen) (h : ¬ validHead n n2) :
  Calls Tryz.prog 41 #[.agg #[.slice a n c, .slice a2 n2 c2]] w fun e w' => e = .returned (.bool false) ∧ Same w w' := by
 have hm := hn
 unfold maxLen at hn hn2
 by_cases h2 : n / 512 < 1
 ·have t2 : (n : Int) / 512 < 1 := by omega
  go_enter Tryz.func41, Tryz.ntmps41
  go_wp2_with (go_at_call 75; refine (countSectors_any _ _ _ _ _ _ _ hm).mono ?_; rintro e w' ⟨rfl, rfl⟩)
  go_ret
  exact ⟨rfl, ((Kept.refl _ _).alloc _).alloc _⟩
 ·have t2 : ¬ (n : Int) / 512 < 1 := by omega
  by_cases h3 : 1024 < n / 512
  ·have t3 : 1024 < (n : Int) / 512 := by omega
   go_enter Tryz.func41, Tryz.ntmps41
   go_wp2_with (go_at_call 75; refine (countSectors_any _ _ _ _ _ _ _ hm).mono ?_; rintro e w' ⟨rfl, rfl⟩)
   go_ret
   exact ⟨rfl, ((Kept.refl _ _).alloc _).alloc _⟩
  ·have t3 : ¬ 1024 < (n : Int) / 512 := by omega
   by_cases h1 : n % 512 = 0
   ·have t1 : ((n : Int) % 512 != 0) = false := by simp; omega
    have h4 : 8192 < n2 := by unfold validHead at h; omega
    have t4 : 8192 < (n2 : Int) := by omega
    clear h
    go_enter Tryz.func41, Tryz.ntmps41
    go_wp2_with (go_at_call 75; refine (countSectors_any _ _ _ _ _ _ _ hm).mono ?_; rintro e w' ⟨rfl, rfl⟩)
    go_ret
    exact ⟨rfl, ((Kept.refl _ _).alloc _).alloc _⟩
   ·have t1 : ((n : Int) % 512 != 0) = true := by simp; omega
    go_enter Tryz.func41, Tryz.ntmps41
    go_wp2_with (go_at_call 75; refine (countSectors_any _ _ _ _ _ _ _ hm).mono ?_; rintro e w' ⟨rfl, rfl⟩)
    go_ret
    exact ⟨rfl, ((Kept.refl _ _).alloc _).alloc _⟩
theorem implValid_loop (a : Option Addr) (n c : Nat) (v : Value) (ps : List PW) (w : World) (hn : n ≤ maxLen) (hp : RdP w v ps) (h : validHead n ps.length) :
  Calls Tryz.prog 41 #[.agg #[.slice a n c, v]] w fun e w' => Says e (Valid n (dataP ps)) ∧ Same w w' := by
 have hm := hn
 have hn2 := hp.len
 unfold maxLen at hn hn2
 obtain ⟨h1, h2, h3, h4⟩ := id h
 have t1 : ((n : Int) % 512 != 0) = false := by simp; omega
 have t2 : ¬ (n : Int) / 512 < 1 := by omega
 have t3 : ¬ 1024 < (n : Int) / 512 := by omega
 have t4 : ¬ 8192 < (ps.length : Int) := by omega
 have HH : Hid (validHead n ps.length) := h
 clear h h1 h2 h3 h4
 rcases hp.row with ⟨rfl, a2, c2, rfl⟩ | ⟨b, off, c2, rfl, hc⟩
 ·have HV : Hid (Valid n (dataP [])) := valid_yes HH.out (fun k hk => by simp at hk)
  clear hp hn2 t4
  go_enter Tryz.func41, Tryz.ntmps41
  go_wp2_with (go_at_call 75; refine (countSectors_any _ _ _ _ _ _ _ hm).mono ?_; rintro e w' ⟨rfl, rfl⟩)
  refine wp_loop_rounds 1 ?_
  rw [rounds_succ]
  go_wp2
  go_ret
  exact ⟨says_true HV.out, ((Kept.refl _ _).alloc _).alloc _⟩
 ·have HP : Hid (RdP w (.slice (some ⟨b, off, none⟩) ps.length c2) ps) := hp
  have HC : Hid (∀ i (h : i < ps.length), w.cell? ⟨b, off + i * 2, none⟩ = some (.int .i64 ps[i].sec) ∧ w.cell? ⟨b, off + i * 2 + 1, none⟩ = some ps[i].v) := hc
  clear hp hc
  generalize hl : ps.length = len at hn2 t4 HP HH ⊢
  have HL : Hid (ps.length = len) := hl
  clear hl
  go_enter Tryz.func41, Tryz.ntmps41
  go_wp2_with (go_at_call 75; refine (countSectors_any _ _ _ _ _ _ _ hm).mono ?_; rintro e w' ⟨rfl, rfl⟩)
  go_loopw [28] (fun i wr => ∃ k : Nat, k ≤ len ∧ i = .int .i64 k ∧ Hid (∀ j (hj : j < ps.length), j < k → validP (n / 512) (ps[j].sec, ps[j].bs)) ∧ Hid (Same w wr)) (fun i _ => len - (intOf i).toNat)
  case atStart => exact ⟨0, Nat.zero_le _, rfl, fun j _ h => by omega, ((Kept.refl _ _).alloc _).alloc _⟩
  case round =>
   obtain ⟨k, hk, rfl, HV, HK⟩ := hrel
   by_cases hlt : k < len
   ·have hlp : k < ps.length := by rw [HL.out]; exact hlt
    obtain ⟨a1, c1, e1⟩ := (HP.out.data _ (List.getElem_mem hlp)).form
    have hm1 := (HP.out.data _ (List.getElem_mem hlp)).1
    unfold maxLen at hm1
    have q1 := HK.out.cellOf (HC.out k hlp).1 id
    have q2 := HK.out.cellOf (HC.out k hlp).2 id
    rw [e1] at q2
    clear e1
    have HN : Hid (¬ validP (n / 512) (ps[k].sec, ps[k].bs) → ¬ Valid n (dataP ps)) := fun h => valid_no_at hlp h
    have HE : Hid (validP (n / 512) (ps[k].sec, ps[k].bs) ↔ 0 ≤ ps[k].sec ∧ ps[k].sec < (n / 512 : Nat) ∧ ps[k].bs.length = 512) := Iff.rfl
    generalize hsec : ps[k].sec = sec at q1 HN HE
    generalize hbl : ps[k].bs.length = bl at q2 hm1 HE
    have HS : Hid (ps[k].sec = sec) := hsec
    clear hsec hbl
    by_cases s1 : sec < 0
    ·go_wp2
     go_ret
     exact ⟨says_false (HN.out (fun hv => by have := HE.out.1 hv; omega)), HK.out.alloc _⟩
    ·by_cases s2 : (n : Int) / 512 ≤ sec
     ·go_wp2
      go_ret
      exact ⟨says_false (HN.out (fun hv => by have := HE.out.1 hv; omega)), HK.out.alloc _⟩
     ·by_cases s3 : bl = 512
      ·have s4 : ((bl : Int) != 512) = false := by simp; omega
       go_wp2
       go_roundw
       case rel =>
        refine ⟨k + 1, by omega, by go_num, fun j hj hjk => ?_, HK.out.alloc _⟩
        by_cases e : j = k
        ·subst e
         rw [HS.out]
         exact HE.out.2 ⟨by omega, by omega, s3⟩
        ·exact HV.out j hj (by omega)
       case measure => simp [intOf]; omega
      ·have s4 : ((bl : Int) != 512) = true := by simp; omega
       go_wp2
       go_ret
       exact ⟨says_false (HN.out (fun hv => by have := HE.out.1 hv; omega)), HK.out.alloc _⟩
   ·go_wp2
    go_ret
    obtain rfl : k = len := by omega
    have h2 := HL.out
    have hv := valid_yes (ps := ps) (by rw [h2]; exact HH.out) (fun j hj => HV.out j hj (by omega))
    exact ⟨says_true hv, HK.out⟩
theorem implValid_any (dv pv : Value) (dur : List Int) (ps : List PW) (w : World) (hp : RdD w dv pv dur ps) :
  Calls Tryz.prog 41 #[.agg #[dv, pv]] w fun e w' => Says e (Valid dur.length (dataP ps)) ∧ Same w w' := by
 obtain ⟨a1, c1, rfl⟩ := hp.dur.form
 by_cases h : validHead dur.length ps.length
 ·exact implValid_loop a1 dur.length c1 pv ps w hp.dur.1 hp.pend h
 ·obtain ⟨a2, c2, rfl⟩ := hp.pend.form
  exact (implValid_head a1 _ c1 a2 _ c2 w hp.dur.1 hp.pend.len h).mono fun e w' ⟨he, hk⟩ => ⟨by rw [he]; exact says_false (valid_no_head h), hk⟩
theorem Rd.cut {w : World} {b off c : Nat} {raw : List Int} (h : Rd .u8 w (.slice (some ⟨b, off, none⟩) raw.length c) raw) (x y : Nat) (hxy : x + y ≤ raw.length) :
  Rd .u8 w (.slice (some (if c = x then ⟨b, off, none⟩ else ⟨b, off + x, none⟩)) y (c - x)) ((raw.drop x).take y) := by
 have hl : ((raw.drop x).take y).length = y := by simp; omega
 rcases h.2 with ⟨rfl, _⟩ | ⟨b', off', c', he, hle, hc⟩
 ·simp at hxy
  obtain ⟨rfl, rfl⟩ := hxy
  exact ⟨by simp, .inl ⟨by simp, _, _, rfl, fun h => by cases h⟩⟩
 ·injection he with h1 h2 h3
  injection h1 with h1
  injection h1 with h1 h4
  subst h1 h4 h3
  by_cases h0 : y = 0
  ·subst h0
   exact ⟨by rw [hl]; simp, .inl ⟨by simp, _, _, rfl, fun h => by cases h⟩⟩
  ·rw [if_neg (by omega)]
   refine ⟨by have := h.1; omega, .inr ⟨b, off + x, c - x, by rw [hl], by omega, fun i hi => ?_⟩⟩
   rw [hl] at hi
   rw [Nat.add_assoc, hc (x + i) (by omega)]
   simp [List.getD, List.getElem?_take, List.getElem?_drop, hi]
theorem Rd.part {k : IntKind} {w : World} {b off n c : Nat} {bs : List Int} (h : ∀ i, i < bs.length → w.cell? ⟨b, off + i, none⟩ = some (.int k (bs.getD i 0))) (lo m : Nat) (hm : lo + m ≤ bs.length) (hn : n = m) (hc : m ≤ c) (hmax : m ≤ maxLen) :
  Rd k w (.slice (some ⟨b, off + lo, none⟩) n c) ((bs.drop lo).take m) := by
 have hl : ((bs.drop lo).take m).length = m := by simp; omega
 refine ⟨by omega, .inr ⟨b, off + lo, c, by rw [hn, hl], by rw [hl]; exact hc, fun i hi => ?_⟩⟩
 rw [hl] at hi
 have h1 := h (lo + i) (by omega)
 rw [← Nat.add_assoc] at h1
 rw [h1]
 simp [List.getD, hi]
def lastP (s : Int) : List (Int × List Int) → Option (List Int)
 | [] => none
 | p :: ps => match lastP s ps with
  | some bs => some bs
  | none => if p.1 = s then some p.2 else none
theorem lastP_none (s : Int) (ds : List (Int × List Int)) (h : ∀ p ∈ ds, p.1 ≠ s) : lastP s ds = none := by
 induction ds with
 | nil => rfl
 | cons p ds ih => simp [lastP, ih (fun q hq => h q (List.mem_cons_of_mem _ hq)), h p (List.mem_cons_self ..)]
theorem lastP_append_none (s : Int) (ds es : List (Int × List Int)) (h : ∀ p ∈ es, p.1 ≠ s) : lastP s (ds ++ es) = lastP s ds := by
 induction ds with
 | nil => simpa [lastP] using lastP_none s es h
 | cons p ds ih => simp [lastP, ih]
theorem lastP_snoc (s : Int) (ds : List (Int × List Int)) (bs : List Int) : lastP s (ds ++ [(s, bs)]) = some bs := by
 induction ds with
 | nil => simp [lastP]
 | cons p ds ih => simp [lastP, ih]
def seeD (s : Int) (dur : List Int) (ds : List (Int × List Int)) : List Int := (lastP s ds).getD ((dur.drop (s.toNat * 512)).take 512)
def IsRead (s : Int) (dur : List Int) (ds : List (Int × List Int)) (bs : List Int) : Prop :=
 (Valid dur.length ds ∧ 0 ≤ s ∧ s < (dur.length / 512 : Nat) ∧ bs = seeD s dur ds) ∨ (¬ (Valid dur.length ds ∧ 0 ≤ s ∧ s < (dur.length / 512 : Nat)) ∧ bs = [])
theorem IsRead.one {s : Int} {dur : List Int} {ds : List (Int × List Int)} {bs cs : List Int} (h : IsRead s dur ds bs) (k : IsRead s dur ds cs) : bs = cs := by
 rcases h with ⟨h1, h2, h3, rfl⟩ | ⟨h, rfl⟩ <;> rcases k with ⟨k1, k2, k3, rfl⟩ | ⟨k, rfl⟩
 ·rfl
 ·exact absurd ⟨h1, h2, h3⟩ k
 ·exact absurd ⟨k1, k2, k3⟩ h
 ·rfl
theorem lastP_mem (s : Int) (ds : List (Int × List Int)) (bs : List Int) (h : lastP s ds = some bs) : ∃ p ∈ ds, p.2 = bs := by
 induction ds with
 | nil => simp [lastP] at h
 | cons p ds ih =>
  unfold lastP at h
  split at h
  ·next cs hc =>
   obtain ⟨q, hq, e⟩ := ih (by rw [hc, ← h])
   exact ⟨q, List.mem_cons_of_mem _ hq, e⟩
  ·split at h
   ·simp at h
    exact ⟨p, List.mem_cons_self .., h⟩
   ·simp at h
theorem IsRead.len {s : Int} {dur : List Int} {ds : List (Int × List Int)} {bs : List Int} (h : IsRead s dur ds bs) : bs.length ≤ 512 := by
 rcases h with ⟨hv, _, _, rfl⟩ | ⟨_, rfl⟩
 ·unfold seeD
  cases hl : lastP s ds with
  | none => simp; omega
  | some cs =>
   obtain ⟨p, hp, rfl⟩ := lastP_mem s ds cs hl
   have := (hv.2 p hp).2.2
   simp [this]
 ·simp
section
variable {P : Program} {ops : Array Oper} {Q : Exit → Act → World → Prop} {md : Region.Mode} {S : World → Prop} {s : Nat}
def wpAnyV (P : Program) (md : Region.Mode) (ops : Array Oper) (Q : Exit → Act → World → Prop) (S : World → Prop) (s : Nat) : Nat → Array Bool → Act → World → Prop
 | 0, listed, a, w => Region.ready md ops listed = [] ∧ Q .normal a w
 | fuel + 1, listed, a, w =>
  (Region.ready md ops listed = [] → Q .normal a w) ∧
  ∀ i ∈ Region.ready md ops listed, wpOp P ops Q i (fun a' w' => (i ≠ s → S w') ∧ wpAnyV P md ops Q S s fuel (listed.setIfInBounds i true) a' w') a w
theorem wpAny_of_V : ∀ (fuel : Nat) (listed : Array Bool) (a : Act) (w : World), wpAnyV P md ops Q S s fuel listed a w → wpAny P md ops Q fuel listed a w
 | 0, _, _, _, h => h
 | fuel + 1, _, _, _, h => ⟨h.1, fun i hi => wpOp_mono (fun a' w' h' => wpAny_of_V fuel _ a' w' h'.2) (h.2 i hi)⟩
def waits (md : Region.Mode) (ops : Array Oper) (s i : Nat) : Bool :=
 match ops[s]? with
 | some o => o.after.any fun e => Region.binds md e && e.on == i
 | none => true
theorem waits_spec {i : Nat} (h : waits md ops s i = true) {os : Oper} (ho : ops[s]? = some os) (hn : ∀ e ∈ os.after, Region.binds md e = true → e.on ≠ i) : False := by
 unfold waits at h
 rw [ho] at h
 obtain ⟨e, he, hb⟩ := Array.any_eq_true'.1 h
 simp only [Bool.and_eq_true, beq_iff_eq] at hb
 exact hn e he hb.1 hb.2
theorem ready_apart {listed : Array Bool} {i j : Nat} (hi : i ∈ Region.ready md ops listed) (hj : j ∈ Region.ready md ops listed) {oj : Oper} (hoj : ops[j]? = some oj) :
  ∀ e ∈ oj.after, Region.binds md e = true → e.on ≠ i := by
 rintro e he hb rfl
 obtain ⟨_, o, ho, hall⟩ := mem_ready.1 hj
 obtain rfl : o = oj := by rw [hoj] at ho; exact (Option.some.inj ho).symm
 have hyes := hall e he hb
 have hno := (mem_ready.1 hi).1
 by_cases hl : e.on < listed.size <;> simp_all
def Loose (md : Region.Mode) (ops : Array Oper) (i : Nat) (oi : Oper) (listed : Array Bool) : Prop :=
 ∀ j oj, ops[j]? = some oj → j ≠ i → listed.getD j true = false → (∀ e ∈ oj.after, Region.binds md e = true → e.on ≠ i) → oi.apart ops oj = true
theorem Loose.on {i j : Nat} {oi : Oper} {listed : Array Bool} (h : Loose md ops i oi listed) (hj : listed.getD j true = false) : Loose md ops i oi (listed.setIfInBounds j true) := fun k ok hk hki hun hno =>
 h k ok hk hki (if e : j = k then e ▸ hj else (getD_set_ne true e) ▸ hun) hno
theorem wpAnyV_first {i : Nat} {oi : Oper} {v : Value} (hi : ops[i]? = some oi) (hsel : ∀ (j : Nat) (o : Oper) cs b, ops[j]? = some o → o.op ≠ .select cs b) (hs : waits md ops s i = true)
  (hQ : ∀ c a w, Q (.panic c) (a.put oi.dst v) w → Q (.panic c) a w) (fuel : Nat) : ∀ (listed : Array Bool) (a : Act) (w : World), Loose md ops i oi listed → i ∈ Region.ready md ops listed → YieldsIf P ops S oi v a → S w →
   wpAnyV P md ops Q S s fuel (listed.setIfInBounds i true) (a.put oi.dst v) w → wpAnyV P md ops Q S s (fuel + 1) listed a w := by
 induction fuel with
 | zero =>
  intro listed a w _ hr hy hS H
  constructor
  ·intro h0; simp [h0] at hr
  ·intro j hj
   by_cases e : j = i
   ·exact e ▸ hy.wpOp hi hS ⟨fun _ => hS, H⟩
   ·have := ready_mono hj e
    simp [H.1] at this
 | succ fuel ih =>
  intro listed a w hl hr hy hS H
  constructor
  ·intro h0; simp [h0] at hr
  ·intro j hj
   by_cases e : j = i
   ·exact e ▸ hy.wpOp hi hS ⟨fun _ => hS, H⟩
   ·obtain ⟨hun, oj, hoj, _⟩ := mem_ready.1 hj
    have hap := ready_apart hr hj hoj
    have hjs : j ≠ s := fun es => waits_spec hs (es ▸ hoj) hap
    refine wpOp_mono ?_ (wpOp_putIf hoj (hl j oj hoj e hun hap) (fun cs b => hsel i oi cs b hi) (fun cs b => hsel j oj cs b hoj) hQ hy (H.2 j (ready_mono hj e)))
    rintro a' w' ⟨hy', hS', hw'⟩
    exact ⟨hS', ih _ a' w' (hl.on hun) (ready_mono hr (Ne.symm e)) hy' (hS' hjs) (by rw [Array.setIfInBounds_comm _ _ e]; exact hw')⟩
theorem wpAnyV_take {i : Nat} {oi : Oper} {v : Value} {fuel : Nat} {listed : Array Bool} {a : Act} {w : World} (d : Option Tmp) (hi : ops[i]? = some oi) (hd : oi.dst = d)
  (hsl : Region.noSelect ops = true) (hf : Region.free md ops listed i = true) (hr : (Region.ready md ops listed).contains i = true) (hs : waits md ops s i = true)
  (hQ : ∀ c a w, Q (.panic c) (a.put d v) w → Q (.panic c) a w) (hy : YieldsIf P ops S oi v a) (hS : S w)
  (h : wpAnyV P md ops Q S s fuel (listed.setIfInBounds i true) (a.put d v) w) : wpAnyV P md ops Q S s (fuel + 1) listed a w := by
 subst hd
 exact wpAnyV_first hi (Region.noSelect_spec hsl) hs hQ fuel listed a w (Region.free_spec hi hf) (by simpa using hr) hy hS h
theorem sA {α : Type} {l : List α} {i : Nat} {a : α} : l.toArray.setIfInBounds i a = (l.set i a).toArray := List.setIfInBounds_toArray ..
theorem s0 {α : Type} {x : α} {xs : List α} {a : α} : (x :: xs).set 0 a = a :: xs := List.set_cons_zero
theorem sS {α : Type} {x : α} {xs : List α} {i : Nat} {a : α} : (x :: xs).set (i + 1) a = x :: xs.set i a := List.set_cons_succ
theorem tk (i d : Nat) {oi : Oper} {v : Value} {fuel : Nat} {listed : Array Bool} {a a' : Act} {w : World} (hS : S w)
  (h : wpAnyV P md ops Q S s fuel (listed.setIfInBounds i true) a' w) (hi : ops[i]? = some oi := by rfl) (hg : Region.wanted oi (yielded ops a.tmps) = true := by rfl) (hd : oi.dst = some d := by rfl)
  (hy : ∀ w, S w → (execOp a.eval oi).run P w = .ok (.value v) w := by intro w hSw; (try dsimp (config := { zetaDelta := true }) only at hSw); go_simp; (try with_reducible rfl))
  (hsl : Region.noSelect ops = true := by kernel_rfl) (hf : Region.free md ops listed i = true := by kernel_rfl) (hr : (Region.ready md ops listed).contains i = true := by kernel_rfl) (hs : waits md ops s i = true := by kernel_rfl)
  (hQ : ∀ c a w, Q (.panic c) (a.put (some d) v) w → Q (.panic c) a w := by exact fun _ _ _ h => h)
  (ha : a.put (some d) v = a' := by first | (simp only [Act.put, sA, s0, sS]; done) | (simp only [Act.put, sA, s0, sS]; rfl) | rfl) : wpAnyV P md ops Q S s (fuel + 1) listed a w :=
 wpAnyV_take (some d) hi hd hsl hf hr hs hQ (Or.inl ⟨hg, hy⟩) hS (ha ▸ h)
theorem tkV (i d : Nat) (v : Value) {oi : Oper} {fuel : Nat} {listed : Array Bool} {a a' : Act} {w : World} (hS : S w)
  (h : wpAnyV P md ops Q S s fuel (listed.setIfInBounds i true) a' w) (hi : ops[i]? = some oi := by rfl) (hg : Region.wanted oi (yielded ops a.tmps) = true := by rfl) (hd : oi.dst = some d := by rfl)
  (hy : ∀ w, S w → (execOp a.eval oi).run P w = .ok (.value v) w := by intro w hSw; (try dsimp (config := { zetaDelta := true }) only at hSw); go_simp; (try omega))
  (hsl : Region.noSelect ops = true := by kernel_rfl) (hf : Region.free md ops listed i = true := by kernel_rfl) (hr : (Region.ready md ops listed).contains i = true := by kernel_rfl) (hs : waits md ops s i = true := by kernel_rfl)
  (hQ : ∀ c a w, Q (.panic c) (a.put (some d) v) w → Q (.panic c) a w := by exact fun _ _ _ h => h)
  (ha : a.put (some d) v = a' := by first | (simp only [Act.put, sA, s0, sS]; done) | (simp only [Act.put, sA, s0, sS]; rfl) | rfl) : wpAnyV P md ops Q S s (fuel + 1) listed a w :=
 wpAnyV_take (some d) hi hd hsl hf hr hs hQ (Or.inl ⟨hg, hy⟩) hS (ha ▸ h)
theorem tkS (i d : Nat) {oi : Oper} {fuel : Nat} {listed : Array Bool} {a a' : Act} {w : World} (hS : S w)
  (h : wpAnyV P md ops Q S s fuel (listed.setIfInBounds i true) a' w) (hi : ops[i]? = some oi := by rfl) (hg : Region.wanted oi (yielded ops a.tmps) = false := by rfl) (hd : oi.dst = some d := by rfl)
  (hsl : Region.noSelect ops = true := by kernel_rfl) (hf : Region.free md ops listed i = true := by kernel_rfl) (hr : (Region.ready md ops listed).contains i = true := by kernel_rfl) (hs : waits md ops s i = true := by kernel_rfl)
  (hQ : ∀ c a w, Q (.panic c) (a.put (some d) undef) w → Q (.panic c) a w := by exact fun _ _ _ h => h)
  (ha : a.put (some d) undef = a' := by first | (simp only [Act.put, sA, s0, sS]; done) | (simp only [Act.put, sA, s0, sS]; rfl) | rfl) : wpAnyV P md ops Q S s (fuel + 1) listed a w :=
 wpAnyV_take (some d) hi hd hsl hf hr hs hQ (Or.inr ⟨hg, rfl⟩) hS (ha ▸ h)
theorem wpAnyV_one {i : Nat} {o : Oper} {fuel : Nat} {listed : Array Bool} {a : Act} {w : World} (hr : Region.ready md ops listed = [i]) (ho : ops[i]? = some o)
  (h : ∀ K' : Act → World → Prop, Shut (∀ a w, (i ≠ s → S w) → wpAnyV P md ops Q S s fuel (listed.setIfInBounds i true) a w → K' a w) → if Region.wanted o (yielded ops a.tmps) = true then Oper.wp P o a w K' Q else K' (a.put o.dst undef) w) :
  wpAnyV P md ops Q S s (fuel + 1) listed a w := by
 constructor
 ·intro h0; simp [hr] at h0
 ·intro j hj
  rw [hr] at hj
  obtain rfl : j = i := by simpa using hj
  exact wpOp_step ho (fun K' hK => h K' (fun a w hS hW => hK a w ⟨hS, hW⟩))
theorem wpAnyV_two {i j : Nat} {o o' : Oper} {fuel : Nat} {listed : Array Bool} {a : Act} {w : World} (hr : Region.ready md ops listed = [i, j]) (ho : ops[i]? = some o) (ho' : ops[j]? = some o')
  (h : ∀ K' : Act → World → Prop, Shut (∀ a w, (i ≠ s → S w) → wpAnyV P md ops Q S s fuel (listed.setIfInBounds i true) a w → K' a w) → if Region.wanted o (yielded ops a.tmps) = true then Oper.wp P o a w K' Q else K' (a.put o.dst undef) w)
  (h' : ∀ K' : Act → World → Prop, Shut (∀ a w, (j ≠ s → S w) → wpAnyV P md ops Q S s fuel (listed.setIfInBounds j true) a w → K' a w) → if Region.wanted o' (yielded ops a.tmps) = true then Oper.wp P o' a w K' Q else K' (a.put o'.dst undef) w) :
  wpAnyV P md ops Q S s (fuel + 1) listed a w := by
 constructor
 ·intro h0; simp [hr] at h0
 ·intro k hk
  rw [hr] at hk
  simp only [List.mem_cons, List.not_mem_nil, or_false] at hk
  rcases hk with rfl | rfl
  ·exact wpOp_step ho (fun K' hK => h K' (fun a w hS hW => hK a w ⟨hS, hW⟩))
  ·exact wpOp_step ho' (fun K' hK => h' K' (fun a w hS hW => hK a w ⟨hS, hW⟩))
theorem wpAnyV_done {fuel : Nat} {listed : Array Bool} {a : Act} {w : World} (hr : Region.ready md ops listed = []) (h : Q .normal a w) : wpAnyV P md ops Q S s fuel listed a w := by
 cases fuel with
 | zero => exact ⟨hr, h⟩
 | succ n => exact ⟨fun _ => h, by rw [hr]; simp⟩
theorem wp_region_V {id : Nat} {a : Act} {w : World} (S : World → Prop) (s n : Nat) (hn : ops.size = n) (hm : P.follows .mixedOrders = true) (h : wpAnyV P .any ops Q S s n (Array.replicate n false) a w.drew) : (Code.region id ops true).wp P Q a w := by
 subst hn
 exact wp_region_any hm (wpAny_of_V _ _ _ _ h)
end
theorem cloneDisk_any (dv pv : Value) (dur : List Int) (ps : List PW) (w : World) (hd : dur.length ≤ 1099511627776) (hn : ps.length ≤ 1073741824) (hs : ∀ p ∈ ps, p.bs.length ≤ 1099511627776) (hv : RdD w dv pv dur ps) :
  Calls Tryz.prog 42 #[.agg #[dv, pv]] w fun e w' => ∃ a n c a' n' c' qs, e = .returned (.agg #[.slice a n c, .slice a' n' c']) ∧ dataP qs = dataP ps ∧
   (∀ b, footD (.slice a n c) (.slice a' n' c') qs b → w.heap.size ≤ b) ∧ OwnD 0 128 5 w' (.slice a n c) (.slice a' n' c') dur qs ∧ Same w w' := by
 obtain ⟨a1, c1, rfl⟩ := hv.dur.form
 obtain ⟨a2, c2, e2⟩ := hv.pend.form
 obtain ⟨i0, hi, hz0, hz1, hz2⟩ := info_parts Tryz.infoSW
 have HP : Hid (RdP w pv ps) := hv.pend
 have HR : Hid (Rd .u8 w (.slice a1 dur.length c1) dur) := hv.dur
 have HS : Hid (∀ p ∈ ps, p.bs.length ≤ 1099511627776) := hs
 subst e2
 clear hv hs
 go_enter Tryz.func42, Tryz.ntmps42
 go_wp2_with fail
 refine (clone_any _ dur _ hd (HR.out.same (((Kept.refl _ _).alloc _).alloc _))).mono ?_
 rintro e w1 ⟨a, n, c, rfl, ho, hf, hk⟩
 simp only [World.size_alloc] at hf
 have b0 := ((FBox.new w (.slice a1 dur.length c1) (.slice a2 ps.length c2) 27).next _).same hk
 have b1 := (FBox.new (w.alloc (.cells #[.slice a1 dur.length c1, .slice a2 ps.length c2] 27)) (.slice none 0 0) (.slice none 0 0) 27).same hk
 simp only [World.size_alloc] at b1
 have HB0 : Hid (FBox w1 w.heap.size (.slice a1 dur.length c1) (.slice a2 ps.length c2)) := b0
 have HB1 : Hid (FBox w1 (w.heap.size + 1) (.slice none 0 0) (.slice none 0 0)) := b1
 have HO := (show Hid (Own 0 5 .u8 w1 (.slice a n c) dur) from ho)
 have HF : Hid (∀ b, (Value.slice a n c).ownBlock = some b → w.heap.size + 1 < b ∧ b < w1.heap.size) := fun b hb => ⟨by have := hf b hb; omega, (ho.lt b hb).2⟩
 have HK : Hid (Same w w1) := (((Kept.refl _ _).alloc _).alloc _).trans hk
 have hz1' : w.heap.size + 1 < w1.heap.size := b1.lt
 clear ho hf hk b0 b1
 obtain ⟨i1, i2, _, _⟩ := HB0.out
 have hwl := HB0.out.lt
 go_wp2
 clear i1 i2
 have hw1 : w.heap.size < w1.heap.size := by omega
 go_loopw [13] (fun i wr => ∃ (k : Nat) (aa : Option Addr) (na ca : Nat) (qs : List PW), k ≤ ps.length ∧ i = .int .i64 k ∧ Hid (qs.length = k) ∧ Hid (dataP qs = dataP (ps.take k)) ∧ Hid (FBox wr w1.heap.size (.slice a n c) (.slice aa na ca)) ∧
   Hid (∀ b, footP (.slice aa na ca) qs b → w1.heap.size < b) ∧ Hid (OwnP 0 128 5 wr (.slice aa na ca) qs) ∧ Hid (Same w1 wr)) (fun i _ => ps.length - (intOf i).toNat)
 case atStart => exact ⟨0, none, 0, 0, [], Nat.zero_le _, rfl, rfl, rfl, FBox.new _ _ _ _, fun b hb => absurd hb (footP_nil b), OwnP.nil _ _ _ _, (Kept.refl _ _).alloc _⟩
 case round =>
  obtain ⟨k, aa, na, ca, qs, hk, rfl, HQL, HQ, HX, HFP, HOP, HKr⟩ := hrel
  obtain ⟨o1, o2, _, _⟩ := HB0.out.same HKr.out
  by_cases hlt : k < ps.length
  ·obtain ⟨b, off, rfl, hc⟩ : ∃ b off, a2 = some ⟨b, off, none⟩ ∧ ∀ i (h : i < ps.length), w.cell? ⟨b, off + i * 2, none⟩ = some (.int .i64 ps[i].sec) ∧ w.cell? ⟨b, off + i * 2 + 1, none⟩ = some ps[i].v := by
    rcases HP.out.row with ⟨rfl, _⟩ | ⟨b, off, c, e, hc⟩
    ·simp at hlt
    ·simp only [Value.slice.injEq, true_and] at e
     obtain ⟨rfl, rfl⟩ := e
     exact ⟨b, off, rfl, hc⟩
   obtain ⟨a3, c3, ev⟩ := (HP.out.data _ (List.getElem_mem hlt)).form
   have hrd := (HP.out.data _ (List.getElem_mem hlt)).same (HK.out.trans HKr.out)
   have hm1 := HS.out _ (List.getElem_mem hlt)
   have q1 := (HK.out.trans HKr.out).cellOf (hc k hlt).1 id
   have q2 := (HK.out.trans HKr.out).cellOf (hc k hlt).2 id
   rw [ev] at q2 hrd
   have HRD := (show Hid (Rd .u8 wr (.slice a3 ps[k].bs.length c3) ps[k].bs) from hrd)
   have HM1 : Hid (ps[k].bs.length ≤ 1099511627776) := hm1
   have hbw : b < w.heap.size := World.block_lt_of_cell? w _ (hc k hlt).1
   clear ev hrd hc hm1
   obtain ⟨x1, x2, x3, x4⟩ := HX.out
   have hki : (k : Int) < (ps.length : Int) := by omega
   have hk0 : (0 : Int) ≤ (k : Int) := by omega
   have HKO : Hid (∀ wx, Same wr wx → ∀ o, (wx.alloc o).ownsRow 0 128 2 (.slice aa na ca) k (pwCells qs)) := fun wx hx o => by have h := ((HOP.out.same hx).same ((Kept.refl _ _).alloc o)).row; rwa [HQL.out] at h
   have hrl0 : w1.heap.size < wr.heap.size := HX.out.lt
   have HXa := (show Hid (FBox (wr.alloc (.cells #[.int .i64 ps[k].sec, .slice a3 ps[k].bs.length c3] 128)) w1.heap.size (.slice a n c) (.slice aa na ca)) from HX.out.next _)
   have HKa := (show Hid (Same wr (wr.alloc (.cells #[.int .i64 ps[k].sec, .slice a3 ps[k].bs.length c3] 128))) from (Kept.refl _ _).alloc _)
   have HBa := (show Hid (FBox (wr.alloc (.cells #[.int .i64 ps[k].sec, .slice a3 ps[k].bs.length c3] 128)) wr.heap.size (.int .i64 ps[k].sec) (.slice a3 ps[k].bs.length c3)) from FBox.new _ _ _ _)
   have xx := HXa.out.2.2.2
   go_wp2_with fail
   have hS : (fun w' => w'.cell? ⟨w1.heap.size, 1, none⟩ = some (.slice aa na ca) ∧ w'.cell? ⟨wr.heap.size, 0, none⟩ = some (.int .i64 ps[k].sec) ∧ w'.cell? ⟨wr.heap.size, 1, none⟩ = some (.slice a3 ps[k].bs.length c3) ∧ w'.frozen? ⟨w1.heap.size, 1, none⟩ = false) (wr.alloc (.cells #[.int .i64 ps[k].sec, .slice a3 ps[k].bs.length c3] 128)).drew := by go_keep
   refine wp_region_V (fun w' => w'.cell? ⟨w1.heap.size, 1, none⟩ = some (.slice aa na ca) ∧ w'.cell? ⟨wr.heap.size, 0, none⟩ = some (.int .i64 ps[k].sec) ∧ w'.cell? ⟨wr.heap.size, 1, none⟩ = some (.slice a3 ps[k].bs.length c3) ∧ w'.frozen? ⟨w1.heap.size, 1, none⟩ = false) 11 12 rfl (by kernel_rfl) ?_
   refine tk 0 17 hS ?_
   refine tk 1 18 hS ?_
   refine tk 2 19 hS ?_
   refine tk 3 20 hS ?_
   refine tk 4 21 hS ?_
   refine tk 5 22 hS ?_
   refine wpAnyV_one (i := 6) (by kernel_rfl) rfl (fun K hK => ?_)
   go_simp
   refine (clone_any _ ps[k].bs _ HM1.out (by exact (HRD.out.same HKa.out).same (Kept.refl _ _).drew)).mono ?_
   rintro e w2 ⟨a4, n4, c4, rfl, ho4, hf4, hk4⟩
   have HKb := (show Hid (Same (wr.alloc (.cells #[.int .i64 ps[k].sec, .slice a3 ps[k].bs.length c3] 128)) w2) from (Kept.refl _ _).drew.trans hk4)
   have HK4 : Hid (Same wr w2) := HKa.out.trans HKb.out
   have HO4 := (show Hid (Own 0 5 .u8 w2 (.slice a4 n4 c4) ps[k].bs) from ho4)
   have HF4 : Hid (∀ b, (Value.slice a4 n4 c4).ownBlock = some b → wr.heap.size ≤ b) := fun b hb => (by have h1 := hf4 b hb; simp at h1; omega)
   obtain ⟨_, y1, _, y5⟩ := HX.out.same HK4.out
   obtain ⟨y2, y3, _, _⟩ := HBa.out.same HKb.out
   have y6 : ∀ o, (w2.alloc o).frozen? ⟨w1.heap.size, 1, none⟩ = false := fun o => ((HX.out.same HK4.out).next o).2.2.2
   have z1 := World.block_lt_of_cell? w2 _ y1
   have z2 := World.block_lt_of_cell? w2 _ y2
   clear ho4 hf4 hk4
   go_wp2_with fail
   have hS2 : (fun w' => w'.cell? ⟨w1.heap.size, 1, none⟩ = some (.slice aa na ca) ∧ w'.cell? ⟨wr.heap.size, 0, none⟩ = some (.int .i64 ps[k].sec) ∧ w'.cell? ⟨wr.heap.size, 1, none⟩ = some (.slice a3 ps[k].bs.length c3) ∧ w'.frozen? ⟨w1.heap.size, 1, none⟩ = false) w2 := by go_keep
   refine hK.out _ _ (fun _ => hS2) ?_
   clear hK K
   try simp only [Act.put, sA, s0, sS]
   refine tk 7 24 hS2 ?_
   refine wpAnyV_one (i := 8) (by kernel_rfl) rfl (fun K hK => ?_)
   go_simp
   have hS3 : (fun w' => w'.cell? ⟨w1.heap.size, 1, none⟩ = some (.slice aa na ca) ∧ w'.cell? ⟨wr.heap.size, 0, none⟩ = some (.int .i64 ps[k].sec) ∧ w'.cell? ⟨wr.heap.size, 1, none⟩ = some (.slice a3 ps[k].bs.length c3) ∧ w'.frozen? ⟨w1.heap.size, 1, none⟩ = false) (w2.alloc (.cells #[.int .i64 ps[k].sec, .slice a4 n4 c4] 128)) := by go_keep
   refine hK.out _ _ (fun _ => hS3) ?_
   clear hK K
   try simp only [Act.put, sA, s0, sS]
   refine wpAnyV_one (i := 9) (by kernel_rfl) rfl (fun K hK => ?_)
   refine step_append_lies _ (by rfl) (.tmp 18) (.tmp 25) 25 (by rfl) 0 128 i0 _ 2 32 Tryz.underlying25 hi hz0 hz1 hz2 rfl (by omega) (.slice aa na ca) k (pwCells qs) (by rfl) (by exact HKO.out w2 HK4.out _) ⟨w2.heap.size, 0, none⟩ 1 1 [.int .i64 ps[k].sec, .slice a4 n4 c4] (by rfl) (by rfl) (World.news_of_block (cs := #[.int .i64 ps[k].sec, .slice a4 n4 c4]) (t := 128) (fr := (0, 0)) (heap_alloc_new w2 _)) (by simp [Value.oneCell']) (by omega) (by unfold maxLen; omega) (by omega) (Nat.zero_le _) (w2.heap.size + 1) (by simp) ?_
   intro g5 cap5 w3 hown5 hgrow5 hat5 hlt5
   have hk5 : Kept (fun b => (Value.slice aa na ca).ownBlock = some b) w2 w3 := ((Kept.refl _ _).alloc _).trans (Kept.of_grown hgrow5 (fun k e => e))
   have n1 : ¬ (Value.slice aa na ca).ownBlock = some w1.heap.size := (fun e => absurd (HFP.out _ (.inl e)) (by omega))
   have n2 : ¬ (Value.slice aa na ca).ownBlock = some wr.heap.size := (fun e => absurd (HOP.out.lt _ (.inl e)).2 (by omega))
   have y11 := hk5.cellOf y1 n1
   have y12 := hk5.cellOf y2 n2
   have y13 := hk5.cellOf y3 n2
   have y15 := ((HX.out.same HK4.out).kept hk5 n1).2.2.2
   have HOWN5 := (show Hid (w3.ownsRow 0 128 2 (.slice (some ⟨g5, 0, none⟩) (k + 1) cap5) (k + 1) (pwCells qs ++ [.int .i64 ps[k].sec, .slice a4 n4 c4])) from hown5)
   have HG5 := (show Hid ((w2.alloc (.cells #[.int .i64 ps[k].sec, .slice a4 n4 c4] 128)).grownBy w3 (Value.slice aa na ca).ownBlock) from hgrow5)
   have HAT5 : Hid ((Value.slice aa na ca).ownBlock = some g5 ∨ g5 = w2.heap.size + 1) := hat5
   have HK5 := (show Hid (Kept (fun b => (Value.slice aa na ca).ownBlock = some b) w2 w3) from hk5)
   clear hown5 hgrow5 hat5 hk5 n1 n2 y1 y2 y3 y5 y6
   have hS4 : (fun w' => w'.cell? ⟨w1.heap.size, 1, none⟩ = some (.slice aa na ca) ∧ w'.cell? ⟨wr.heap.size, 0, none⟩ = some (.int .i64 ps[k].sec) ∧ w'.cell? ⟨wr.heap.size, 1, none⟩ = some (.slice a3 ps[k].bs.length c3) ∧ w'.frozen? ⟨w1.heap.size, 1, none⟩ = false) w3 := by go_keep
   refine hK.out _ _ (fun _ => hS4) ?_
   clear hK K
   try simp only [Act.put, sA, s0, sS]
   refine tk 10 27 hS4 ?_
   refine wpAnyV_one (i := 11) (by kernel_rfl) rfl (fun K hK => ?_)
   go_simp
   refine hK.out _ _ (fun h => absurd rfl h) ?_
   clear hK K
   refine wpAnyV_done (by kernel_rfl) ?_
   try simp only [Act.put, sA, s0, sS]
   have el : w2.heap.size + 1 = (w2.alloc (.cells #[.int .i64 ps[k].sec, .slice a4 n4 c4] 128)).heap.size := by simp
   have hrl : w1.heap.size < wr.heap.size := HX.out.lt
   have h2l : wr.heap.size ≤ w2.heap.size := HK4.out.size
   have hsnoc := OwnP.snoc (sec := ps[k].sec) (bs := ps[k].bs) ((HOP.out.same HK4.out).same ((Kept.refl _ _).alloc _)) (HO4.out.same ((Kept.refl _ _).alloc _)) (fun b hb hf => by have h1 := HF4.out b hb; have h2 := (HOP.out.lt b hf).2; omega) HG5.out HOWN5.out HQL.out.symm (by rw [← el]; exact HAT5.out)
   have HN : Hid (∀ b, footP (.slice (some ⟨g5, 0, none⟩) (k + 1) cap5) (qs ++ [⟨ps[k].sec, .slice a4 n4 c4, ps[k].bs⟩]) b → w1.heap.size < b) := fun b hb => by
    rcases footP_snoc (v := .slice aa na ca) b hb with rfl | hb | hb
    ·rcases HAT5.out with h | h
     ·exact HFP.out _ (.inl h)
     ·omega
    ·exact HFP.out b hb
    ·have := HF4.out b hb; omega
   have HO6 := (show Hid (OwnP 0 128 5 (w3.setCell ⟨w1.heap.size, 1, none⟩ (.slice (some ⟨g5, 0, none⟩) (k + 1) cap5)) (.slice (some ⟨g5, 0, none⟩) (k + 1) cap5) (qs ++ [⟨ps[k].sec, .slice a4 n4 c4, ps[k].bs⟩])) from
    hsnoc.kept (Kept.setCell (Kept.refl (fun b => b = w1.heap.size) w3) (p := ⟨w1.heap.size, 1, none⟩) (.inr rfl) _) (fun b hb e => by have := HN.out b hb; omega))
   have hrow : ¬ (Value.slice aa na ca).ownBlock = some w1.heap.size := fun e => by have := HFP.out _ (.inl e); omega
   have HX6 : Hid (FBox (w3.setCell ⟨w1.heap.size, 1, none⟩ (.slice (some ⟨g5, 0, none⟩) (k + 1) cap5)) w1.heap.size (.slice a n c) (.slice (some ⟨g5, 0, none⟩) (k + 1) cap5)) := ((HX.out.same HK4.out).kept HK5.out hrow).set1 _
   have HK6 : Hid (Same w1 (w3.setCell ⟨w1.heap.size, 1, none⟩ (.slice (some ⟨g5, 0, none⟩) (k + 1) cap5))) :=
    Kept.setCell ((HKr.out.trans HK4.out).next HK5.out (fun b hb e => by have := HFP.out _ (.inl e); omega)) (p := ⟨w1.heap.size, 1, none⟩) (.inl (Nat.le_refl _)) _
   clear hsnoc hrow el
   go_wp2
   go_roundw
   case rel =>
    refine ⟨k + 1, some ⟨g5, 0, none⟩, k + 1, cap5, qs ++ [⟨ps[k].sec, .slice a4 n4 c4, ps[k].bs⟩], by omega, by go_num, ?_, ?_, HX6, HN, HO6, HK6⟩
    ·have := HQL.out; simp [Hid, this]
    ·have h1 := HQ.out
     unfold Hid
     rw [List.take_succ_eq_append_getElem hlt]
     simp only [dataP, List.map_append] at h1 ⊢
     rw [h1]; rfl
   case measure => simp [intOf]; omega
  ·obtain ⟨x1, x2, _, _⟩ := HX.out
   obtain ⟨p1, p2, p3, p4⟩ := HB1.out.same HKr.out
   have hrl : w1.heap.size < wr.heap.size := HX.out.lt
   go_wp2
   obtain rfl : k = ps.length := by omega
   have hq := HQ.out
   rw [List.take_length] at hq
   have hfr : ∀ b, footD (.slice a n c) (.slice aa na ca) qs b → w.heap.size + 1 < b := fun b hb => by
    rcases hb with hb | hb
    ·exact (HF.out b hb).1
    ·have := HFP.out b hb; omega
   refine bodyPost_ret (v := .agg #[.slice a n c, .slice aa na ca]) (by simp [results, Tryz.results42, go_sem, p1, p2]) rfl ⟨a, n, c, aa, na, ca, qs, rfl, hq, fun b hb => by have := hfr b hb; omega, ?_, ?_⟩
   ·refine OwnD.kept (R := fun b => b = w.heap.size + 1) ⟨HO.out.same HKr.out, HOP.out, fun b hb e => by have h1 := HFP.out b hb; have h2 := (HF.out b e).2; omega⟩ ?_ (fun b hb e => by have := hfr b hb; omega)
    exact Kept.setTwo (Kept.refl (fun b => b = w.heap.size + 1) _) (.inr rfl) _ _
   ·exact (HK.out.trans HKr.out).setTwo (.inl (by simp)) _ _
def putAt (dur : List Int) (lo : Nat) (bs : List Int) : List Int := dur.take lo ++ (bs ++ dur.drop (lo + bs.length))
theorem putAt_length (dur : List Int) (lo : Nat) (bs : List Int) (h : lo + bs.length ≤ dur.length) : (putAt dur lo bs).length = dur.length := by simp [putAt]; omega
def settleN (sel : Nat → Bool) (dur : List Int) (ds : List (Int × List Int)) : Nat → List Int
 | 0 => dur
 | k + 1 => if sel k then putAt (settleN sel dur ds k) ((ds.getD k (0, [])).1.toNat * 512) (ds.getD k (0, [])).2 else settleN sel dur ds k
theorem settleN_length (sel : Nat → Bool) (dur : List Int) (ds : List (Int × List Int)) (hv : Valid dur.length ds) (k : Nat) (hk : k ≤ ds.length) : (settleN sel dur ds k).length = dur.length := by
 induction k with
 | zero => rfl
 | succ k ih =>
  have ihk := ih (by omega)
  unfold settleN
  split
  ·have hm : ds.getD k (0, []) ∈ ds := by simp [List.getD, show k < ds.length from by omega]
   obtain ⟨h1, h2, h3⟩ := hv.2 _ hm
   have h4 := hv.1
   rw [putAt_length _ _ _ (by rw [ihk, h3]; have := hv.1.1; omega)]
   exact ihk
  ·exact ihk
section
variable {P : Program} {ops : Array Oper} {o : Oper} {a : Act} {w : World} {K : Act → World → Prop} {Q : Exit → Act → World → Prop} {E : Prop}
end
def secB (dur : List Int) (i : Nat) : List Int := (dur.drop (i * 512)).take 512
def lastN (sel : Nat → Bool) (s : Int) (ds : List (Int × List Int)) : Nat → Option (List Int)
 | 0 => none
 | k + 1 => if (ds.getD k (0, [])).1 = s ∧ sel k = true then some (ds.getD k (0, [])).2 else lastN sel s ds k
theorem putAt_same (dur bs : List Int) (lo : Nat) (h : lo ≤ dur.length) : ((putAt dur lo bs).drop lo).take bs.length = bs := by
 unfold putAt
 have h1 : (dur.take lo).length = lo := by rw [List.length_take]; omega
 rw [List.drop_append, h1, List.drop_of_length_le (by omega), Nat.sub_self, List.drop_zero, List.nil_append, List.take_append_of_le_length (Nat.le_refl _), List.take_length]
theorem putAt_get (dur bs : List Int) (lo : Nat) (h : lo + bs.length ≤ dur.length) (k : Nat) (hk : k < lo ∨ lo + bs.length ≤ k) : (putAt dur lo bs)[k]? = dur[k]? := by
 unfold putAt
 have h1 : (dur.take lo).length = lo := by rw [List.length_take]; omega
 rcases hk with hk | hk
 ·rw [List.getElem?_append_left (by omega), List.getElem?_take, if_pos hk]
 ·rw [List.getElem?_append_right (by omega), List.getElem?_append_right (by omega), List.getElem?_drop, h1]
  congr 1
  omega
theorem secB_other (dur bs : List Int) (i j : Nat) (hij : i ≠ j) (hb : bs.length = 512) (h : j * 512 + 512 ≤ dur.length) : secB (putAt dur (j * 512) bs) i = secB dur i := by
 unfold secB
 apply List.ext_getElem?
 intro k
 rw [List.getElem?_take, List.getElem?_take]
 split
 ·rw [List.getElem?_drop, List.getElem?_drop, putAt_get _ _ _ (by omega) _ (by rw [hb]; omega)]
 ·rfl
theorem secB_same (dur bs : List Int) (i : Nat) (hb : bs.length = 512) (h : i * 512 + 512 ≤ dur.length) : secB (putAt dur (i * 512) bs) i = bs := by
 have := putAt_same dur bs (i * 512) (by omega)
 rw [hb] at this
 exact this
theorem settle_sec (sel : Nat → Bool) (dur : List Int) (ds : List (Int × List Int)) (hv : Valid dur.length ds) (i : Nat) (hi : i < dur.length / 512) : ∀ n, n ≤ ds.length → secB (settleN sel dur ds n) i = (lastN sel (i : Int) ds n).getD (secB dur i)
 | 0, _ => rfl
 | n + 1, hn => by
  have ih := settle_sec sel dur ds hv i hi n (by omega)
  have hl := settleN_length sel dur ds hv n (by omega)
  have hm : ds.getD n (0, []) ∈ ds := by simp [List.getD, show n < ds.length from by omega]
  obtain ⟨h1, h2, h3⟩ := hv.2 _ hm
  have h4 := hv.1.1
  unfold settleN lastN
  by_cases hs : sel n = true
  ·rw [if_pos hs]
   by_cases hsec : (ds.getD n (0, [])).1 = (i : Int)
   ·rw [if_pos ⟨hsec, hs⟩, hsec, show ((i : Int)).toNat = i from by omega, secB_same _ _ _ h3 (by omega)]
    rfl
   ·rw [if_neg (fun h => hsec h.1), ← ih]
    exact secB_other _ _ _ _ (by omega) h3 (by omega)
  ·rw [if_neg hs, if_neg (fun h => hs h.2)]
   exact ih
def joinS (S : Nat → List Int) (k : Nat) : List Int := ((List.range k).map S).flatten
theorem joinS_succ (S : Nat → List Int) (k : Nat) : joinS S (k + 1) = joinS S k ++ S k := by
 unfold joinS
 rw [List.range_succ, List.map_append, List.flatten_append]
 simp
theorem joinS_length (S : Nat → List Int) : ∀ k, (∀ i, i < k → (S i).length = 512) → (joinS S k).length = k * 512
 | 0, _ => rfl
 | k + 1, h => by rw [joinS_succ, List.length_append, joinS_length S k (fun i hi => h i (by omega)), h k (by omega)]; omega
end Go.Proofs.YtdbpaadndaoihaaGreatDoor
