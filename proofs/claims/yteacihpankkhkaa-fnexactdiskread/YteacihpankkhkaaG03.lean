import Derived.Test.YteacihpankkhkaaG02
import Derived.Laws.AppendOwnNone
namespace Go.Proofs.Yteacihpankkhkaa
set_option maxHeartbeats 2000000
set_option linter.unusedVariables false
set_option linter.unusedSimpArgs false
open Go.RowKit
theorem l1Copy_any (v : Value) (bs : List Int) (w : World) (hn : bs.length ≤ 1099511627776) (hv : Rd .u8 w v bs) :
  Calls Try.prog 43 #[v] w fun e w' => ∃ a n c, e = .returned (.slice a n c) ∧ Own 0 5 .u8 w' (.slice a n c) bs ∧ (∀ b, (Value.slice a n c).ownBlock = some b → w.heap.size ≤ b) ∧ Same w w' := by
 obtain ⟨i0, hi, hz0, hz1, hz2⟩ := info_parts Try.infoByte'
 rcases hv.2 with ⟨rfl, a, c, rfl, hac⟩ | ⟨b, off, c, rfl, _, hc⟩
 ·cases a with
  | none =>
   obtain rfl : c = 0 := hac rfl
   clear hv hn hac
   go_enter Try.func43, Try.ntmps43
   go_wp2_with (at_builtin; refine wpList_append_own_none rfl (.tmp 3) (.tmp 4) 22 rfl w.heap.size 5 i0 1 Try.underlying22 hi _ 0 [] rfl (World.ownsRow_made w #[] 0 (Nat.le_refl _) (by simp) (by simp)) rfl ?_)
   go_ret
   exact ⟨_, _, _, rfl, (World.ownsRow_made w #[] 0 (Nat.zero_le _) (by simp) (by simp)), fun b hb => by simp [Value.ownBlock] at hb; omega, (Kept.refl _ _).alloc _⟩
  | some ad =>
   clear hv hn hac
   go_enter Try.func43, Try.ntmps43
   go_wp2_with (at_builtin; refine wpList_append_own _ rfl (.tmp 3) (.tmp 4) 22 rfl w.heap.size 5 i0 (.int .u8 0) 1 1 Try.underlying22 hi hz0 hz1 hz2 rfl (by decide) (.slice (some ⟨w.heap.size, 0, none⟩) 0 0) 0 [] rfl (World.ownsRow_made w #[] 0 (Nat.le_refl _) (by simp) (by simp)) ad 0 c [] rfl rfl (fun j u h => by simp at h) (fun u h => by simp at h) (by simp) (by simp) (by simp) ?_; intro v' w1 hown1 hgrow1 _; have HF := (show Hid (Own w.heap.size 5 .u8 w1 v' []) from hown1); have HK : Hid (Same w w1) := ((Kept.refl _ _).alloc _).grown hgrow1 (fun k e => .inl (by simp [Value.ownBlock] at e; omega)); obtain ⟨aa, na, ca, rfl⟩ := slice_of_own HF.out; clear hown1 hgrow1)
   go_ret
   exact ⟨_, _, _, rfl, HF.out.mono (fun b _ => Nat.zero_le b), fun b hb => (HF.out.lt b hb).1, HK.out⟩
 ·have HC : Hid (∀ i, i < bs.length → (w.alloc (.cells #[] 5)).cell? ⟨b, off + i, none⟩ = some (.int .u8 (bs.getD i 0))) := fun i hi => ((Kept.refl (fun _ => False) w).alloc _).cellOf (hc i hi) id
  clear hv hc
  go_enter Try.func43, Try.ntmps43
  go_wp2_with (at_builtin; refine wpList_append_own _ rfl (.tmp 3) (.tmp 4) 22 rfl w.heap.size 5 i0 (.int .u8 0) 1 1 Try.underlying22 hi hz0 hz1 hz2 rfl (by decide) (.slice (some ⟨w.heap.size, 0, none⟩) 0 0) 0 [] rfl (World.ownsRow_made w #[] 0 (Nat.le_refl _) (by simp) (by simp)) ⟨b, off, none⟩ bs.length c (vals .u8 bs) rfl (by simp [vals_length]) (news_of HC.out) vals_one (by unfold maxLen; omega) (by omega) (by simp) ?_; intro v' w1 hown1 hgrow1 _; have HF := (show Hid (Own w.heap.size 5 .u8 w1 v' bs) from (by simpa [Own, Hid] using hown1)); have HK : Hid (Same w w1) := ((Kept.refl _ _).alloc _).grown hgrow1 (fun k e => .inl (by simp [Value.ownBlock] at e; omega)); obtain ⟨aa, na, ca, rfl⟩ := slice_of_own HF.out; clear hown1 hgrow1)
  go_ret
  exact ⟨_, _, _, rfl, HF.out.mono (fun b _ => Nat.zero_le b), fun b hb => (HF.out.lt b hb).1, HK.out⟩
theorem clone_any (v : Value) (bs : List Int) (w : World) (hn : bs.length ≤ 1099511627776) (hv : Rd .u8 w v bs) :
  Calls Try.prog 33 #[v] w fun e w' => ∃ a n c, e = .returned (.slice a n c) ∧ Own 0 5 .u8 w' (.slice a n c) bs ∧ (∀ b, (Value.slice a n c).ownBlock = some b → w.heap.size ≤ b) ∧ Same w w' := by
 obtain ⟨i0, hi, hz0, hz1, hz2⟩ := info_parts Try.infoByte'
 have hnil := fun (wx : World) (a : Option Addr) (n c : Nat) => Lib.run_eql_slice_nil (P := Try.prog) wx 22 5 a n c 0 0 Try.underlying22
 rcases hv.2 with ⟨rfl, a, c, rfl, hac⟩ | ⟨b, off, c, rfl, _, hc⟩
 ·cases a with
  | none =>
   obtain rfl : c = 0 := hac rfl
   clear hv hn hac
   go_enter Try.func33, Try.ntmps33
   go_wp2
   go_ret
   exact ⟨_, _, _, rfl, Own.nil _ _ _ _, fun b hb => by simp [Value.ownBlock] at hb, Kept.refl _ _⟩
  | some ad =>
   clear hv hn hac
   go_enter Try.func33, Try.ntmps33
   go_wp2_with (at_builtin; refine wpList_append_own _ rfl (.tmp 5) (.tmp 6) 22 rfl w.heap.size 5 i0 (.int .u8 0) 1 1 Try.underlying22 hi hz0 hz1 hz2 rfl (by decide) (.slice (some ⟨w.heap.size, 0, none⟩) 0 0) 0 [] rfl (World.ownsRow_made w #[] 0 (Nat.le_refl _) (by simp) (by simp)) ad 0 c [] rfl rfl (fun j u h => by simp at h) (fun u h => by simp at h) (by simp) (by simp) (by simp) ?_; intro v' w1 hown1 hgrow1 _; have HF := (show Hid (Own w.heap.size 5 .u8 w1 v' []) from hown1); have HK : Hid (Same w w1) := ((Kept.refl _ _).alloc _).grown hgrow1 (fun k e => .inl (by simp [Value.ownBlock] at e; omega)); obtain ⟨aa, na, ca, rfl⟩ := slice_of_own HF.out; clear hown1 hgrow1)
   go_ret
   exact ⟨_, _, _, rfl, HF.out.mono (fun b _ => Nat.zero_le b), fun b hb => (HF.out.lt b hb).1, HK.out⟩
 ·have HC : Hid (∀ i, i < bs.length → (w.alloc (.cells #[] 5)).cell? ⟨b, off + i, none⟩ = some (.int .u8 (bs.getD i 0))) := fun i hi => ((Kept.refl (fun _ => False) w).alloc _).cellOf (hc i hi) id
  clear hv hc
  go_enter Try.func33, Try.ntmps33
  go_wp2_with (at_builtin; refine wpList_append_own _ rfl (.tmp 5) (.tmp 6) 22 rfl w.heap.size 5 i0 (.int .u8 0) 1 1 Try.underlying22 hi hz0 hz1 hz2 rfl (by decide) (.slice (some ⟨w.heap.size, 0, none⟩) 0 0) 0 [] rfl (World.ownsRow_made w #[] 0 (Nat.le_refl _) (by simp) (by simp)) ⟨b, off, none⟩ bs.length c (vals .u8 bs) rfl (by simp [vals_length]) (news_of HC.out) vals_one (by unfold maxLen; omega) (by omega) (by simp) ?_; intro v' w1 hown1 hgrow1 _; have HF := (show Hid (Own w.heap.size 5 .u8 w1 v' bs) from (by simpa [Own, Hid] using hown1)); have HK : Hid (Same w w1) := ((Kept.refl _ _).alloc _).grown hgrow1 (fun k e => .inl (by simp [Value.ownBlock] at e; omega)); obtain ⟨aa, na, ca, rfl⟩ := slice_of_own HF.out; clear hown1 hgrow1)
  go_ret
  exact ⟨_, _, _, rfl, HF.out.mono (fun b _ => Nat.zero_le b), fun b hb => (HF.out.lt b hb).1, HK.out⟩
theorem Rd.part {k : IntKind} {w : World} {b off n c : Nat} {bs : List Int} (h : ∀ i, i < bs.length → w.cell? ⟨b, off + i, none⟩ = some (.int k (bs.getD i 0))) (lo m : Nat) (hm : lo + m ≤ bs.length) (hn : n = m) (hc : m ≤ c) (hmax : m ≤ maxLen) :
  Rd k w (.slice (some ⟨b, off + lo, none⟩) n c) ((bs.drop lo).take m) := by
 have hl : ((bs.drop lo).take m).length = m := by simp; omega
 refine ⟨by omega, .inr ⟨b, off + lo, c, by rw [hn, hl], by rw [hl]; exact hc, fun i hi => ?_⟩⟩
 rw [hl] at hi
 have h1 := h (lo + i) (by omega)
 rw [← Nat.add_assoc] at h1
 rw [h1]
 simp [List.getD, hi]
def lastP (s : Int) : List (Int × List Int) → Option (List Int)
 | [] => none
 | p :: ps => match lastP s ps with
  | some bs => some bs
  | none => if p.1 = s then some p.2 else none
theorem lastP_none (s : Int) (ds : List (Int × List Int)) (h : ∀ p ∈ ds, p.1 ≠ s) : lastP s ds = none := by
 induction ds with
 | nil => rfl
 | cons p ds ih => simp [lastP, ih (fun q hq => h q (List.mem_cons_of_mem _ hq)), h p (List.mem_cons_self ..)]
theorem lastP_append_none (s : Int) (ds es : List (Int × List Int)) (h : ∀ p ∈ es, p.1 ≠ s) : lastP s (ds ++ es) = lastP s ds := by
 induction ds with
 | nil => simpa [lastP] using lastP_none s es h
 | cons p ds ih => simp [lastP, ih]
theorem lastP_snoc (s : Int) (ds : List (Int × List Int)) (bs : List Int) : lastP s (ds ++ [(s, bs)]) = some bs := by
 induction ds with
 | nil => simp [lastP]
 | cons p ds ih => simp [lastP, ih]
def seeD (s : Int) (dur : List Int) (ds : List (Int × List Int)) : List Int := (lastP s ds).getD ((dur.drop (s.toNat * 512)).take 512)
theorem seeD_at {s : Int} {dur : List Int} {ps : List PW} {k : Nat} (hk : k < ps.length) (hs : ps[k].sec = s) (h : ∀ j (hj : j < ps.length), k < j → ps[j].sec ≠ s) : seeD s dur (dataP ps) = ps[k].bs := by
 have e : dataP ps = (dataP (ps.take k) ++ [(s, ps[k].bs)]) ++ dataP (ps.drop (k + 1)) := by
  have e1 : ps = ps.take k ++ (ps[k] :: ps.drop (k + 1)) := by rw [← List.drop_eq_getElem_cons hk, List.take_append_drop]
  have e2 : dataP ps = dataP (ps.take k ++ (ps[k] :: ps.drop (k + 1))) := congrArg dataP e1
  have e3 : dataP (ps.take k ++ (ps[k] :: ps.drop (k + 1))) = dataP (ps.take k) ++ ((ps[k].sec, ps[k].bs) :: dataP (ps.drop (k + 1))) := by
   unfold dataP
   rw [List.map_append, List.map_cons]
  rw [e2, e3, hs, List.append_assoc]
  rfl
 unfold seeD
 rw [e, lastP_append_none, lastP_snoc]
 ·rfl
 ·intro p hp
  obtain ⟨q, hq, rfl⟩ := List.mem_map.1 hp
  obtain ⟨j, hj, rfl⟩ := List.getElem_of_mem hq
  simp only [List.length_drop] at hj
  rw [List.getElem_drop]
  exact h _ (by omega) (by omega)
theorem seeD_none {s : Int} {dur : List Int} {ps : List PW} (h : ∀ j (hj : j < ps.length), ps[j].sec ≠ s) : seeD s dur (dataP ps) = (dur.drop (s.toNat * 512)).take 512 := by
 unfold seeD
 rw [lastP_none]
 ·rfl
 ·intro p hp
  obtain ⟨q, hq, rfl⟩ := List.mem_map.1 hp
  obtain ⟨j, hj, rfl⟩ := List.getElem_of_mem hq
  exact h j hj
theorem l1See_any (dv pv : Value) (dur : List Int) (ps : List PW) (s : Int) (w : World) (h0 : 0 ≤ s) (h1 : s ≤ 1048576) (h2 : (s.toNat + 1) * 512 ≤ dur.length) (hd : dur.length ≤ 1099511627776) (hs : ∀ p ∈ ps, p.bs.length ≤ 1099511627776) (hv : RdD w dv pv dur ps) :
  Calls Try.prog 32 #[.agg #[dv, pv], .int .i64 s] w fun e w' => ∃ a n c, e = .returned (.slice a n c) ∧ Own 0 5 .u8 w' (.slice a n c) (seeD s dur (dataP ps)) ∧ (∀ b, (Value.slice a n c).ownBlock = some b → w.heap.size ≤ b) ∧ Same w w' := by
 have hn2 := hv.pend.len
 unfold maxLen at hn2
 obtain ⟨sn, rfl⟩ : ∃ sn : Nat, s = sn := ⟨s.toNat, by omega⟩
 simp only [Int.toNat_natCast] at h2
 obtain ⟨b0, o0, c0, rfl, hl0, hc0⟩ : ∃ b off c, dv = .slice (some ⟨b, off, none⟩) dur.length c ∧ dur.length ≤ c ∧ ∀ i, i < dur.length → w.cell? ⟨b, off + i, none⟩ = some (.int .u8 (dur.getD i 0)) := by
  rcases hv.dur.2 with ⟨rfl, _⟩ | h
  ·simp at h2
  ·exact h
 have e1 : ((sn : Int) * 512).toNat = sn * 512 := by omega
 have e2 : (((sn : Int) + 1) * 512).toNat = sn * 512 + 512 := by omega
 have g1 : ((sn : Int) + 1) * 512 ≤ (c0 : Int) := by omega
 have g2 : 0 ≤ ((sn : Int) + 1) * 512 := by omega
 have g3 : (sn : Int) * 512 ≤ ((sn : Int) + 1) * 512 := by omega
 have HC0 : Hid (∀ i, i < dur.length → w.cell? ⟨b0, o0 + i, none⟩ = some (.int .u8 (dur.getD i 0))) := hc0
 have HD : Hid (∀ wx, Same w wx → ∀ c, 512 ≤ c → Rd .u8 wx (.slice (some ⟨b0, o0 + sn * 512, none⟩) 512 c) ((dur.drop (sn * 512)).take 512)) := fun wx hk c h512 =>
  Rd.part (fun i hi => hk.cellOf (hc0 i hi) id) (sn * 512) 512 (by omega) rfl h512 (by simp [maxLen])
 clear hc0
 rcases hv.pend.row with ⟨rfl, a2, c2, rfl⟩ | ⟨b, off, c2, rfl, hc⟩
 ·clear hv hn2 hs
  go_enter Try.func32, Try.ntmps32
  go_wp2
  refine wp_loop_rounds 1 ?_
  rw [rounds_succ]
  go_wp2_with fail
  refine (l1Copy_any _ _ _ (by simp; omega) (HD.out _ ((Kept.refl _ _).alloc _) (c0 - sn * 512) (by omega))).mono ?_
  rintro e w1 ⟨a, n, c, rfl, ho, hf, hk⟩
  have HO := (show Hid (Own 0 5 .u8 w1 (.slice a n c) ((dur.drop (sn * 512)).take 512)) from ho)
  have HF : Hid (∀ b, (Value.slice a n c).ownBlock = some b → w.heap.size ≤ b) := fun b hb => by have := hf b hb; simp at this; omega
  have HK : Hid (Same w w1) := ((Kept.refl _ _).alloc _).trans hk
  clear ho hf hk
  go_wp2
  go_ret
  exact ⟨a, n, c, rfl, HO.out, HF.out, HK.out⟩
 ·have HP : Hid (RdP w (.slice (some ⟨b, off, none⟩) ps.length c2) ps) := hv.pend
  have HC : Hid (∀ i (h : i < ps.length), w.cell? ⟨b, off + i * 2, none⟩ = some (.int .i64 ps[i].sec) ∧ w.cell? ⟨b, off + i * 2 + 1, none⟩ = some ps[i].v) := hc
  have HS : Hid (∀ p ∈ ps, p.bs.length ≤ 1099511627776) := hs
  clear hv hc hs
  generalize hl : ps.length = len at hn2 HP ⊢
  have HL : Hid (ps.length = len) := hl
  clear hl
  by_cases hz : len = 0
  ·subst hz
   have HN : Hid (seeD sn dur (dataP ps) = (dur.drop (sn * 512)).take 512) := by
    have h := seeD_none (s := sn) (dur := dur) (ps := ps) (fun j hj => by have := HL.out; omega)
    simpa [Hid] using h
   go_enter Try.func32, Try.ntmps32
   go_wp2
   refine wp_loop_rounds 1 ?_
   rw [rounds_succ]
   go_wp2_with fail
   refine (l1Copy_any _ _ _ (by simp; omega) (HD.out _ ((Kept.refl _ _).alloc _) (c0 - sn * 512) (by omega))).mono ?_
   rintro e w1 ⟨a, n, c, rfl, ho, hf, hk⟩
   rw [← HN.out] at ho
   have HO := (show Hid (Own 0 5 .u8 w1 (.slice a n c) (seeD sn dur (dataP ps))) from ho)
   have HF : Hid (∀ b, (Value.slice a n c).ownBlock = some b → w.heap.size ≤ b) := fun b hb => by have := hf b hb; simp at this; omega
   have HK : Hid (Same w w1) := ((Kept.refl _ _).alloc _).trans hk
   clear ho hf hk HN
   go_wp2
   go_ret
   exact ⟨a, n, c, rfl, HO.out, HF.out, HK.out⟩
  ·go_enter Try.func32, Try.ntmps32
   go_wp2
   go_loop [5] (fun i => (∃ k : Nat, k < len ∧ i = .int .i64 k ∧ Hid (∀ j (hj : j < ps.length), k < j → ps[j].sec ≠ sn)) ∨ (i = .int .i64 (-1) ∧ Hid (∀ j (hj : j < ps.length), ps[j].sec ≠ sn))) (fun i => (intOf i + 1).toNat)
   case atStart => exact .inl ⟨len - 1, by omega, by congr 1; omega, fun j hj h => by have := HL.out; omega⟩
   case round =>
    rcases hrel with ⟨k, hlt, rfl, HV⟩ | ⟨rfl, HV⟩
    ·have hlp : k < ps.length := by rw [HL.out]; exact hlt
     obtain ⟨a1, c1, ev1⟩ := (HP.out.data _ (List.getElem_mem hlp)).form
     have hrd := (HP.out.data _ (List.getElem_mem hlp)).same (w' := w.alloc (.cells #[.slice (some ⟨b0, o0, none⟩) dur.length c0, .slice (some ⟨b, off, none⟩) len c2] 30)) ((Kept.refl _ _).alloc _)
     have hm1 := HS.out _ (List.getElem_mem hlp)
     have hbw : b < w.heap.size := World.block_lt_of_cell? w ⟨b, off + k * 2, none⟩ (HC.out k hlp).1
     have q1 := (HC.out k hlp).1
     have q2 := (HC.out k hlp).2
     rw [ev1] at q2 hrd
     have HRD := (show Hid (Rd .u8 (w.alloc (.cells #[.slice (some ⟨b0, o0, none⟩) dur.length c0, .slice (some ⟨b, off, none⟩) len c2] 30)) (.slice a1 ps[k].bs.length c1) ps[k].bs) from hrd)
     clear ev1 hrd
     by_cases hs : ps[k].sec = sn
     ·have HE : Hid (seeD sn dur (dataP ps) = ps[k].bs) := seeD_at hlp hs HV.out
      rw [hs] at q1
      clear hs
      go_wp2_with fail
      refine (l1Copy_any _ ps[k].bs _ hm1 HRD.out).mono ?_
      rintro e w1 ⟨a, n, c, rfl, ho, hf, hk⟩
      rw [← HE.out] at ho
      have HO := (show Hid (Own 0 5 .u8 w1 (.slice a n c) (seeD sn dur (dataP ps))) from ho)
      have HF : Hid (∀ b, (Value.slice a n c).ownBlock = some b → w.heap.size ≤ b) := fun b hb => by have := hf b hb; simp at this; omega
      have HK : Hid (Same w w1) := ((Kept.refl _ _).alloc _).trans hk
      clear ho hf hk HE
      go_wp2
      go_ret
      exact ⟨a, n, c, rfl, HO.out, HF.out, HK.out⟩
     ·have hs' : (ps[k].sec == (sn : Int)) = false := by simpa using hs
      have HSS : Hid (ps[k].sec ≠ sn) := hs
      generalize ps[k].sec = sec at q1 hs'
      clear hs HRD hm1
      go_wp2
      go_round
      case rel =>
       by_cases hk0 : k = 0
       ·refine .inr ⟨by congr 1; omega, fun j hj => ?_⟩
        by_cases e : j = k
        ·subst e; exact HSS.out
        ·exact HV.out j hj (by omega)
       ·refine .inl ⟨k - 1, by omega, by congr 1; omega, fun j hj h => ?_⟩
        by_cases e : j = k
        ·subst e; exact HSS.out
        ·exact HV.out j hj (by omega)
      case measure => simp [intOf]
    ·have HN : Hid (seeD sn dur (dataP ps) = (dur.drop (sn * 512)).take 512) := by
      have h := seeD_none (s := sn) (dur := dur) (ps := ps) HV.out
      simpa [Hid] using h
     go_wp2_with fail
     refine (l1Copy_any _ _ _ (by simp; omega) (HD.out _ ((Kept.refl _ _).alloc _) (c0 - sn * 512) (by omega))).mono ?_
     rintro e w1 ⟨a, n, c, rfl, ho, hf, hk⟩
     rw [← HN.out] at ho
     have HO := (show Hid (Own 0 5 .u8 w1 (.slice a n c) (seeD sn dur (dataP ps))) from ho)
     have HF : Hid (∀ b, (Value.slice a n c).ownBlock = some b → w.heap.size ≤ b) := fun b hb => by have := hf b hb; simp at this; omega
     have HK : Hid (Same w w1) := ((Kept.refl _ _).alloc _).trans hk
     clear ho hf hk HN
     go_wp2
     go_ret
     exact ⟨a, n, c, rfl, HO.out, HF.out, HK.out⟩
def IsRead (s : Int) (dur : List Int) (ds : List (Int × List Int)) (bs : List Int) : Prop :=
 (Valid dur.length ds ∧ 0 ≤ s ∧ s < (dur.length / 512 : Nat) ∧ bs = seeD s dur ds) ∨ (¬ (Valid dur.length ds ∧ 0 ≤ s ∧ s < (dur.length / 512 : Nat)) ∧ bs = [])
theorem IsRead.one {s : Int} {dur : List Int} {ds : List (Int × List Int)} {bs cs : List Int} (h : IsRead s dur ds bs) (k : IsRead s dur ds cs) : bs = cs := by
 rcases h with ⟨h1, h2, h3, rfl⟩ | ⟨h, rfl⟩ <;> rcases k with ⟨k1, k2, k3, rfl⟩ | ⟨k, rfl⟩
 ·rfl
 ·exact absurd ⟨h1, h2, h3⟩ k
 ·exact absurd ⟨k1, k2, k3⟩ h
 ·rfl
theorem lastP_mem (s : Int) (ds : List (Int × List Int)) (bs : List Int) (h : lastP s ds = some bs) : ∃ p ∈ ds, p.2 = bs := by
 induction ds with
 | nil => simp [lastP] at h
 | cons p ds ih =>
  unfold lastP at h
  split at h
  ·next cs hc =>
   obtain ⟨q, hq, e⟩ := ih (by rw [hc, ← h])
   exact ⟨q, List.mem_cons_of_mem _ hq, e⟩
  ·split at h
   ·simp at h
    exact ⟨p, List.mem_cons_self .., h⟩
   ·simp at h
theorem IsRead.len {s : Int} {dur : List Int} {ds : List (Int × List Int)} {bs : List Int} (h : IsRead s dur ds bs) : bs.length ≤ 512 := by
 rcases h with ⟨hv, _, _, rfl⟩ | ⟨_, rfl⟩
 ·unfold seeD
  cases hl : lastP s ds with
  | none => simp; omega
  | some cs =>
   obtain ⟨p, hp, rfl⟩ := lastP_mem s ds cs hl
   have := (hv.2 p hp).2.2
   simp [this]
 ·simp
theorem specRead_any (dv pv : Value) (dur : List Int) (ps : List PW) (s : Int) (w : World) (hd : dur.length ≤ 1099511627776) (hs : ∀ p ∈ ps, p.bs.length ≤ 1099511627776) (hv : RdD w dv pv dur ps) :
  Calls Try.prog 16 #[.agg #[dv, pv], .int .i64 s] w fun e w' => ∃ a n c bs, e = .returned (.slice a n c) ∧ IsRead s dur (dataP ps) bs ∧ Own 0 5 .u8 w' (.slice a n c) bs ∧ (∀ b, (Value.slice a n c).ownBlock = some b → w.heap.size ≤ b) ∧ Same w w' := by
 obtain ⟨a1, c1, rfl⟩ := hv.dur.form
 obtain ⟨a2, c2, rfl⟩ := hv.pend.form
 have hm := hv.dur.1
 have HV := (show Hid (RdD w (.slice a1 dur.length c1) (.slice a2 ps.length c2) dur ps) from hv)
 have HS : Hid (∀ p ∈ ps, p.bs.length ≤ 1099511627776) := hs
 clear hv hs
 go_enter Try.func16, Try.ntmps16
 go_wp2_with fail
 refine (specValid_any _ _ dur ps _ (HV.out.same ((Kept.refl _ _).alloc _))).mono ?_
 rintro e w1 ⟨⟨B, rfl, hB⟩, hk1⟩
 have HB1 : Hid (Box w1 w.heap.size (.slice a1 dur.length c1) (.slice a2 ps.length c2)) := (Box.new _ _ _ _).same hk1
 have HK1 : Hid (Same w w1) := ((Kept.refl _ _).alloc _).trans hk1
 clear hk1
 obtain ⟨p1, p2⟩ := HB1.out
 have hl1 := HB1.out.lt
 cases B with
 | false =>
  have HN : Hid (¬ Valid dur.length (dataP ps)) := fun h => by have := hB.2 h; simp at this
  clear hB
  go_wp2
  go_ret
  exact ⟨_, _, _, [], rfl, .inr ⟨fun h => HN.out h.1, rfl⟩, World.ownsRow_made w1 #[] 0 (Nat.zero_le _) (by simp) (by simp), fun b hb => by simp [Value.ownBlock] at hb; have := HK1.out.size; omega, HK1.out.alloc _⟩
 | true =>
  have HY : Hid (Valid dur.length (dataP ps)) := hB.1 rfl
  clear hB
  by_cases s1 : s < 0
  ·go_wp2
   go_ret
   exact ⟨_, _, _, [], rfl, .inr ⟨fun h => by omega, rfl⟩, World.ownsRow_made w1 #[] 0 (Nat.zero_le _) (by simp) (by simp), fun b hb => by simp [Value.ownBlock] at hb; have := HK1.out.size; omega, HK1.out.alloc _⟩
  ·by_cases s2 : (dur.length : Int) / 512 ≤ s
   ·go_wp2_with (go_at_call 25; refine (l1Sectors_any _ _ _ _ _ _ _ hm).mono ?_; rintro e w' ⟨rfl, rfl⟩)
    go_ret
    exact ⟨_, _, _, [], rfl, .inr ⟨fun h => by omega, rfl⟩, (by have h := World.ownsRow_made (base := 0) (e := 5) (size := 1) (w1.alloc (.cells #[.slice a1 dur.length c1, .slice a2 ps.length c2] 30)) #[] 0 (Nat.zero_le _) (by simp) (by simp); rw [World.size_alloc] at h; exact h), fun b hb => by simp [Value.ownBlock] at hb; have := HK1.out.size; omega, (HK1.out.alloc _).alloc _⟩
   ·have s3 : ((dur.length / 512 : Nat) : Int) ≤ 1024 := by have := HY.out.1.2.2.1; omega
    go_wp2_with (go_at_call 25; refine (l1Sectors_any _ _ _ _ _ _ _ hm).mono ?_; rintro e w' ⟨rfl, rfl⟩)
    refine (l1See_any _ _ dur ps s _ (by omega) (by omega) (by omega) hd HS.out (HV.out.same (HK1.out.alloc _))).mono ?_
    rintro e w2 ⟨a, n, c, rfl, ho, hf, hk⟩
    have HO := (show Hid (Own 0 5 .u8 w2 (.slice a n c) (seeD s dur (dataP ps))) from ho)
    have HF : Hid (∀ b, (Value.slice a n c).ownBlock = some b → w.heap.size ≤ b) := fun b hb => by have h1 := hf b hb; have h2 := HK1.out.size; simp at h1; omega
    have HK : Hid (Same w w2) := (HK1.out.alloc _).trans hk
    clear ho hf hk p1 p2
    go_wp2
    go_ret
    exact ⟨a, n, c, _, rfl, .inl ⟨HY.out, by omega, by omega, rfl⟩, HO.out, HF.out, HK.out⟩
theorem implRead_any (dv pv : Value) (dur : List Int) (ps : List PW) (s : Int) (w : World) (hd : dur.length ≤ 1099511627776) (hs : ∀ p ∈ ps, p.bs.length ≤ 1099511627776) (hv : RdD w dv pv dur ps) :
  Calls Try.prog 17 #[.agg #[dv, pv], .int .i64 s] w fun e w' => ∃ a n c bs, e = .returned (.slice a n c) ∧ IsRead s dur (dataP ps) bs ∧ Own 0 5 .u8 w' (.slice a n c) bs ∧ (∀ b, (Value.slice a n c).ownBlock = some b → w.heap.size ≤ b) ∧ Same w w' := by
 have hn2 := hv.pend.len
 unfold maxLen at hn2
 obtain ⟨a1, c1, e1⟩ := hv.dur.form
 obtain ⟨a2, c2, e2⟩ := hv.pend.form
 have hm := hv.dur.1
 have HP : Hid (RdP w pv ps) := hv.pend
 have HV0 : Hid (Rd .u8 w dv dur) := hv.dur
 subst e1 e2
 have HV := (show Hid (RdD w (.slice a1 dur.length c1) (.slice a2 ps.length c2) dur ps) from hv)
 have HS : Hid (∀ p ∈ ps, p.bs.length ≤ 1099511627776) := hs
 clear hv hs
 go_enter Try.func17, Try.ntmps17
 go_wp2_with fail
 refine (implValid_any _ _ dur ps _ (HV.out.same ((Kept.refl _ _).alloc _))).mono ?_
 rintro e w1 ⟨⟨B, rfl, hB⟩, hk1⟩
 have HB1 : Hid (Box w1 w.heap.size (.slice a1 dur.length c1) (.slice a2 ps.length c2)) := (Box.new _ _ _ _).same hk1
 have HK1 : Hid (Same w w1) := ((Kept.refl _ _).alloc _).trans hk1
 clear hk1
 obtain ⟨p1, p2⟩ := HB1.out
 have hl1 := HB1.out.lt
 cases B with
 | false =>
  have HN : Hid (¬ Valid dur.length (dataP ps)) := fun h => by have := hB.2 h; simp at this
  clear hB
  go_wp2
  go_ret
  exact ⟨_, _, _, [], rfl, .inr ⟨fun h => HN.out h.1, rfl⟩, Own.nil _ _ _ _, fun b hb => by simp [Value.ownBlock] at hb, HK1.out⟩
 | true =>
  have HY : Hid (Valid dur.length (dataP ps)) := hB.1 rfl
  clear hB
  by_cases s1 : s < 0
  ·go_wp2
   go_ret
   exact ⟨_, _, _, [], rfl, .inr ⟨fun h => by omega, rfl⟩, Own.nil _ _ _ _, fun b hb => by simp [Value.ownBlock] at hb, HK1.out⟩
  ·by_cases s2 : (dur.length : Int) / 512 ≤ s
   ·go_wp2_with (go_at_call 28; refine (countSectors_any _ _ _ _ _ _ _ hm).mono ?_; rintro e w' ⟨rfl, rfl⟩)
    go_ret
    exact ⟨_, _, _, [], rfl, .inr ⟨fun h => by omega, rfl⟩, Own.nil _ _ _ _, fun b hb => by simp [Value.ownBlock] at hb, HK1.out.alloc _⟩
   ·have s3 : ((dur.length / 512 : Nat) : Int) ≤ 1024 := by have := HY.out.1.2.2.1; omega
    obtain ⟨sn, rfl⟩ : ∃ sn : Nat, s = sn := ⟨s.toNat, by omega⟩
    have h2 : (sn + 1) * 512 ≤ dur.length := by omega
    obtain ⟨b0, o0, hl0, rfl, hc0⟩ : ∃ b off, dur.length ≤ c1 ∧ a1 = some ⟨b, off, none⟩ ∧ ∀ i, i < dur.length → w.cell? ⟨b, off + i, none⟩ = some (.int .u8 (dur.getD i 0)) := by
     rcases HV0.out.2 with ⟨rfl, _⟩ | ⟨b, off, c, e, hl, hc⟩
     ·simp at h2
     ·simp only [Value.slice.injEq, true_and] at e
      obtain ⟨rfl, rfl⟩ := e
      exact ⟨b, off, hl, rfl, hc⟩
    have e1 : ((sn : Int) * 512).toNat = sn * 512 := by omega
    have e2 : ((sn : Int) * 512 + 512).toNat = sn * 512 + 512 := by omega
    have g1 : (sn : Int) * 512 + 512 ≤ (c1 : Int) := by omega
    have g2 : 0 ≤ (sn : Int) * 512 + 512 := by omega
    have HD : Hid (∀ wx, Same w1 wx → ∀ c, 512 ≤ c → Rd .u8 wx (.slice (some ⟨b0, o0 + sn * 512, none⟩) 512 c) ((dur.drop (sn * 512)).take 512)) := fun wx hk c h512 =>
     Rd.part (fun i hi => (HK1.out.trans hk).cellOf (hc0 i hi) id) (sn * 512) 512 (by omega) rfl h512 (by simp [maxLen])
    clear hc0 HV0 HV
    by_cases hz : ps.length = 0
    ·have HN : Hid (seeD sn dur (dataP ps) = (dur.drop (sn * 512)).take 512) := by
      have h := seeD_none (s := sn) (dur := dur) (ps := ps) (fun j hj => by omega)
      simpa [Hid] using h
     go_wp2_with (go_at_call 28; refine (countSectors_any _ _ _ _ _ _ _ hm).mono ?_; rintro e w' ⟨rfl, rfl⟩)
     refine wp_loop_rounds 1 ?_
     rw [rounds_succ]
     go_wp2_with fail
     refine (clone_any _ _ _ (by simp; omega) (HD.out _ ((Kept.refl _ _).alloc _) (c1 - sn * 512) (by omega))).mono ?_
     rintro e w2 ⟨a, n, c, rfl, ho, hf, hk⟩
     rw [← HN.out] at ho
     have HO := (show Hid (Own 0 5 .u8 w2 (.slice a n c) (seeD sn dur (dataP ps))) from ho)
     have HF : Hid (∀ b, (Value.slice a n c).ownBlock = some b → w.heap.size ≤ b) := fun b hb => by have h1 := hf b hb; have h2 := HK1.out.size; simp at h1; omega
     have HK : Hid (Same w w2) := (HK1.out.alloc _).trans hk
     clear ho hf hk HN
     go_wp2
     go_ret
     exact ⟨a, n, c, _, rfl, .inl ⟨HY.out, by omega, by omega, rfl⟩, HO.out, HF.out, HK.out⟩
    ·obtain ⟨b, off, rfl, hc⟩ : ∃ b off, a2 = some ⟨b, off, none⟩ ∧ ∀ i (h : i < ps.length), w.cell? ⟨b, off + i * 2, none⟩ = some (.int .i64 ps[i].sec) ∧ w.cell? ⟨b, off + i * 2 + 1, none⟩ = some ps[i].v := by
      rcases HP.out.row with ⟨rfl, _⟩ | ⟨b, off, c, e, hc⟩
      ·simp at hz
      ·simp only [Value.slice.injEq, true_and] at e
       obtain ⟨rfl, rfl⟩ := e
       exact ⟨b, off, rfl, hc⟩
     have HC : Hid (∀ i (h : i < ps.length), w.cell? ⟨b, off + i * 2, none⟩ = some (.int .i64 ps[i].sec) ∧ w.cell? ⟨b, off + i * 2 + 1, none⟩ = some ps[i].v) := hc
     clear hc
     go_wp2_with (go_at_call 28; refine (countSectors_any _ _ _ _ _ _ _ hm).mono ?_; rintro e w' ⟨rfl, rfl⟩)
     go_loop [5] (fun i => (∃ k : Nat, k < ps.length ∧ i = .int .i64 k ∧ Hid (∀ j (hj : j < ps.length), k < j → ps[j].sec ≠ sn)) ∨ (i = .int .i64 (-1) ∧ Hid (∀ j (hj : j < ps.length), ps[j].sec ≠ sn))) (fun i => (intOf i + 1).toNat)
     case atStart => exact .inl ⟨ps.length - 1, by omega, by congr 1; omega, fun j hj h => by omega⟩
     case round =>
      rcases hrel with ⟨k, hlp, rfl, HV⟩ | ⟨rfl, HV⟩
      ·obtain ⟨a3, c3, ev1⟩ := (HP.out.data _ (List.getElem_mem hlp)).form
       have hrd := (HP.out.data _ (List.getElem_mem hlp)).same (w' := w1.alloc (.cells #[.slice (some ⟨b0, o0, none⟩) dur.length c1, .slice (some ⟨b, off, none⟩) ps.length c2] 30)) (HK1.out.alloc _)
       have hm1 := HS.out _ (List.getElem_mem hlp)
       have q1 := HK1.out.cellOf (HC.out k hlp).1 id
       have q2 := HK1.out.cellOf (HC.out k hlp).2 id
       have hbw : b < w1.heap.size := World.block_lt_of_cell? w1 ⟨b, off + k * 2, none⟩ q1
       rw [ev1] at q2 hrd
       have HRD := (show Hid (Rd .u8 (w1.alloc (.cells #[.slice (some ⟨b0, o0, none⟩) dur.length c1, .slice (some ⟨b, off, none⟩) ps.length c2] 30)) (.slice a3 ps[k].bs.length c3) ps[k].bs) from hrd)
       clear ev1 hrd
       by_cases hs : ps[k].sec = sn
       ·have HN : Hid (seeD sn dur (dataP ps) = ps[k].bs) := seeD_at hlp hs HV.out
        rw [hs] at q1
        clear hs
        go_wp2_with fail
        refine (clone_any _ ps[k].bs _ hm1 HRD.out).mono ?_
        rintro e w2 ⟨a, n, c, rfl, ho, hf, hk⟩
        rw [← HN.out] at ho
        have HO := (show Hid (Own 0 5 .u8 w2 (.slice a n c) (seeD sn dur (dataP ps))) from ho)
        have HF : Hid (∀ b, (Value.slice a n c).ownBlock = some b → w.heap.size ≤ b) := fun b hb => by have h1 := hf b hb; have h2 := HK1.out.size; simp at h1; omega
        have HK : Hid (Same w w2) := (HK1.out.alloc _).trans hk
        clear ho hf hk HN
        go_wp2
        go_ret
        exact ⟨a, n, c, _, rfl, .inl ⟨HY.out, by omega, by omega, rfl⟩, HO.out, HF.out, HK.out⟩
       ·have hs' : (ps[k].sec == (sn : Int)) = false := by simpa using hs
        have HSS : Hid (ps[k].sec ≠ sn) := hs
        generalize ps[k].sec = sec at q1 hs'
        clear hs HRD hm1
        go_wp2
        go_round
        case rel =>
         by_cases hk0 : k = 0
         ·refine .inr ⟨by congr 1; omega, fun j hj => ?_⟩
          by_cases e : j = k
          ·subst e; exact HSS.out
          ·exact HV.out j hj (by omega)
         ·refine .inl ⟨k - 1, by omega, by congr 1; omega, fun j hj h => ?_⟩
          by_cases e : j = k
          ·subst e; exact HSS.out
          ·exact HV.out j hj (by omega)
        case measure => simp [intOf]
      ·have HN : Hid (seeD sn dur (dataP ps) = (dur.drop (sn * 512)).take 512) := by
        have h := seeD_none (s := sn) (dur := dur) (ps := ps) HV.out
        simpa [Hid] using h
       go_wp2_with fail
       refine (clone_any _ _ _ (by simp; omega) (HD.out _ ((Kept.refl _ _).alloc _) (c1 - sn * 512) (by omega))).mono ?_
       rintro e w2 ⟨a, n, c, rfl, ho, hf, hk⟩
       rw [← HN.out] at ho
       have HO := (show Hid (Own 0 5 .u8 w2 (.slice a n c) (seeD sn dur (dataP ps))) from ho)
       have HF : Hid (∀ b, (Value.slice a n c).ownBlock = some b → w.heap.size ≤ b) := fun b hb => by have h1 := hf b hb; have h2 := HK1.out.size; simp at h1; omega
       have HK : Hid (Same w w2) := (HK1.out.alloc _).trans hk
       clear ho hf hk HN
       go_wp2
       go_ret
       exact ⟨a, n, c, _, rfl, .inl ⟨HY.out, by omega, by omega, rfl⟩, HO.out, HF.out, HK.out⟩
end Go.Proofs.Yteacihpankkhkaa
