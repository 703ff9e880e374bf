import Derived.Test.YtfhdkbibcndmjaaG00
import Derived.Laws.AppendOwnNone
import Derived.Deep.RegionWith
import Derived.Deep.DeepMust
namespace Go.Proofs.Ytfhdkbibcndmjaa
set_option maxHeartbeats 400000
open Go.RowKit
theorem l1Copy_any (v : Value) (bs : List Int) (w : World) (hn : bs.length ≤ 1099511627776) (hv : Rd .u8 w v bs) :
    Calls Try.prog 78 #[v] w fun e w' => ∃ a n c, e = .returned (.slice a n c) ∧ Own 0 5 .u8 w' (.slice a n c) bs ∧ (∀ b, (Value.slice a n c).ownBlock = some b → w.heap.size ≤ b) ∧ Same w w' := by
  obtain ⟨i0, hi, hz0, hz1, hz2⟩ := info_parts Try.infoByte'
  rcases hv.2 with ⟨rfl, a, c, rfl, hac⟩ | ⟨b, off, c, rfl, _, hc⟩
  · cases a with
    | none =>
      obtain rfl : c = 0 := hac rfl
      clear hv hn hac
      go_enter Try.func78, Try.ntmps78
      go_wp2_with (at_builtin; refine wpList_append_own_none rfl (.tmp 3) (.tmp 4) 22 rfl w.heap.size 5 i0 1 Try.underlying22 hi _ 0 [] rfl (World.ownsRow_made w #[] 0 (Nat.le_refl _) (by simp) (by simp)) rfl ?_)
      go_ret
      exact ⟨_, _, _, rfl, (World.ownsRow_made w #[] 0 (Nat.zero_le _) (by simp) (by simp)), fun b hb => by simp [Value.ownBlock] at hb; omega, (Kept.refl _ _).alloc _⟩
    | some ad =>
      clear hv hn hac
      go_enter Try.func78, Try.ntmps78
      go_wp2_with (at_builtin; refine wpList_append_own _ rfl (.tmp 3) (.tmp 4) 22 rfl w.heap.size 5 i0 (.int .u8 0) 1 1 Try.underlying22 hi hz0 hz1 hz2 rfl (by decide) (.slice (some ⟨w.heap.size, 0, none⟩) 0 0) 0 [] rfl (World.ownsRow_made w #[] 0 (Nat.le_refl _) (by simp) (by simp)) ad 0 c [] rfl rfl (fun j u h => by simp at h) (fun u h => by simp at h) (by simp) (by simp) (by simp) ?_; intro v' w1 hown1 hgrow1 _; have HF := (show Hid (Own w.heap.size 5 .u8 w1 v' []) from hown1); have HK : Hid (Same w w1) := ((Kept.refl _ _).alloc _).grown hgrow1 (fun k e => .inl (by simp [Value.ownBlock] at e; omega)); obtain ⟨aa, na, ca, rfl⟩ := slice_of_own HF.out; clear hown1 hgrow1)
      go_ret
      exact ⟨_, _, _, rfl, HF.out.mono (fun b _ => Nat.zero_le b), fun b hb => (HF.out.lt b hb).1, HK.out⟩
  · have HC : Hid (∀ i, i < bs.length → (w.alloc (.cells #[] 5)).cell? ⟨b, off + i, none⟩ = some (.int .u8 (bs.getD i 0))) := fun i hi => ((Kept.refl (fun _ => False) w).alloc _).cellOf (hc i hi) id
    clear hv hc
    go_enter Try.func78, Try.ntmps78
    go_wp2_with (at_builtin; refine wpList_append_own _ rfl (.tmp 3) (.tmp 4) 22 rfl w.heap.size 5 i0 (.int .u8 0) 1 1 Try.underlying22 hi hz0 hz1 hz2 rfl (by decide) (.slice (some ⟨w.heap.size, 0, none⟩) 0 0) 0 [] rfl (World.ownsRow_made w #[] 0 (Nat.le_refl _) (by simp) (by simp)) ⟨b, off, none⟩ bs.length c (vals .u8 bs) rfl (by simp [vals_length]) (news_of HC.out) vals_one (by unfold maxLen; omega) (by omega) (by simp) ?_; intro v' w1 hown1 hgrow1 _; have HF := (show Hid (Own w.heap.size 5 .u8 w1 v' bs) from (by simpa [Own, Hid] using hown1)); have HK : Hid (Same w w1) := ((Kept.refl _ _).alloc _).grown hgrow1 (fun k e => .inl (by simp [Value.ownBlock] at e; omega)); obtain ⟨aa, na, ca, rfl⟩ := slice_of_own HF.out; clear hown1 hgrow1)
    go_ret
    exact ⟨_, _, _, rfl, HF.out.mono (fun b _ => Nat.zero_le b), fun b hb => (HF.out.lt b hb).1, HK.out⟩
theorem clone_any (v : Value) (bs : List Int) (w : World) (hn : bs.length ≤ 1099511627776) (hv : Rd .u8 w v bs) :
    Calls Try.prog 58 #[v] w fun e w' => ∃ a n c, e = .returned (.slice a n c) ∧ Own 0 5 .u8 w' (.slice a n c) bs ∧ (∀ b, (Value.slice a n c).ownBlock = some b → w.heap.size ≤ b) ∧ Same w w' := by
  obtain ⟨i0, hi, hz0, hz1, hz2⟩ := info_parts Try.infoByte'
  have hnil := fun (wx : World) (a : Option Addr) (n c : Nat) => Lib.run_eql_slice_nil (P := Try.prog) wx 22 5 a n c 0 0 Try.underlying22
  rcases hv.2 with ⟨rfl, a, c, rfl, hac⟩ | ⟨b, off, c, rfl, _, hc⟩
  · cases a with
    | none =>
      obtain rfl : c = 0 := hac rfl
      clear hv hn hac
      go_enter Try.func58, Try.ntmps58
      go_wp2
      go_ret
      exact ⟨_, _, _, rfl, Own.nil _ _ _ _, fun b hb => by simp [Value.ownBlock] at hb, Kept.refl _ _⟩
    | some ad =>
      clear hv hn hac
      go_enter Try.func58, Try.ntmps58
      go_wp2_with (at_builtin; refine wpList_append_own _ rfl (.tmp 5) (.tmp 6) 22 rfl w.heap.size 5 i0 (.int .u8 0) 1 1 Try.underlying22 hi hz0 hz1 hz2 rfl (by decide) (.slice (some ⟨w.heap.size, 0, none⟩) 0 0) 0 [] rfl (World.ownsRow_made w #[] 0 (Nat.le_refl _) (by simp) (by simp)) ad 0 c [] rfl rfl (fun j u h => by simp at h) (fun u h => by simp at h) (by simp) (by simp) (by simp) ?_; intro v' w1 hown1 hgrow1 _; have HF := (show Hid (Own w.heap.size 5 .u8 w1 v' []) from hown1); have HK : Hid (Same w w1) := ((Kept.refl _ _).alloc _).grown hgrow1 (fun k e => .inl (by simp [Value.ownBlock] at e; omega)); obtain ⟨aa, na, ca, rfl⟩ := slice_of_own HF.out; clear hown1 hgrow1)
      go_ret
      exact ⟨_, _, _, rfl, HF.out.mono (fun b _ => Nat.zero_le b), fun b hb => (HF.out.lt b hb).1, HK.out⟩
  · have HC : Hid (∀ i, i < bs.length → (w.alloc (.cells #[] 5)).cell? ⟨b, off + i, none⟩ = some (.int .u8 (bs.getD i 0))) := fun i hi => ((Kept.refl (fun _ => False) w).alloc _).cellOf (hc i hi) id
    clear hv hc
    go_enter Try.func58, Try.ntmps58
    go_wp2_with (at_builtin; refine wpList_append_own _ rfl (.tmp 5) (.tmp 6) 22 rfl w.heap.size 5 i0 (.int .u8 0) 1 1 Try.underlying22 hi hz0 hz1 hz2 rfl (by decide) (.slice (some ⟨w.heap.size, 0, none⟩) 0 0) 0 [] rfl (World.ownsRow_made w #[] 0 (Nat.le_refl _) (by simp) (by simp)) ⟨b, off, none⟩ bs.length c (vals .u8 bs) rfl (by simp [vals_length]) (news_of HC.out) vals_one (by unfold maxLen; omega) (by omega) (by simp) ?_; intro v' w1 hown1 hgrow1 _; have HF := (show Hid (Own w.heap.size 5 .u8 w1 v' bs) from (by simpa [Own, Hid] using hown1)); have HK : Hid (Same w w1) := ((Kept.refl _ _).alloc _).grown hgrow1 (fun k e => .inl (by simp [Value.ownBlock] at e; omega)); obtain ⟨aa, na, ca, rfl⟩ := slice_of_own HF.out; clear hown1 hgrow1)
    go_ret
    exact ⟨_, _, _, rfl, HF.out.mono (fun b _ => Nat.zero_le b), fun b hb => (HF.out.lt b hb).1, HK.out⟩
end Go.Proofs.Ytfhdkbibcndmjaa

namespace Go.Proofs.Ytfhdkbibcndmjaa
set_option maxHeartbeats 400000
open Go.RowKit
theorem markSectorWriteS_own (base : Nat) (va : Value) (ps : List PW) (k0 : Int) (w : World) (h0 : 0 ≤ k0) (h1 : endP k0 ps ≤ 1125899906842624) (hn : ps.length ≤ 1125899906842624)
    (ha : OwnP base 40 5 w va ps) :
    Calls Try.prog 66 #[va, .int .i64 k0] w fun e w' => e = .returned (.int .i64 (endP k0 ps)) ∧ OwnP base 40 5 w' va (markP k0 ps) ∧ Kept (footP va ps) w w' := by
  by_cases hz : ps.length = 0
  · obtain rfl : ps = [] := List.length_eq_zero_iff.1 hz
    obtain ⟨aa, ca, rfl⟩ : ∃ aa ca, va = .slice aa 0 ca := by rcases ha.form with ⟨rfl, _⟩ | ⟨g, cap, rfl, _⟩ <;> exact ⟨_, _, rfl⟩
    have HA : Hid (OwnP base 40 5 w (.slice aa 0 ca) []) := ha
    clear ha hn hz
    go_enter Try.func66, Try.ntmps66
    go_wp2
    refine wp_loop_rounds 1 ?_
    rw [rounds_succ]
    go_wp2
    go_ret
    exact ⟨by simp [endP], by simpa [markP] using HA.out, Kept.refl _ _⟩
  · obtain ⟨g, cap, rfl, hb, hlt, _, _⟩ : ∃ g cap, va = .slice (some ⟨g, 0, none⟩) ps.length cap ∧ base ≤ g ∧ g < w.heap.size ∧ ps.length ≤ cap ∧ cap ≤ maxLen := by
      rcases ha.form with ⟨_, rfl⟩ | h
      · simp at hz
      · exact h
    generalize hl : ps.length = len at *
    have HL : Hid (ps.length = len) := hl
    have H1 : Hid (endP k0 ps ≤ 1125899906842624) := h1
    have HA : Hid (OwnP base 40 5 w (.slice (some ⟨g, 0, none⟩) len cap) ps) := ha
    clear hl h1 ha
    go_enter Try.func66, Try.ntmps66
    go_wp2
    go_loopw [1, 5] (fun v i wr => ∃ (k : Nat) (c : Int), k ≤ len ∧ i = .int .i64 k ∧ v = .int .i64 c ∧ Hid (c = endP k0 (ps.take k)) ∧ Hid (OwnP base 40 5 wr (.slice (some ⟨g, 0, none⟩) len cap) (partP k0 ps k)) ∧ Hid (Kept (footP (.slice (some ⟨g, 0, none⟩) len cap) ps) w wr)) (fun _ i _ => len - (intOf i).toNat)
    case atStart => exact ⟨0, k0, Nat.zero_le _, rfl, rfl, rfl, by rw [partP_zero]; exact HA.out, Kept.refl _ _⟩
    case round =>
      obtain ⟨k, c, hk, rfl, rfl, HC, HO, HK⟩ := hrel
      by_cases hlt : k < len
      · have hlp : k < ps.length := by rw [HL.out]; exact hlt
        have hf := HO.out.frozen (by rw [partP_length]; exact HL.out.symm) (k * 2)
        have hc := HO.out.sec (by rw [partP_length]; exact HL.out.symm) k (by rw [partP_length]; exact hlp)
        have hv : wr.cell? ⟨g, k * 2 + 1, none⟩ = some ps[k].v := by rw [HO.out.val (by rw [partP_length]; exact HL.out.symm) k (by rw [partP_length]; exact hlp), partP_vAt _ _ _ _ hlp]
        have hc0 : k0 ≤ c := by rw [HC.out]; exact endP_le _ _
        have hc1 : c + 1 + ps[k].bs.length ≤ 1125899906842624 := by rw [HC.out, ← endP_step k0 ps k hlp]; exact Int.le_trans (endP_take_le _ _ _) H1.out
        have HO2 : Hid (OwnP base 40 5 (wr.setCell ⟨g, k * 2, none⟩ (.int .i64 c)) (.slice (some ⟨g, 0, none⟩) len cap) (markP k0 (ps.take k) ++ ⟨c, ps[k].v, ps[k].bs⟩ :: ps.drop (k + 1))) := by
          have h := HO.out
          rw [partP_at _ _ _ hlp] at h
          have hl := HL.out
          exact h.setSec (by simp [markP_length]; omega) c _ (by simp [markP_length]; omega)
        go_wp2_with fail
        refine (markByteS_own base ps[k].v ps[k].bs (c + 1) _ (by omega) (by omega) (by omega) (HO2.out.data ⟨c, ps[k].v, ps[k].bs⟩ (by simp))).mono ?_
        rintro e w1 ⟨rfl, ho, hk1⟩
        have HO3 : Hid (OwnP base 40 5 w1 (.slice (some ⟨g, 0, none⟩) len cap) (partP k0 ps (k + 1))) := by
          rw [partP_step _ _ _ hlp, ← HC.out]
          exact HO2.out.setData hk1 ho
        have HK3 : Hid (Kept (footP (.slice (some ⟨g, 0, none⟩) len cap) ps) w w1) :=
          (HK.out.setCell (p := ⟨g, k * 2, none⟩) (.inr (.inl rfl)) _).trans (hk1.mono fun b _ hb => .inr ⟨ps[k], List.getElem_mem _, hb⟩)
        clear ho hk1 hv hc hf HO HO2
        go_wp2
        go_roundw
        case rel =>
          exact ⟨k + 1, c + 1 + ps[k].bs.length, by omega, by go_num, rfl, by rw [endP_step _ _ _ hlp, ← HC.out]; rfl, HO3, HK3⟩
        case measure => simp [intOf]; omega
      · go_wp2
        go_ret
        obtain rfl : k = len := by omega
        have hl := HL.out
        have hc := HC.out
        have ho := HO.out
        rw [← hl, List.take_length] at hc
        rw [← hl, partP_all, hl] at ho
        exact ⟨ret_int hc, ho, HK.out⟩
theorem heldSectorWriteS_own (base : Nat) (va : Value) (ps : List PW) (k0 : Int) (w : World) (h0 : 0 ≤ k0) (h1 : endP k0 ps ≤ 1125899906842624) (hn : ps.length ≤ 1125899906842624)
    (ha : OwnP base 40 5 w va (markP k0 ps)) :
    Calls Try.prog 68 #[va, .int .i64 k0] w fun e w' => e = .returned (.int .i64 (endP k0 ps)) ∧ w' = w := by
  by_cases hz : ps.length = 0
  · obtain rfl : ps = [] := List.length_eq_zero_iff.1 hz
    obtain ⟨aa, ca, rfl⟩ : ∃ aa ca, va = .slice aa 0 ca := by rcases ha.form with ⟨rfl, _⟩ | ⟨g, cap, rfl, _⟩ <;> exact ⟨_, _, rfl⟩
    clear ha hn hz
    go_enter Try.func68, Try.ntmps68
    go_wp2
    refine wp_loop_rounds 1 ?_
    rw [rounds_succ]
    go_wp2
    go_ret
    exact ⟨by simp [endP], rfl⟩
  · obtain ⟨g, cap, rfl⟩ : ∃ g cap, va = .slice (some ⟨g, 0, none⟩) ps.length cap := by
      rcases ha.form with ⟨_, h⟩ | ⟨g, cap, h, _⟩
      · have := congrArg List.length h; simp [markP_length] at this; simp [this] at hz
      · exact ⟨g, cap, by rw [h, markP_length]⟩
    have H1 : Hid (endP k0 ps ≤ 1125899906842624) := h1
    have HA : Hid (OwnP base 40 5 w (.slice (some ⟨g, 0, none⟩) ps.length cap) (markP k0 ps)) := ha
    clear h1 ha
    generalize hl : ps.length = len at hn hz HA ⊢
    have HL : Hid (ps.length = len) := hl
    clear hl
    go_enter Try.func68, Try.ntmps68
    go_wp2
    go_loop [1, 5] (fun v i => ∃ (k : Nat) (c : Int), k ≤ len ∧ i = .int .i64 k ∧ v = .int .i64 c ∧ Hid (c = endP k0 (ps.take k))) (fun _ i => len - (intOf i).toNat)
    case atStart => exact ⟨0, k0, Nat.zero_le _, rfl, rfl, rfl⟩
    case round =>
      obtain ⟨k, c, hk, rfl, rfl, HC⟩ := hrel
      by_cases hlt : k < len
      · have hlp : k < ps.length := by rw [HL.out]; exact hlt
        have hlm : k < (markP k0 ps).length := by rw [markP_length]; exact hlp
        have hc : w.cell? ⟨g, k * 2, none⟩ = some (.int .i64 c) := by rw [HA.out.sec (by rw [markP_length]; exact HL.out.symm) k hlm, markP_at _ _ _ hlp, ← HC.out]
        have hv : w.cell? ⟨g, k * 2 + 1, none⟩ = some ps[k].v := by rw [HA.out.val (by rw [markP_length]; exact HL.out.symm) k hlm, markP_at _ _ _ hlp]
        have hd := HA.out.data _ (List.getElem_mem hlm)
        rw [markP_at _ _ _ hlp, ← HC.out] at hd
        have HD : Hid (Own base 5 .u8 w ps[k].v (marks (c + 1) ps[k].bs.length)) := hd
        have hc0 : k0 ≤ c := by rw [HC.out]; exact endP_le _ _
        have hc1 : c + 1 + ps[k].bs.length ≤ 1125899906842624 := by rw [HC.out, ← endP_step k0 ps k hlp]; exact Int.le_trans (endP_take_le _ _ _) H1.out
        clear hd
        go_wp2_with fail
        refine (heldByteS_own base ps[k].v ps[k].bs.length (c + 1) _ (by omega) (by omega) (by omega) HD.out).mono ?_
        rintro e w1 ⟨rfl, rfl⟩
        go_wp2
        go_round
        case rel => exact ⟨k + 1, c + 1 + ps[k].bs.length, by omega, by go_num, rfl, by rw [endP_step _ _ _ hlp, ← HC.out]; rfl⟩
        case measure => simp [intOf]; omega
      · go_wp2
        go_ret
        obtain rfl : k = len := by omega
        have hl := HL.out
        have hc := HC.out
        rw [← hl, List.take_length] at hc
        exact ⟨ret_int hc, rfl⟩
theorem eqSectorWrite_own (base : Nat) (sec : Int) (va vb : Value) (bs : List Int) (w : World) (hn : bs.length ≤ 1125899906842624)
    (ha : Own base 5 .u8 w va bs) (hb : Own base 5 .u8 w vb bs) :
    Calls Try.prog 89 #[.agg #[.int .i64 sec, va], .agg #[.int .i64 sec, vb]] w fun e w' => e = .returned (.bool true) ∧ Same w w' := by
  obtain ⟨aa, na, ca, rfl⟩ : ∃ aa na ca, va = .slice aa na ca := by rcases ha.form with ⟨rfl, _⟩ | ⟨g, cap, rfl, _⟩ <;> exact ⟨_, _, _, rfl⟩
  obtain ⟨ab, nb, cb, rfl⟩ : ∃ aa na ca, vb = .slice aa na ca := by rcases hb.form with ⟨rfl, _⟩ | ⟨g, cap, rfl, _⟩ <;> exact ⟨_, _, _, rfl⟩
  have HA : Hid (Own base 5 .u8 w (.slice aa na ca) bs) := ha
  have HB : Hid (Own base 5 .u8 w (.slice ab nb cb) bs) := hb
  clear ha hb
  go_enter Try.func89, Try.ntmps89
  go_wp2_with fail
  refine (eqByteS_own base _ _ bs _ hn (HA.out.same (((Kept.refl _ _).alloc _).alloc _)) (HB.out.same (((Kept.refl _ _).alloc _).alloc _))).mono ?_
  rintro e w1 ⟨rfl, n1, rfl⟩
  go_wp2
  go_ret
  exact ⟨rfl, (((Kept.refl _ _).alloc _).alloc _).drewN _⟩
theorem eqSectorWriteS_own (base : Nat) (va vb : Value) (ps qs : List PW) (w : World) (hn : ps.length ≤ 1125899906842624) (hs : dataP ps = dataP qs) (hsm : ∀ p ∈ ps, p.bs.length ≤ 1125899906842624)
    (ha : OwnP base 40 5 w va ps) (hb : OwnP base 40 5 w vb qs) :
    Calls Try.prog 65 #[va, vb] w fun e w' => e = .returned (.bool true) ∧ Same w w' := by
  have hlen : qs.length = ps.length := by rw [← dataP_length, ← dataP_length, hs]
  by_cases hz : ps.length = 0
  · obtain rfl : ps = [] := List.length_eq_zero_iff.1 hz
    obtain rfl : qs = [] := List.length_eq_zero_iff.1 hlen
    obtain ⟨aa, ca, rfl⟩ : ∃ aa ca, va = .slice aa 0 ca := by rcases ha.form with ⟨rfl, _⟩ | ⟨g, cap, rfl, _⟩ <;> exact ⟨_, _, rfl⟩
    obtain ⟨ab, cb, rfl⟩ : ∃ aa ca, vb = .slice aa 0 ca := by rcases hb.form with ⟨rfl, _⟩ | ⟨g, cap, rfl, _⟩ <;> exact ⟨_, _, rfl⟩
    clear ha hb hn hz hs
    go_enter Try.func65, Try.ntmps65
    go_wp2
    refine wp_loop_rounds 1 ?_
    rw [rounds_succ]
    go_wp2
    go_ret
    exact ⟨rfl, Kept.refl _ _⟩
  · obtain ⟨ga, ca, rfl⟩ : ∃ g cap, va = .slice (some ⟨g, 0, none⟩) ps.length cap := by
      rcases ha.form with ⟨_, h⟩ | ⟨g, cap, h, _⟩
      · simp [h] at hz
      · exact ⟨g, cap, h⟩
    obtain ⟨gb, cb, rfl⟩ : ∃ g cap, vb = .slice (some ⟨g, 0, none⟩) ps.length cap := by
      rcases hb.form with ⟨_, h⟩ | ⟨g, cap, h, _⟩
      · simp [h] at hlen; omega
      · exact ⟨g, cap, by rw [h, hlen]⟩
    have HA : Hid (OwnP base 40 5 w (.slice (some ⟨ga, 0, none⟩) ps.length ca) ps) := ha
    have HB : Hid (OwnP base 40 5 w (.slice (some ⟨gb, 0, none⟩) ps.length cb) qs) := hb
    have HQ : Hid (qs.length = ps.length) := hlen
    have HS : Hid (dataP ps = dataP qs) := hs
    have HM : Hid (∀ p ∈ ps, p.bs.length ≤ 1125899906842624) := hsm
    clear ha hb hs hlen hsm
    generalize hl : ps.length = len at hn hz HA HB ⊢
    have HL : Hid (ps.length = len) := hl
    clear hl
    go_enter Try.func65, Try.ntmps65
    go_wp2
    go_loopw [5] (fun i wr => ∃ (k : Nat), k ≤ len ∧ i = .int .i64 k ∧ Hid (Same w wr)) (fun i _ => len - (intOf i).toNat)
    case atStart => exact ⟨0, Nat.zero_le _, rfl, Kept.refl _ _⟩
    case round =>
      obtain ⟨k, hk, rfl, HK⟩ := hrel
      by_cases hlt : k < len
      · have hlp : k < ps.length := by rw [HL.out]; exact hlt
        have hlq : k < qs.length := by rw [HQ.out]; exact hlp
        have hoa := HA.out.same HK.out
        have hob := HB.out.same HK.out
        obtain ⟨s1, s2⟩ := dataP_at HS.out k hlp hlq
        have s3 := HM.out _ (List.getElem_mem hlp)
        have ha1 : wr.cell? ⟨ga, k * 2, none⟩ = some (.int .i64 ps[k].sec) := hoa.sec HL.out.symm k hlp
        have ha2 : wr.cell? ⟨ga, k * 2 + 1, none⟩ = some ps[k].v := hoa.val HL.out.symm k hlp
        have hb1 : wr.cell? ⟨gb, k * 2, none⟩ = some (.int .i64 ps[k].sec) := by rw [hob.sec (by rw [HQ.out, HL.out]) k hlq, s1]
        have hb2 : wr.cell? ⟨gb, k * 2 + 1, none⟩ = some qs[k].v := hob.val (by rw [HQ.out, HL.out]) k hlq
        have HDA : Hid (Own base 5 .u8 wr ps[k].v ps[k].bs) := hoa.data _ (List.getElem_mem hlp)
        have HDB : Hid (Own base 5 .u8 wr qs[k].v ps[k].bs) := by have := hob.data _ (List.getElem_mem hlq); rw [← s2] at this; exact this
        clear s1 s2 hoa hob
        go_wp2_with fail
        go_region_with (go_at_call 89; refine (eqSectorWrite_own base ps[k].sec ps[k].v qs[k].v ps[k].bs _ s3 (by exact HDA.out.same (Kept.refl _ _).drew) (by exact HDB.out.same (Kept.refl _ _).drew)).mono ?_; rintro e w1 ⟨rfl, hk1⟩)
        all_goals
          have HK1 : Hid (Same w w1) := HK.out.drew.trans hk1
          clear hk1 ha1 ha2 hb1 hb2 HDA HDB
          go_wp2
          go_roundw
          case rel => exact ⟨k + 1, by omega, by go_num, HK1⟩
          case measure => simp [intOf]; omega
      · go_wp2
        go_ret
        exact ⟨rfl, HK.out⟩
end Go.Proofs.Ytfhdkbibcndmjaa

namespace Go.Proofs.Ytfhdkbibcndmjaa
set_option maxHeartbeats 400000
open Go.RowKit
theorem slice_of_ownP {base : Nat} {tw tb : TypeId} {w : World} {v : Value} {ps : List PW} (h : OwnP base tw tb w v ps) : ∃ aa na ca, v = .slice aa na ca := by
  rcases h.form with ⟨rfl, _⟩ | ⟨g, cap, rfl, _⟩ <;> exact ⟨_, _, _, rfl⟩
theorem eqDisk_own (base : Nat) (dv pv dv' pv' : Value) (dur : List Int) (ps qs : List PW) (w : World) (hd : dur.length ≤ 1125899906842624) (hn : ps.length ≤ 1125899906842624)
    (hs : dataP ps = dataP qs) (hsm : ∀ p ∈ ps, p.bs.length ≤ 1125899906842624)
    (ha : OwnD base 40 5 w dv pv dur ps) (hb : OwnD base 40 5 w dv' pv' dur qs) :
    Calls Try.prog 24 #[.agg #[dv, pv], .agg #[dv', pv']] w fun e w' => e = .returned (.bool true) ∧ Same w w' := by
  obtain ⟨a1, n1, c1, rfl⟩ := slice_of_own ha.dur
  obtain ⟨a2, n2, c2, rfl⟩ := slice_of_ownP ha.pend
  obtain ⟨a3, n3, c3, rfl⟩ := slice_of_own hb.dur
  obtain ⟨a4, n4, c4, rfl⟩ := slice_of_ownP hb.pend
  have HA := (show Hid (OwnD base 40 5 w _ _ dur ps) from ha)
  have HB := (show Hid (OwnD base 40 5 w _ _ dur qs) from hb)
  have HS : Hid (dataP ps = dataP qs) := hs
  have HM : Hid (∀ p ∈ ps, p.bs.length ≤ 1125899906842624) := hsm
  clear ha hb hs hsm
  go_enter Try.func24, Try.ntmps24
  go_wp2_with fail
  refine (eqByteS_own base _ _ dur _ hd (HA.out.dur.same (((Kept.refl _ _).alloc _).alloc _)) (HB.out.dur.same (((Kept.refl _ _).alloc _).alloc _))).mono ?_
  rintro e w1 ⟨rfl, m1, rfl⟩
  go_wp2_with fail
  refine (eqSectorWriteS_own base _ _ ps qs _ hn HS.out HM.out (HA.out.pend.same ((((Kept.refl _ _).alloc _).alloc _).drewN _)) (HB.out.pend.same ((((Kept.refl _ _).alloc _).alloc _).drewN _))).mono ?_
  rintro e w2 ⟨rfl, hk2⟩
  go_wp2
  go_ret
  exact ⟨rfl, ((((Kept.refl _ _).alloc _).alloc _).drewN _).trans hk2⟩
theorem markDisk_own (base : Nat) (dv pv : Value) (dur : List Int) (ps : List PW) (k0 : Int) (w : World) (h0 : 0 ≤ k0) (h1 : endP (k0 + dur.length) ps ≤ 1125899906842624) (hn : ps.length ≤ 1125899906842624)
    (ha : OwnD base 40 5 w dv pv dur ps) :
    Calls Try.prog 26 #[.agg #[dv, pv], .int .i64 k0] w fun e w' => e = .returned (.int .i64 (endP (k0 + dur.length) ps)) ∧
      OwnD base 40 5 w' dv pv (marks k0 dur.length) (markP (k0 + dur.length) ps) ∧ Kept (footD dv pv ps) w w' := by
  have hle := endP_le (k0 + dur.length) ps
  obtain ⟨a1, n1, c1, rfl⟩ := slice_of_own ha.dur
  obtain ⟨a2, n2, c2, rfl⟩ := slice_of_ownP ha.pend
  have HA := (show Hid (OwnD base 40 5 w _ _ dur ps) from ha)
  have H1 : Hid (endP (k0 + dur.length) ps ≤ 1125899906842624) := h1
  have hb1 : k0 + dur.length ≤ 1125899906842624 := by omega
  have hlt := HA.out.lt
  have HLT : Hid (∀ b, footD (.slice a1 n1 c1) (.slice a2 n2 c2) ps b → base ≤ b ∧ b < w.heap.size) := hlt
  clear ha h1 hle hlt
  go_enter Try.func26, Try.ntmps26
  go_wp2_with fail
  refine (markByteS_own base _ dur k0 _ (by omega) (by omega) (by omega) (HA.out.dur.same ((Kept.refl _ _).alloc _))).mono ?_
  rintro e w1 ⟨rfl, ho1, hk1⟩
  have hc : w1.cell? ⟨w.heap.size, 1, none⟩ = some (.slice a2 n2 c2) := by
    rw [hk1.cell (by simp) (fun e => by have := (HLT.out w.heap.size (.inl e)).2; omega)]; simp
  have HO1 : Hid (OwnP base 40 5 w1 (.slice a2 n2 c2) ps) :=
    (HA.out.pend.same ((Kept.refl _ _).alloc _)).kept hk1 (fun b hb e => HA.out.apart b hb e)
  have HK1 : Hid (Kept (fun b => (Value.slice a1 n1 c1).ownBlock = some b) w w1) := ((Kept.refl _ _).alloc _).trans hk1
  have HD1 : Hid (Own base 5 .u8 w1 (.slice a1 n1 c1) (marks k0 dur.length)) := ho1
  clear ho1 hk1
  go_wp2_with fail
  refine (markSectorWriteS_own base _ ps (k0 + dur.length) _ (by omega) H1.out hn HO1.out).mono ?_
  rintro e w2 ⟨rfl, ho2, hk2⟩
  have HF : Hid (OwnD base 40 5 w2 (.slice a1 n1 c1) (.slice a2 n2 c2) (marks k0 dur.length) (markP (k0 + dur.length) ps) ∧ Kept (footD (.slice a1 n1 c1) (.slice a2 n2 c2) ps) w w2) :=
    ⟨⟨HD1.out.kept hk2 (fun b hb e => HA.out.apart b e hb), ho2, fun b hb => HA.out.apart b ((footP_v (markP_v _ _) b).1 hb)⟩,
      (HK1.out.mono (fun b _ e => .inl e)).trans (hk2.mono (fun b _ e => .inr e))⟩
  clear ho2 hk2 hc HO1 HK1 HD1
  go_wp2
  go_ret
  exact ⟨rfl, HF.out⟩
theorem heldDisk_own (base : Nat) (dv pv : Value) (dur : List Int) (ps : List PW) (k0 : Int) (w : World) (h0 : 0 ≤ k0) (h1 : endP (k0 + dur.length) ps ≤ 1125899906842624) (hn : ps.length ≤ 1125899906842624)
    (ha : OwnD base 40 5 w dv pv (marks k0 dur.length) (markP (k0 + dur.length) ps)) :
    Calls Try.prog 28 #[.agg #[dv, pv], .int .i64 k0] w fun e w' => e = .returned (.int .i64 (endP (k0 + dur.length) ps)) ∧ Same w w' := by
  have hle := endP_le (k0 + dur.length) ps
  obtain ⟨a1, n1, c1, rfl⟩ := slice_of_own ha.dur
  obtain ⟨a2, n2, c2, rfl⟩ := slice_of_ownP ha.pend
  have HA := (show Hid (OwnD base 40 5 w _ _ (marks k0 dur.length) (markP (k0 + dur.length) ps)) from ha)
  have H1 : Hid (endP (k0 + dur.length) ps ≤ 1125899906842624) := h1
  have hb1 : k0 + dur.length ≤ 1125899906842624 := by omega
  clear ha h1
  go_enter Try.func28, Try.ntmps28
  go_wp2_with fail
  refine (heldByteS_own base _ dur.length k0 _ (by omega) (by omega) (by omega) (HA.out.dur.same ((Kept.refl _ _).alloc _))).mono ?_
  rintro e w1 ⟨rfl, rfl⟩
  go_wp2_with fail
  refine (heldSectorWriteS_own base _ ps (k0 + dur.length) _ (by omega) H1.out hn (HA.out.pend.same ((Kept.refl _ _).alloc _))).mono ?_
  rintro e w2 ⟨rfl, rfl⟩
  go_wp2
  go_ret
  exact ⟨rfl, (Kept.refl _ _).alloc _⟩
end Go.Proofs.Ytfhdkbibcndmjaa

namespace Go.Proofs.Ytfhdkbibcndmjaa
set_option maxHeartbeats 400000
open Go.RowKit
theorem szByteS_any (a : Option Addr) (n c : Nat) (left : Int) (w : World) (h0 : 0 ≤ left) (h1 : left ≤ 1048576) (hn : n ≤ maxLen) :
    Calls Try.prog 59 #[.slice a n c, .int .i64 left] w fun e w' => ∃ r : Int, e = .returned (.int .i64 r) ∧ ((r = -1 ∧ left < n) ∨ (r = left - n ∧ 0 ≤ r)) ∧ w' = w := by
  unfold maxLen at hn
  by_cases h : left < n
  · go_enter Try.func59, Try.ntmps59
    go_wp2
    go_ret
    exact ⟨_, rfl, .inl ⟨rfl, h⟩, rfl⟩
  · go_enter Try.func59, Try.ntmps59
    go_wp2
    go_ret
    exact ⟨_, rfl, .inr ⟨rfl, by omega⟩, rfl⟩
end Go.Proofs.Ytfhdkbibcndmjaa

namespace Go.Proofs.Ytfhdkbibcndmjaa
set_option maxHeartbeats 1000000
open Go.RowKit
theorem Try.infoSW : (Try.prog.info? 40).map (fun i => (i.zero, i.size, i.bytes)) = some (some (.agg #[.int .i64 0, .slice none 0 0]), 2, 32) := by kernel_rfl
theorem szSectorWrite_any (sec : Int) (a : Option Addr) (n c : Nat) (left : Int) (w : World) (h0 : 0 ≤ left) (h1 : left ≤ 1048576) (hn : n ≤ maxLen) :
    Calls Try.prog 87 #[.agg #[.int .i64 sec, .slice a n c], .int .i64 left] w fun e w' => ∃ r : Int, e = .returned (.int .i64 r) ∧ ((r = -1 ∧ left < n) ∨ (r = left - n ∧ 0 ≤ r)) ∧ Same w w' := by
  go_enter Try.func87, Try.ntmps87
  go_wp2_with fail
  refine (szByteS_any a n c left _ h0 h1 hn).mono ?_
  rintro e w1 ⟨r, rfl, hr, rfl⟩
  rcases hr with ⟨rfl, hr⟩ | ⟨hr, hr0⟩
  · go_wp2
    go_ret
    exact ⟨_, rfl, .inl ⟨rfl, hr⟩, (Kept.refl _ _).alloc _⟩
  · have HR : Hid (r = left - n) := hr
    clear hr
    go_wp2
    go_ret
    exact ⟨_, rfl, .inr ⟨HR.out, hr0⟩, (Kept.refl _ _).alloc _⟩
theorem szSectorWriteS_any (v : Value) (ps : List PW) (left : Int) (w : World) (h0 : 0 ≤ left) (h1 : left ≤ 1048576) (hp : RdP w v ps) :
    Calls Try.prog 60 #[v, .int .i64 left] w fun e w' => ∃ r : Int, e = .returned (.int .i64 r) ∧ (r = -1 ∨ (r = left - ps.length - sizeP ps ∧ 0 ≤ r)) ∧ Same w w' := by
  have hn := hp.len
  unfold maxLen at hn
  rcases hp.row with ⟨rfl, a, c, rfl⟩ | ⟨b, off, c, rfl, hc⟩
  · clear hp hn
    go_enter Try.func60, Try.ntmps60
    go_wp2
    refine wp_loop_rounds 1 ?_
    rw [rounds_succ]
    go_wp2
    go_ret
    exact ⟨_, rfl, .inr ⟨by simp [sizeP], by omega⟩, Kept.refl _ _⟩
  · have HP : Hid (RdP w (.slice (some ⟨b, off, none⟩) ps.length c) ps) := hp
    have HC : Hid (∀ i (h : i < ps.length), w.cell? ⟨b, off + i * 2, none⟩ = some (.int .i64 ps[i].sec) ∧ w.cell? ⟨b, off + i * 2 + 1, none⟩ = some ps[i].v) := hc
    clear hp hc
    generalize hl : ps.length = len at hn HP ⊢
    have HL : Hid (ps.length = len) := hl
    clear hl
    by_cases h : left < len
    · go_enter Try.func60, Try.ntmps60
      go_wp2
      go_ret
      exact ⟨_, rfl, .inl rfl, Kept.refl _ _⟩
    · go_enter Try.func60, Try.ntmps60
      go_wp2
      go_loopw [1, 5] (fun u i wr => ∃ (k : Nat) (r : Int), k ≤ len ∧ i = .int .i64 k ∧ u = .int .i64 r ∧ 0 ≤ r ∧ r ≤ left ∧ Hid (r = left - len - sizeP (ps.take k)) ∧ Hid (Same w wr)) (fun _ i _ => len - (intOf i).toNat)
      case atStart => exact ⟨0, left - len, Nat.zero_le _, rfl, rfl, by omega, by omega, by simp [sizeP, Hid], Kept.refl _ _⟩
      case round =>
        obtain ⟨k, r, hk, rfl, rfl, hr0, hr1, HR, HK⟩ := hrel
        by_cases hlt : k < len
        · have hlp : k < ps.length := by rw [HL.out]; exact hlt
          obtain ⟨a1, c1, e1⟩ := (HP.out.data _ (List.getElem_mem hlp)).form
          have hm1 := (HP.out.data _ (List.getElem_mem hlp)).1
          have q1 := HK.out.cellOf (HC.out k hlp).1 id
          have q2 := HK.out.cellOf (HC.out k hlp).2 id
          rw [e1] at q2
          clear e1
          go_wp2_with fail
          refine (szSectorWrite_any _ _ _ _ _ _ hr0 (by omega) hm1).mono ?_
          rintro e w1 ⟨r1, rfl, hr2, hk1⟩
          have HK1 : Hid (Same w w1) := HK.out.trans hk1
          clear q1 q2 hk1
          rcases hr2 with ⟨rfl, hr2⟩ | ⟨hr2, hr3⟩
          · go_wp2
            go_ret
            exact ⟨_, rfl, .inl rfl, HK1.out⟩
          · have hr4 : r1 ≤ left := by omega
            have HR1 : Hid (r1 = r - ps[k].bs.length) := hr2
            clear hr2
            go_wp2
            go_roundw
            case rel => exact ⟨k + 1, r1, by omega, by go_num, rfl, hr3, hr4, by have h1 := HR1.out; have h2 := HR.out; have h3 := sizeP_step ps k hlp; unfold Hid; omega, HK1⟩
            case measure => simp [intOf]; omega
        · go_wp2
          go_ret
          obtain rfl : k = len := by omega
          have h1 := HR.out
          have h2 := HL.out
          rw [← h2, List.take_length] at h1
          exact ⟨r, rfl, .inr ⟨by omega, hr0⟩, HK.out⟩
theorem szDisk_any (dv pv : Value) (dur : List Int) (ps : List PW) (left : Int) (w : World) (h0 : 0 ≤ left) (h1 : left ≤ 1048576) (hp : RdD w dv pv dur ps) :
    Calls Try.prog 19 #[.agg #[dv, pv], .int .i64 left] w fun e w' => ∃ r : Int, e = .returned (.int .i64 r) ∧ (r = -1 ∨ (r = left - dur.length - ps.length - sizeP ps ∧ 0 ≤ r)) ∧ Same w w' := by
  obtain ⟨a1, c1, rfl⟩ := hp.dur.form
  obtain ⟨a2, c2, rfl⟩ := hp.pend.form
  have hm := hp.dur.1
  have HP := (show Hid (RdP w _ ps) from hp.pend)
  clear hp
  go_enter Try.func19, Try.ntmps19
  go_wp2_with fail
  refine (szByteS_any _ _ _ left _ h0 h1 hm).mono ?_
  rintro e w1 ⟨r, rfl, hr, rfl⟩
  rcases hr with ⟨rfl, hr⟩ | ⟨hr, hr0⟩
  · go_wp2
    go_ret
    exact ⟨_, rfl, .inl rfl, (Kept.refl _ _).alloc _⟩
  · have hr1 : r ≤ left := by omega
    have HR : Hid (r = left - dur.length) := hr
    clear hr
    go_wp2_with fail
    refine (szSectorWriteS_any _ ps r _ hr0 (by omega) (HP.out.same ((Kept.refl _ _).alloc _))).mono ?_
    rintro e w2 ⟨r2, rfl, hr2, hk2⟩
    have HK2 : Hid (Same w w2) := ((Kept.refl _ _).alloc _).trans hk2
    clear hk2
    rcases hr2 with rfl | ⟨hr2, hr3⟩
    · go_wp2
      go_ret
      exact ⟨_, rfl, .inl rfl, HK2.out⟩
    · have HR2 : Hid (r2 = r - ps.length - sizeP ps) := hr2
      clear hr2
      go_wp2
      go_ret
      exact ⟨r2, rfl, .inr ⟨by have h1 := HR.out; have h2 := HR2.out; omega, hr3⟩, HK2.out⟩
end Go.Proofs.Ytfhdkbibcndmjaa

namespace Go.Proofs.Ytfhdkbibcndmjaa
set_option maxHeartbeats 1000000
open Go.RowKit
theorem toSectorWrite_any (sec : Int) (v : Value) (bs : List Int) (w : World) (hn : bs.length ≤ 1099511627776) (hv : Rd .u8 w v bs) :
    Calls Try.prog 88 #[.agg #[.int .i64 sec, v]] w fun e w' => ∃ g, e = .returned (.agg #[.int .i64 sec, .slice (some ⟨g, 0, none⟩) bs.length bs.length]) ∧ w.heap.size ≤ g ∧ Own 0 5 .u8 w' (.slice (some ⟨g, 0, none⟩) bs.length bs.length) bs ∧ Same w w' := by
  obtain ⟨a, c, rfl⟩ := hv.form
  have HV := (show Hid (Rd .u8 w _ bs) from hv)
  clear hv
  go_enter Try.func88, Try.ntmps88
  go_wp2_with fail
  refine (toByteS_any _ bs _ hn (HV.out.same ((((Kept.refl _ _).alloc _).alloc _).alloc _))).mono ?_
  rintro e w1 ⟨g, rfl, hg, ho, hk⟩
  simp only [World.size_alloc] at hg
  have b1 := ((FBox.new (w.alloc (.cells #[.int .i64 sec, .slice a bs.length c] 116)) (.int .i64 0) (.slice none 0 0) 40).next _).same hk
  have b2 := (FBox.new ((w.alloc (.cells #[.int .i64 sec, .slice a bs.length c] 116)).alloc (.cells #[.int .i64 0, .slice none 0 0] 40)) (.int .i64 sec) (.slice none 0 0) 40).same hk
  simp only [World.size_alloc] at b1 b2
  have HO := (show Hid (Own 0 5 .u8 w1 _ bs) from ho)
  have HK : Hid (Same w w1) := ((((Kept.refl _ _).alloc _).alloc _).alloc _).trans hk
  have hz1 : w.heap.size + 1 + 1 < w1.heap.size := b2.lt
  obtain ⟨p1, p2, p3, p4⟩ := b1
  obtain ⟨q1, q2, q3, q4⟩ := b2
  clear ho hk
  go_wp2
  refine bodyPost_ret (v := .agg #[.int .i64 sec, .slice (some ⟨g, 0, none⟩) bs.length bs.length]) (by simp [results, Try.results88, go_sem, p1, p2]) rfl ⟨g, rfl, by omega, ?_, ?_⟩
  · refine HO.out.kept (R := fun b => b = w.heap.size + 1 ∨ b = w.heap.size + 1 + 1) ?_ (fun b hb e => by simp [Value.ownBlock] at hb; omega)
    exact ((((Kept.refl _ _).setCell (.inr (.inr rfl)) _).setTwo (.inr (.inl rfl)) _ _))
  · exact (HK.out.setCell (.inl (by simp; omega)) _).setTwo (.inl (by simp)) _ _
theorem toSectorWriteS_any (v : Value) (ps : List PW) (w : World) (hn : ps.length ≤ 1073741824) (hs : ∀ p ∈ ps, p.bs.length ≤ 1099511627776) (hv : RdP w v ps) :
    Calls Try.prog 63 #[v] w fun e w' => ∃ g qs, e = .returned (.slice (some ⟨g, 0, none⟩) ps.length ps.length) ∧ dataP qs = dataP ps ∧ (∀ b, footP (.slice (some ⟨g, 0, none⟩) ps.length ps.length) qs b → w.heap.size ≤ b) ∧
      OwnP 0 40 5 w' (.slice (some ⟨g, 0, none⟩) ps.length ps.length) qs ∧ Same w w' := by
  obtain ⟨i0, hi, hz0, hz1, hz2⟩ := info_parts Try.infoSW
  rcases hv.row with ⟨rfl, a, c, rfl⟩ | ⟨b, off, c, rfl, hc⟩
  · clear hv hn hs
    go_enter Try.func63, Try.ntmps63
    go_wp2_with (at_make; refine wpList_make_full _ rfl (.tmp 6) (.tmp 6) 23 rfl 0 40 i0 (.agg #[.int .i64 0, .slice none 0 0]) 2 Try.underlying23 hi hz0 hz1 .i64 .i64 _ _ 0 rfl rfl (by simp) (by simp) (by simp) (by simp) (Nat.zero_le _) ?_; intro w1 hown1 hgrow1; have HO : Hid (OwnP 0 40 5 w1 (.slice (some ⟨w.heap.size, 0, none⟩) 0 0) []) := own_madeP (n := 0) (by simpa using hown1); have HK : Hid (Same w w1) := Kept.of_grown hgrow1 (fun k e => by cases e); clear hown1 hgrow1)
    refine wp_loop_rounds 1 ?_
    rw [rounds_succ]
    go_wp2
    go_ret
    refine ⟨w.heap.size, [], rfl, rfl, fun b hb => ?_, HO.out, HK.out⟩
    rcases hb with hb | ⟨p, hp, _⟩
    · simp [Value.ownBlock] at hb; omega
    · simp at hp
  · have HP : Hid (RdP w (.slice (some ⟨b, off, none⟩) ps.length c) ps) := hv
    have HC : Hid (∀ i (h : i < ps.length), w.cell? ⟨b, off + i * 2, none⟩ = some (.int .i64 ps[i].sec) ∧ w.cell? ⟨b, off + i * 2 + 1, none⟩ = some ps[i].v) := hc
    have HS : Hid (∀ p ∈ ps, p.bs.length ≤ 1099511627776) := hs
    clear hc hv hs
    generalize hl : ps.length = len at hn HP ⊢
    have HL : Hid (ps.length = len) := hl
    clear hl
    go_enter Try.func63, Try.ntmps63
    go_wp2_with (at_make; refine wpList_make_full _ rfl (.tmp 6) (.tmp 6) 23 rfl 0 40 i0 (.agg #[.int .i64 0, .slice none 0 0]) 2 Try.underlying23 hi hz0 hz1 .i64 .i64 _ _ len rfl rfl (by simp) (by simp) (by rw [hz2]; omega) (by unfold maxLen; omega) (Nat.zero_le _) ?_; intro w1 hown1 hgrow1; have HO : Hid (OwnP 0 40 5 w1 (.slice (some ⟨w.heap.size, 0, none⟩) len len) (List.replicate len zeroPW)) := own_madeP (by simpa using hown1); have HK : Hid (Same w w1) := Kept.of_grown hgrow1 (fun k e => by cases e); clear hown1 hgrow1)
    go_loopw [4] (fun i wr => ∃ (k : Nat) (qs : List PW), k ≤ len ∧ i = .int .i64 k ∧ qs.length = k ∧ Hid (dataP qs = dataP (ps.take k)) ∧ Hid (∀ b, (∃ p ∈ qs, p.v.ownBlock = some b) → w.heap.size ≤ b) ∧ Hid (OwnP 0 40 5 wr (.slice (some ⟨w.heap.size, 0, none⟩) len len) (qs ++ List.replicate (len - k) zeroPW)) ∧ Hid (Same w wr)) (fun i _ => len - (intOf i).toNat)
    case atStart => exact ⟨0, [], Nat.zero_le _, rfl, rfl, rfl, fun b ⟨p, hp, _⟩ => by simp at hp, by simpa using HO, HK⟩
    case round =>
      obtain ⟨k, qs, hk, rfl, hql, HQ, HF, HOr, HKr⟩ := hrel
      have HQL : Hid (qs.length = k) := hql
      clear hql
      by_cases hlt : k < len
      · have hlp : k < ps.length := by rw [HL.out]; exact hlt
        have hrep : List.replicate (len - k) zeroPW = zeroPW :: List.replicate (len - (k + 1)) zeroPW := by rw [show len - k = len - (k + 1) + 1 from by omega, List.replicate_succ]
        obtain ⟨a1, c1, e1⟩ := (HP.out.data _ (List.getElem_mem hlp)).form
        have hd := (HP.out.data _ (List.getElem_mem hlp)).same HKr.out
        have hm1 := HS.out _ (List.getElem_mem hlp)
        have q1 := HKr.out.cellOf (HC.out k hlp).1 id
        have q2 := HKr.out.cellOf (HC.out k hlp).2 id
        rw [e1] at q2 hd
        have HD := (show Hid (Rd .u8 wr _ ps[k].bs) from hd)
        have hlen : len = (qs ++ List.replicate (len - k) zeroPW).length := by simp [HQL.out]; omega
        have HLN := (show Hid (len = (qs ++ List.replicate (len - k) zeroPW).length) from hlen)
        clear e1 hd hlen
        go_wp2_with fail
        refine (toSectorWrite_any _ _ ps[k].bs _ hm1 HD.out).mono ?_
        rintro e w2 ⟨g, rfl, hg, ho, hk2⟩
        have HO2 := (show Hid (OwnP 0 40 5 w2 _ _) from HOr.out.same hk2)
        have r1 := HO2.out.sec HLN.out k (by have := HLN.out; omega)
        have r2 := HO2.out.val HLN.out k (by have := HLN.out; omega)
        have r3 := HO2.out.frozen HLN.out (k * 2)
        have r4 := HO2.out.frozen HLN.out (k * 2 + 1)
        have HK2 : Hid (Same w w2) := HKr.out.trans hk2
        have HO3 := (show Hid (Own 0 5 .u8 w2 _ ps[k].bs) from ho)
        have hg0 : w.heap.size ≤ g := Nat.le_trans HKr.out.size hg
        have HG : Hid (wr.heap.size ≤ g) := hg
        clear ho hk2 hg q1 q2
        go_wp2
        go_roundw
        case rel =>
          have ho := HO2.out
          rw [hrep] at ho
          have hq := HQL.out
          have hfin := ho.setBoth (by simp [hq]; omega) ps[k].sec _ ps[k].bs (k * 2) (by rw [hq]) HO3.out (fun b hb hf => by
            have h1 : b = g := by simpa [Value.ownBlock] using hb.symm
            have h2 : footP (.slice (some ⟨w.heap.size, 0, none⟩) len len) (qs ++ List.replicate (len - k) zeroPW) b := by rw [hrep]; exact hf
            have h3 := (HOr.out.lt b h2).2
            have h4 := HG.out
            omega)
          refine ⟨k + 1, qs ++ [⟨ps[k].sec, .slice (some ⟨g, 0, none⟩) ps[k].bs.length ps[k].bs.length, ps[k].bs⟩], by omega, by go_num, by simp [hq], ?_, ?_, ?_, ?_⟩
          · have h1 := HQ.out
            unfold Hid
            rw [List.take_succ_eq_append_getElem hlp]
            simp only [dataP, List.map_append] at h1 ⊢
            rw [h1]; rfl
          · rintro b ⟨p, hp, hb⟩
            rcases List.mem_append.1 hp with hp | hp
            · exact HF.out b ⟨p, hp, hb⟩
            · simp at hp
              subst hp
              simp [Value.ownBlock] at hb
              omega
          · rw [List.append_assoc]
            exact hfin
          · exact Kept.setCell (p := ⟨w.heap.size, k * 2 + 1, none⟩) (Kept.setCell (p := ⟨w.heap.size, k * 2, none⟩) HK2.out (.inl (Nat.le_refl _)) _) (.inl (Nat.le_refl _)) _
        case measure => simp [intOf]; omega
      · go_wp2
        go_ret
        obtain rfl : k = len := by omega
        have h := HOr.out
        have h2 := HL.out
        have h3 := HQ.out
        rw [Nat.sub_self, List.replicate_zero, List.append_nil] at h
        rw [← h2, List.take_length] at h3
        refine ⟨w.heap.size, qs, rfl, h3, fun b hb => ?_, h, HKr.out⟩
        rcases hb with hb | hb
        · simp [Value.ownBlock] at hb; omega
        · exact HF.out b hb
theorem toDisk_any (dv pv : Value) (dur : List Int) (ps : List PW) (w : World) (hd : dur.length ≤ 1099511627776) (hn : ps.length ≤ 1073741824) (hs : ∀ p ∈ ps, p.bs.length ≤ 1099511627776) (hv : RdD w dv pv dur ps) :
    Calls Try.prog 21 #[.agg #[dv, pv]] w fun e w' => ∃ g g' qs, e = .returned (.agg #[.slice (some ⟨g, 0, none⟩) dur.length dur.length, .slice (some ⟨g', 0, none⟩) ps.length ps.length]) ∧ dataP qs = dataP ps ∧
      (∀ b, footD (.slice (some ⟨g, 0, none⟩) dur.length dur.length) (.slice (some ⟨g', 0, none⟩) ps.length ps.length) qs b → w.heap.size ≤ b) ∧
      OwnD 0 40 5 w' (.slice (some ⟨g, 0, none⟩) dur.length dur.length) (.slice (some ⟨g', 0, none⟩) ps.length ps.length) dur qs ∧ Same w w' := by
  obtain ⟨a1, c1, rfl⟩ := hv.dur.form
  obtain ⟨a2, c2, rfl⟩ := hv.pend.form
  have HV := (show Hid (RdD w _ _ dur ps) from hv)
  have HS : Hid (∀ p ∈ ps, p.bs.length ≤ 1099511627776) := hs
  clear hv hs
  go_enter Try.func21, Try.ntmps21
  go_wp2_with fail
  refine (toByteS_any _ dur _ hd (HV.out.dur.same ((((Kept.refl _ _).alloc _).alloc _).alloc _))).mono ?_
  rintro e w1 ⟨g, rfl, hg, ho, hk⟩
  simp only [World.size_alloc] at hg
  have b0 := (((FBox.new w (.slice a1 dur.length c1) (.slice a2 ps.length c2) 45).next _).next _).same hk
  have b1 := ((FBox.new (w.alloc (.cells #[.slice a1 dur.length c1, .slice a2 ps.length c2] 45)) (.slice none 0 0) (.slice none 0 0) 25).next _).same hk
  have b2 := (FBox.new ((w.alloc (.cells #[.slice a1 dur.length c1, .slice a2 ps.length c2] 45)).alloc (.cells #[.slice none 0 0, .slice none 0 0] 25)) (.slice none 0 0) (.slice none 0 0) 25).same hk
  simp only [World.size_alloc] at b1 b2
  have HO := (show Hid (Own 0 5 .u8 w1 _ dur) from ho)
  have HK : Hid (Same w w1) := ((((Kept.refl _ _).alloc _).alloc _).alloc _).trans hk
  have hz1 : w.heap.size + 1 + 1 < w1.heap.size := b2.lt
  have HB1 : Hid (FBox w1 (w.heap.size + 1) (.slice none 0 0) (.slice none 0 0)) := b1
  have HB2 : Hid (FBox w1 (w.heap.size + 1 + 1) (.slice none 0 0) (.slice none 0 0)) := b2
  obtain ⟨o1, o2, _, _⟩ := b0
  obtain ⟨p1, p2, p3, p4⟩ := b1
  obtain ⟨q1, q2, q3, q4⟩ := b2
  clear ho hk
  go_wp2_with fail
  have hkS : Same w (w1.setCell ⟨w.heap.size + 1 + 1, 0, none⟩ (.slice (some ⟨g, 0, none⟩) dur.length dur.length)) := HK.out.setCell (.inl (by simp; omega)) _
  refine (toSectorWriteS_any _ ps _ hn HS.out (HV.out.pend.same hkS)).mono ?_
  rintro e w2 ⟨g', qs, rfl, hq, hf, hop, hk2⟩
  have b1 := (HB1.out.other ⟨w.heap.size + 1 + 1, 0, none⟩ (by simp) (.slice (some ⟨g, 0, none⟩) dur.length dur.length)).same hk2
  have b2 := (HB2.out.set0 (.slice (some ⟨g, 0, none⟩) dur.length dur.length)).same hk2
  have ho2 := (HO.out.kept (Kept.setCell (Kept.refl (fun b => b = w.heap.size + 1 + 1) w1) (p := ⟨w.heap.size + 1 + 1, 0, none⟩) (.inr rfl) (.slice (some ⟨g, 0, none⟩) dur.length dur.length)) (fun b hb e => by simp [Value.ownBlock] at hb; omega)).same hk2
  have hlt := (HO.out.lt g rfl).2
  have HD2 : Hid (OwnD 0 40 5 w2 (.slice (some ⟨g, 0, none⟩) dur.length dur.length) (.slice (some ⟨g', 0, none⟩) ps.length ps.length) dur qs) :=
    ⟨ho2, hop, fun b hb e => by have h1 := hf b hb; simp [Value.ownBlock] at e; simp [World.setCell] at h1; omega⟩
  have HF : Hid (∀ b, footD (.slice (some ⟨g, 0, none⟩) dur.length dur.length) (.slice (some ⟨g', 0, none⟩) ps.length ps.length) qs b → w.heap.size + 1 + 1 < b) := fun b hb => by
    rcases hb with hb | hb
    · simp [Value.ownBlock] at hb; omega
    · have h1 := hf b hb; simp [World.setCell] at h1; omega
  have HQ : Hid (dataP qs = dataP ps) := hq
  have HK2 : Hid (Same w w2) := hkS.trans hk2
  clear p1 p2 p3 p4 q1 q2 q3 q4 o1 o2 ho2 hop hf hq hk2 hkS hlt
  obtain ⟨p1, p2, p3, p4⟩ := b1
  obtain ⟨q1, q2, q3, q4⟩ := b2
  go_wp2
  refine bodyPost_ret (v := .agg #[.slice (some ⟨g, 0, none⟩) dur.length dur.length, .slice (some ⟨g', 0, none⟩) ps.length ps.length]) (by simp [results, Try.results21, go_sem, p1, p2]) rfl ⟨g, g', qs, rfl, HQ.out, fun b hb => by have := HF.out b hb; omega, ?_, ?_⟩
  · refine HD2.out.kept (R := fun b => b = w.heap.size + 1 ∨ b = w.heap.size + 1 + 1) ?_ (fun b hb e => by have := HF.out b hb; omega)
    exact (Kept.setTwo (Kept.setCell (Kept.refl _ _) (p := ⟨w.heap.size + 1 + 1, 1, none⟩) (.inr (.inr rfl)) _) (.inr (.inl rfl)) _ _)
  · exact (HK2.out.setCell (p := ⟨w.heap.size + 1 + 1, 1, none⟩) (.inl (by simp; omega)) _).setTwo (.inl (by simp)) _ _
end Go.Proofs.Ytfhdkbibcndmjaa
