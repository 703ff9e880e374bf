import Derived.Test.YtnkollbhicmdhaaDoorG00
import Derived.Test.YtnkollbhicmdhaaDoorG09
import Derived.Test.YtnkollbhicmdhaaDoorOpenMaster
import Derived.Test.YtnkollbhicmdhaaDoorG01
import Derived.Test.YtnkollbhicmdhaaDoorCards
import Derived.Test.YtnkollbhicmdhaaDoorTie
import Derived.Deep.RegionWith
import Derived.Deep.DeepMust
import Derived.ChangeSame
import Derived.ChangeVars
import Derived.JoinedOf
import Derived.RowKit
import Derived.RowKitTokens
import Derived.Stop.Joined
import Derived.SevenTiedAt
namespace Go.Proofs.YtnkollbhicmdhaaDoor
set_option maxRecDepth 100000
set_option maxHeartbeats 2000000
open Go.RowKit
set_option linter.unusedVariables false
theorem markOpS_own {tb : TypeId} (base : Nat) (va : Value) (ps : List OW) (k0 : Int) (w : World) (h0 : 0 ≤ k0) (h1 : endO k0 ps ≤ 1125899906842624) (hn : ps.length ≤ 1125899906842624)
    (ha : OwnO base 78 tb w va ps) :
    Calls Tryd.prog 32 #[va, .int .i64 k0] w fun e w' => e = .returned (.int .i64 (endO k0 ps)) ∧ OwnO base 78 tb w' va (markO k0 ps) ∧ Kept (footO va ps) w w' := by
  by_cases hz : ps.length = 0
  · obtain rfl : ps = [] := List.length_eq_zero_iff.1 hz
    obtain ⟨aa, ca, rfl⟩ : ∃ aa ca, va = .slice aa 0 ca := by rcases ha.form with ⟨rfl, _⟩ | ⟨g, cap, rfl, _⟩ <;> exact ⟨_, _, rfl⟩
    have HA : Hid (OwnO base 78 tb w (.slice aa 0 ca) []) := ha
    clear ha hn hz
    go_enter Tryd.func32, Tryd.ntmps32
    go_wp2
    refine wp_loop_rounds 1 ?_
    rw [rounds_succ]
    go_wp2
    go_ret
    exact ⟨by simp [endO], by simpa [markO] using HA.out, Kept.refl _ _⟩
  · obtain ⟨g, cap, rfl, hb, hlt, _, _⟩ : ∃ g cap, va = .slice (some ⟨g, 0, none⟩) ps.length cap ∧ base ≤ g ∧ g < w.heap.size ∧ ps.length ≤ cap ∧ cap ≤ maxLen := by
      rcases ha.form with ⟨_, rfl⟩ | h
      · simp at hz
      · exact h
    generalize hl : ps.length = len at *
    have HL : Hid (ps.length = len) := hl
    have H1 : Hid (endO k0 ps ≤ 1125899906842624) := h1
    have HA : Hid (OwnO base 78 tb w (.slice (some ⟨g, 0, none⟩) len cap) ps) := ha
    clear hl h1 ha
    go_enter Tryd.func32, Tryd.ntmps32
    go_wp2
    go_loopw [1, 5] (fun v i wr => ∃ (k : Nat) (c : Int), k ≤ len ∧ i = .int .i64 k ∧ v = .int .i64 c ∧ Hid (c = endO k0 (ps.take k)) ∧ Hid (OwnO base 78 tb wr (.slice (some ⟨g, 0, none⟩) len cap) (partO k0 ps k)) ∧ Hid (Kept (footO (.slice (some ⟨g, 0, none⟩) len cap) ps) w wr)) (fun _ i _ => len - (intOf i).toNat)
    case atStart => exact ⟨0, k0, Nat.zero_le _, rfl, rfl, rfl, by rw [partO_zero]; exact HA.out, Kept.refl _ _⟩
    case round =>
      obtain ⟨k, c, hk, rfl, rfl, HC, HO, HK⟩ := hrel
      by_cases hlt : k < len
      · have hlp : k < ps.length := by rw [HL.out]; exact hlt
        have hf := HO.out.frozen (by rw [partO_length]; exact HL.out.symm)
        have hc := HO.out.kind (by rw [partO_length]; exact HL.out.symm) k (by rw [partO_length]; exact hlp)
        have hcs := HO.out.sec (by rw [partO_length]; exact HL.out.symm) k (by rw [partO_length]; exact hlp)
        have hv : wr.cell? ⟨g, k * 3 + 2, none⟩ = some ps[k].v := by rw [HO.out.val (by rw [partO_length]; exact HL.out.symm) k (by rw [partO_length]; exact hlp), partO_vAt _ _ _ _ hlp]
        have hc0 : k0 ≤ c := by rw [HC.out]; exact endO_le _ _
        have hc1 : c + 1 + 1 + ps[k].bs.length ≤ 1125899906842624 := by rw [HC.out, ← endO_step k0 ps k hlp]; exact Int.le_trans (endO_take_le _ _ _) H1.out
        have HO2 : Hid (OwnO base 78 tb ((wr.setCell ⟨g, k * 3, none⟩ (.int .i64 c)).setCell ⟨g, k * 3 + 1, none⟩ (.int .i64 (c + 1))) (.slice (some ⟨g, 0, none⟩) len cap) (markO k0 (ps.take k) ++ ⟨c, c + 1, ps[k].v, ps[k].bs⟩ :: ps.drop (k + 1))) := by
          have h := HO.out
          rw [partO_at _ _ _ hlp] at h
          have hl := HL.out
          have h2 := h.setKind (by simp [markO_length]; omega) c (k * 3) (by simp [markO_length]; omega)
          exact h2.setSec (by simp [markO_length]; omega) (c + 1) (k * 3 + 1) (by simp [markO_length]; omega)
        go_wp2_with fail
        refine (markByteS_own base ps[k].v ps[k].bs (c + 1 + 1) _ (by omega) (by omega) (by omega) (HO2.out.data ⟨c, c + 1, ps[k].v, ps[k].bs⟩ (by simp))).mono ?_
        rintro e w1 ⟨rfl, ho, hk1⟩
        have HO3 : Hid (OwnO base 78 tb w1 (.slice (some ⟨g, 0, none⟩) len cap) (partO k0 ps (k + 1))) := by
          rw [partO_step _ _ _ hlp, ← HC.out]
          exact HO2.out.setData hk1 ho
        have HK3 : Hid (Kept (footO (.slice (some ⟨g, 0, none⟩) len cap) ps) w w1) :=
          ((HK.out.setCell (p := ⟨g, k * 3, none⟩) (.inr (.inl rfl)) _).setCell (p := ⟨g, k * 3 + 1, none⟩) (.inr (.inl rfl)) _).trans (hk1.mono fun b _ hb => .inr ⟨ps[k], List.getElem_mem _, hb⟩)
        clear ho hk1 hv hc hcs hf HO HO2
        go_wp2
        go_roundw
        case rel =>
          exact ⟨k + 1, c + 1 + 1 + ps[k].bs.length, by omega, by go_num, rfl, by rw [endO_step _ _ _ hlp, ← HC.out]; rfl, HO3, HK3⟩
        case measure => simp [intOf]; omega
      · go_wp2
        go_ret
        obtain rfl : k = len := by omega
        have hl := HL.out
        have hc := HC.out
        have ho := HO.out
        rw [← hl, List.take_length] at hc
        rw [← hl, partO_all, hl] at ho
        exact ⟨ret_int hc, ho, HK.out⟩
theorem heldOpS_own {tb : TypeId} (base : Nat) (va : Value) (ps : List OW) (k0 : Int) (w : World) (h0 : 0 ≤ k0) (h1 : endO k0 ps ≤ 1125899906842624) (hn : ps.length ≤ 1125899906842624)
    (ha : OwnO base 78 tb w va (markO k0 ps)) :
    Calls Tryd.prog 33 #[va, .int .i64 k0] w fun e w' => e = .returned (.int .i64 (endO k0 ps)) ∧ w' = w := by
  by_cases hz : ps.length = 0
  · obtain rfl : ps = [] := List.length_eq_zero_iff.1 hz
    obtain ⟨aa, ca, rfl⟩ : ∃ aa ca, va = .slice aa 0 ca := by rcases ha.form with ⟨rfl, _⟩ | ⟨g, cap, rfl, _⟩ <;> exact ⟨_, _, rfl⟩
    clear ha hn hz
    go_enter Tryd.func33, Tryd.ntmps33
    go_wp2
    refine wp_loop_rounds 1 ?_
    rw [rounds_succ]
    go_wp2
    go_ret
    exact ⟨by simp [endO], rfl⟩
  · obtain ⟨g, cap, rfl⟩ : ∃ g cap, va = .slice (some ⟨g, 0, none⟩) ps.length cap := by
      rcases ha.form with ⟨_, h⟩ | ⟨g, cap, h, _⟩
      · have := congrArg List.length h; simp [markO_length] at this; simp [this] at hz
      · exact ⟨g, cap, by rw [h, markO_length]⟩
    have H1 : Hid (endO k0 ps ≤ 1125899906842624) := h1
    have HA : Hid (OwnO base 78 tb w (.slice (some ⟨g, 0, none⟩) ps.length cap) (markO k0 ps)) := ha
    clear h1 ha
    generalize hl : ps.length = len at hn hz HA ⊢
    have HL : Hid (ps.length = len) := hl
    clear hl
    go_enter Tryd.func33, Tryd.ntmps33
    go_wp2
    go_loop [1, 5] (fun v i => ∃ (k : Nat) (c : Int), k ≤ len ∧ i = .int .i64 k ∧ v = .int .i64 c ∧ Hid (c = endO k0 (ps.take k))) (fun _ i => len - (intOf i).toNat)
    case atStart => exact ⟨0, k0, Nat.zero_le _, rfl, rfl, rfl⟩
    case round =>
      obtain ⟨k, c, hk, rfl, rfl, HC⟩ := hrel
      by_cases hlt : k < len
      · have hlp : k < ps.length := by rw [HL.out]; exact hlt
        have hlm : k < (markO k0 ps).length := by rw [markO_length]; exact hlp
        have hc : w.cell? ⟨g, k * 3, none⟩ = some (.int .i64 c) := by rw [HA.out.kind (by rw [markO_length]; exact HL.out.symm) k hlm, markO_at _ _ _ hlp, ← HC.out]
        have hs : w.cell? ⟨g, k * 3 + 1, none⟩ = some (.int .i64 (c + 1)) := by rw [HA.out.sec (by rw [markO_length]; exact HL.out.symm) k hlm, markO_at _ _ _ hlp, ← HC.out]
        have hv : w.cell? ⟨g, k * 3 + 2, none⟩ = some ps[k].v := by rw [HA.out.val (by rw [markO_length]; exact HL.out.symm) k hlm, markO_at _ _ _ hlp]
        have hd := HA.out.data _ (List.getElem_mem hlm)
        rw [markO_at _ _ _ hlp, ← HC.out] at hd
        have HD : Hid (Own base tb .u8 w ps[k].v (marks (c + 1 + 1) ps[k].bs.length)) := hd
        have hc0 : k0 ≤ c := by rw [HC.out]; exact endO_le _ _
        have hc1 : c + 1 + 1 + ps[k].bs.length ≤ 1125899906842624 := by rw [HC.out, ← endO_step k0 ps k hlp]; exact Int.le_trans (endO_take_le _ _ _) H1.out
        clear hd
        go_wp2_with fail
        refine (heldByteS_own base ps[k].v ps[k].bs.length (c + 1 + 1) _ (by omega) (by omega) (by omega) HD.out).mono ?_
        rintro e w1 ⟨rfl, rfl⟩
        go_wp2
        go_round
        case rel => exact ⟨k + 1, c + 1 + 1 + ps[k].bs.length, by omega, by go_num, rfl, by rw [endO_step _ _ _ hlp, ← HC.out]; rfl⟩
        case measure => simp [intOf]; omega
      · go_wp2
        go_ret
        obtain rfl : k = len := by omega
        have hl := HL.out
        have hc := HC.out
        rw [← hl, List.take_length] at hc
        exact ⟨ret_int hc, rfl⟩
theorem eqOp_own {ta tb : TypeId} (base : Nat) (kind sec : Int) (va vb : Value) (bs : List Int) (w : World) (hn : bs.length ≤ 1125899906842624)
    (ha : Own base ta .u8 w va bs) (hb : Own base tb .u8 w vb bs) :
    Calls Tryd.prog 61 #[.agg #[.int .i64 kind, .int .i64 sec, va], .agg #[.int .i64 kind, .int .i64 sec, vb]] w fun e w' => e = .returned (.bool true) ∧ Same w w' := by
  obtain ⟨aa, na, ca, rfl⟩ : ∃ aa na ca, va = .slice aa na ca := by rcases ha.form with ⟨rfl, _⟩ | ⟨g, cap, rfl, _⟩ <;> exact ⟨_, _, _, rfl⟩
  obtain ⟨ab, nb, cb, rfl⟩ : ∃ aa na ca, vb = .slice aa na ca := by rcases hb.form with ⟨rfl, _⟩ | ⟨g, cap, rfl, _⟩ <;> exact ⟨_, _, _, rfl⟩
  have HA : Hid (Own base ta .u8 w (.slice aa na ca) bs) := ha
  have HB : Hid (Own base tb .u8 w (.slice ab nb cb) bs) := hb
  clear ha hb
  go_enter Tryd.func61, Tryd.ntmps61
  go_wp2_with fail
  refine (eqByteS_own base _ _ bs _ hn (HA.out.same (((Kept.refl _ _).alloc _).alloc _)) (HB.out.same (((Kept.refl _ _).alloc _).alloc _))).mono ?_
  rintro e w1 ⟨rfl, n1, rfl⟩
  go_wp2
  go_ret
  exact ⟨rfl, (((Kept.refl _ _).alloc _).alloc _).drewN _⟩
theorem eqOpS_own {ta tb : TypeId} (base : Nat) (va vb : Value) (ps qs : List OW) (w : World) (hn : ps.length ≤ 1125899906842624) (hs : dataO ps = dataO qs) (hsm : ∀ p ∈ ps, p.bs.length ≤ 1125899906842624)
    (ha : OwnO base 78 ta w va ps) (hb : OwnO base 78 tb w vb qs) :
    Calls Tryd.prog 31 #[va, vb] w fun e w' => e = .returned (.bool true) ∧ Same w w' := by
  have hlen : qs.length = ps.length := by rw [← dataO_length, ← dataO_length, hs]
  by_cases hz : ps.length = 0
  · obtain rfl : ps = [] := List.length_eq_zero_iff.1 hz
    obtain rfl : qs = [] := List.length_eq_zero_iff.1 hlen
    obtain ⟨aa, ca, rfl⟩ : ∃ aa ca, va = .slice aa 0 ca := by rcases ha.form with ⟨rfl, _⟩ | ⟨g, cap, rfl, _⟩ <;> exact ⟨_, _, rfl⟩
    obtain ⟨ab, cb, rfl⟩ : ∃ aa ca, vb = .slice aa 0 ca := by rcases hb.form with ⟨rfl, _⟩ | ⟨g, cap, rfl, _⟩ <;> exact ⟨_, _, rfl⟩
    clear ha hb hn hz hs
    go_enter Tryd.func31, Tryd.ntmps31
    go_wp2
    refine wp_loop_rounds 1 ?_
    rw [rounds_succ]
    go_wp2
    go_ret
    exact ⟨rfl, Kept.refl _ _⟩
  · obtain ⟨ga, ca, rfl⟩ : ∃ g cap, va = .slice (some ⟨g, 0, none⟩) ps.length cap := by
      rcases ha.form with ⟨_, h⟩ | ⟨g, cap, h, _⟩
      · simp [h] at hz
      · exact ⟨g, cap, h⟩
    obtain ⟨gb, cb, rfl⟩ : ∃ g cap, vb = .slice (some ⟨g, 0, none⟩) ps.length cap := by
      rcases hb.form with ⟨_, h⟩ | ⟨g, cap, h, _⟩
      · simp [h] at hlen; omega
      · exact ⟨g, cap, by rw [h, hlen]⟩
    have HA : Hid (OwnO base 78 ta w (.slice (some ⟨ga, 0, none⟩) ps.length ca) ps) := ha
    have HB : Hid (OwnO base 78 tb w (.slice (some ⟨gb, 0, none⟩) ps.length cb) qs) := hb
    have HQ : Hid (qs.length = ps.length) := hlen
    have HS : Hid (dataO ps = dataO qs) := hs
    have HM : Hid (∀ p ∈ ps, p.bs.length ≤ 1125899906842624) := hsm
    clear ha hb hs hlen hsm
    generalize hl : ps.length = len at hn hz HA HB ⊢
    have HL : Hid (ps.length = len) := hl
    clear hl
    go_enter Tryd.func31, Tryd.ntmps31
    go_wp2
    go_loopw [5] (fun i wr => ∃ (k : Nat), k ≤ len ∧ i = .int .i64 k ∧ Hid (Same w wr)) (fun i _ => len - (intOf i).toNat)
    case atStart => exact ⟨0, Nat.zero_le _, rfl, Kept.refl _ _⟩
    case round =>
      obtain ⟨k, hk, rfl, HK⟩ := hrel
      by_cases hlt : k < len
      · have hlp : k < ps.length := by rw [HL.out]; exact hlt
        have hlq : k < qs.length := by rw [HQ.out]; exact hlp
        have hoa := HA.out.same HK.out
        have hob := HB.out.same HK.out
        obtain ⟨s0, s1, s2⟩ := dataO_at HS.out k hlp hlq
        have s3 := HM.out _ (List.getElem_mem hlp)
        have ha0 : wr.cell? ⟨ga, k * 3, none⟩ = some (.int .i64 ps[k].kind) := hoa.kind HL.out.symm k hlp
        have ha1 : wr.cell? ⟨ga, k * 3 + 1, none⟩ = some (.int .i64 ps[k].sec) := hoa.sec HL.out.symm k hlp
        have ha2 : wr.cell? ⟨ga, k * 3 + 2, none⟩ = some ps[k].v := hoa.val HL.out.symm k hlp
        have hb0 : wr.cell? ⟨gb, k * 3, none⟩ = some (.int .i64 ps[k].kind) := by rw [hob.kind (by rw [HQ.out, HL.out]) k hlq, s0]
        have hb1 : wr.cell? ⟨gb, k * 3 + 1, none⟩ = some (.int .i64 ps[k].sec) := by rw [hob.sec (by rw [HQ.out, HL.out]) k hlq, s1]
        have hb2 : wr.cell? ⟨gb, k * 3 + 2, none⟩ = some qs[k].v := hob.val (by rw [HQ.out, HL.out]) k hlq
        have HDA : Hid (Own base ta .u8 wr ps[k].v ps[k].bs) := hoa.data _ (List.getElem_mem hlp)
        have HDB : Hid (Own base tb .u8 wr qs[k].v ps[k].bs) := by have := hob.data _ (List.getElem_mem hlq); rw [← s2] at this; exact this
        clear s0 s1 s2 hoa hob
        go_wp2_with fail
        go_region_with (go_at_call 61; refine (eqOp_own base ps[k].kind ps[k].sec ps[k].v qs[k].v ps[k].bs _ s3 (by exact HDA.out.same (Kept.refl _ _).drew) (by exact HDB.out.same (Kept.refl _ _).drew)).mono ?_; rintro e w1 ⟨rfl, hk1⟩)
        all_goals
          have HK1 : Hid (Same w w1) := HK.out.drew.trans hk1
          clear hk1 ha0 ha1 ha2 hb0 hb1 hb2 HDA HDB
          go_wp2
          go_roundw
          case rel => exact ⟨k + 1, by omega, by go_num, HK1⟩
          case measure => simp [intOf]; omega
      · go_wp2
        go_ret
        exact ⟨rfl, HK.out⟩
end Go.Proofs.YtnkollbhicmdhaaDoor

namespace Go.Proofs.YtnkollbhicmdhaaDoor
set_option maxRecDepth 100000
set_option maxHeartbeats 4000000
open Go.RowKit
set_option linter.unusedVariables false
set_option linter.unusedSimpArgs false
theorem opsM_small {sl s e c l : Int} {ps : List OW} (h : dataO ps = opsM sl s e c l) : ps.length ≤ 2 ∧ sizeO ps ≤ 512 := by
  have hl := congrArg List.length h
  rw [dataO_length] at hl
  unfold opsM at h hl
  split at h
  · rename_i hc
    rw [if_pos hc] at hl
    obtain ⟨p, q, rfl⟩ : ∃ p q, ps = [p, q] := by
      match ps, hl with
      | [p, q], _ => exact ⟨p, q, rfl⟩
    simp only [dataO, List.map_cons, List.map_nil, List.cons.injEq, Prod.mk.injEq, and_true] at h
    refine ⟨by simp, ?_⟩
    simp only [sizeO, h.1.2.2, h.2.2.2, mB_length, List.length_nil]
    decide
  · rename_i hc
    rw [if_neg hc] at hl
    obtain rfl := List.length_eq_zero_iff.1 hl
    exact ⟨by simp, by simp [sizeO]⟩
theorem masterOps_law (sl s e c l : Int) (a0 a1 a2 : Addr) (w : World) (hE : Errs w a0 a1 a2) : Calls Tryd.prog 7 #[.int .i64 sl, .agg #[.int .i64 s, .int .i64 e, .int .i64 c, .int .i64 l]] w fun ex w' => ex = .returned (.bool true) ∧ Same w w' := by
  have HE := (show Hid (Errs w a0 a1 a2) from hE)
  clear hE
  have HK0 := hid (sameA w [.int .i64 s, .int .i64 e, .int .i64 c, .int .i64 l] 48)
  have b0 := Blk.new w #[.int .i64 s, .int .i64 e, .int .i64 c, .int .i64 l] 48
  go_enter Tryd.func7, Tryd.ntmps7
  go_wp2_with fail
  refine (toMaster_any s e c l _).mono ?_
  rintro ex w1 ⟨rfl, hk⟩
  have HK1 := (show Hid (Same w w1) from HK0.out.trans hk)
  have b1 := b0.same hk
  clear hk HK0 b0
  go_wp2_with fail
  refine (specMO_any sl s e c l _).mono ?_
  rintro ex w2 ⟨v, rfl, aW, nW, cW, psW, rfl, hd, ho, hf, hk⟩
  obtain ⟨hlW, hsW⟩ := opsM_small hd
  have hDW : Hid (dataO psW = opsM sl s e c l) := hd
  have HK2 := (show Hid (Same w w2) from HK1.out.trans hk)
  have b2 := b1.same hk
  have HW := (show Hid (OwnO 0 78 5 w2 (.slice aW nW cW) psW) from ho)
  have HFW := (show Hid (∀ b, footO (.slice aW nW cW) psW b → b < w2.heap.size) from fun b hb => (ho.lt b hb).2)
  clear hk HK1 b1 hf ho hd
  obtain ⟨d0, d1, d2, d3⟩ := b2.all4
  go_wp2_with fail
  refine (toMaster_any s e c l _).mono ?_
  rintro ex w3 ⟨rfl, hk⟩
  have HK3 := (show Hid (Same w w3) from HK2.out.trans hk)
  have b3 := b2.same hk
  have HW3 := (show Hid (OwnO 0 78 5 w3 (.slice aW nW cW) psW) from HW.out.same hk)
  have hz3 := hk.size
  clear hk HK2 b2 HW d0 d1 d2 d3
  go_wp2_with fail
  refine (implMO_any sl s e c l a0 a1 a2 _ (HE.out.same HK3.out)).mono ?_
  rintro ex w4 ⟨v, rfl, aG, nG, cG, psG, rfl, hd, ho, hf, hk⟩
  obtain ⟨hlG, hsG⟩ := opsM_small hd
  have hDG : Hid (dataO psG = opsM sl s e c l) := hd
  have HK4 := (show Hid (Same w w4) from HK3.out.trans hk)
  have b4 := b3.same hk
  have hlt := b3.lt
  have HW4 := (show Hid (OwnO 0 78 5 w4 (.slice aW nW cW) psW) from HW3.out.same hk)
  have HG4 := (show Hid (OwnO 0 78 94 w4 (.slice aG nG cG) psG) from ho)
  have HFG := (show Hid (∀ b, footO (.slice aG nG cG) psG b → w2.heap.size ≤ b ∧ w.heap.size < b) from fun b hb => by have := hf b hb; omega)
  clear hk HK3 b3 HW3 hf ho hd
  have HEQ : Hid (dataO psG = dataO psW) := hDG.out.trans hDW.out.symm
  have HSM : Hid (∀ p ∈ psG, p.bs.length ≤ 1125899906842624) := fun p hp => by have := sizeO_mem psG p hp; omega
  go_wp2_with fail
  refine (eqOpS_own 0 _ _ psG psW _ (by omega) HEQ.out HSM.out HG4.out HW4.out).mono ?_
  rintro ex w5 ⟨rfl, hk⟩
  have HK5 := (show Hid (Same w w5) from HK4.out.trans hk)
  have b5 := b4.same hk
  have HW5 := (show Hid (OwnO 0 78 5 w5 (.slice aW nW cW) psW) from HW4.out.same hk)
  have HG5 := hid (HG4.out.same hk)
  clear hk HK4 b4 HW4 HG4
  obtain ⟨En, hE⟩ : ∃ En, endO 1 psG = En := ⟨_, rfl⟩
  have hE0 : 0 ≤ En := by rw [← hE, endO_size]; omega
  have hE1 : En ≤ 1000000 := by rw [← hE, endO_size]; omega
  have HEN : Hid (endO 1 psG = En) := hE
  clear hE
  go_wp2_with fail
  have hm := markOpS_own 0 (.slice aG nG cG) psG 1 w5 (by omega) (by rw [HEN.out]; omega) (by omega) HG5.out
  rw [HEN.out] at hm
  refine hm.mono ?_
  clear hm
  rintro ex w6 ⟨rfl, ho, hk⟩
  have HK6 := (show Hid (Same w w6) from HK5.out.next hk (fun b hb e => by have := HFG.out _ e; omega))
  have b6 := b5.kept hk (fun e => by have := HFG.out _ e; omega)
  have HW6 := (show Hid (OwnO 0 78 5 w6 (.slice aW nW cW) psW) from HW5.out.kept hk (fun b hb e => by have h1 := HFG.out _ e; have h2 := HFW.out _ hb; omega))
  have HG6 := (show Hid (OwnO 0 78 94 w6 (.slice aG nG cG) (markO 1 psG)) from ho)
  clear hk HK5 b5 HW5 HG5 ho
  have hEn : ¬ En < 0 := by omega
  go_wp2_with fail
  have hm := heldOpS_own 0 (.slice aG nG cG) psG 1 w6 (by omega) (by rw [HEN.out]; omega) (by omega) HG6.out
  rw [HEN.out] at hm
  refine hm.mono ?_
  clear hm
  rintro ex w7 ⟨rfl, rfl⟩
  obtain ⟨d0, d1, d2, d3⟩ := b6.all4
  go_wp2_with fail
  refine (toMaster_any s e c l _).mono ?_
  rintro ex w8 ⟨rfl, hk⟩
  have HK8 := (show Hid (Same w w8) from HK6.out.trans hk)
  have HW8 := (show Hid (OwnO 0 78 5 w8 (.slice aW nW cW) psW) from HW6.out.same hk)
  have HG8 := hid (HG6.out.same hk)
  clear hk HK6 b6 HW6 HG6 d0 d1 d2 d3
  go_wp2_with fail
  refine (implMO_any sl s e c l a0 a1 a2 _ (HE.out.same HK8.out)).mono ?_
  rintro ex w9 ⟨v, rfl, aH, nH, cH, psH, rfl, hd, ho, hf, hk⟩
  obtain ⟨hlH, hsH⟩ := opsM_small hd
  have HEQ2 : Hid (dataO psH = dataO psW) := hd.trans hDW.out.symm
  have HSM2 : Hid (∀ p ∈ psH, p.bs.length ≤ 1125899906842624) := fun p hp => by have := sizeO_mem psH p hp; omega
  have HK9 := (show Hid (Same w w9) from HK8.out.trans hk)
  have HW9 := (show Hid (OwnO 0 78 5 w9 (.slice aW nW cW) psW) from HW8.out.same hk)
  have HG9 := hid (HG8.out.same hk)
  have HH9 := (show Hid (OwnO 0 78 94 w9 (.slice aH nH cH) psH) from ho)
  clear hk HK8 HW8 HG8 hf ho hd
  go_wp2_with fail
  refine (eqOpS_own 0 _ _ psH psW _ (by omega) HEQ2.out HSM2.out HH9.out HW9.out).mono ?_
  rintro ex w10 ⟨rfl, hk⟩
  have HK10 := (show Hid (Same w w10) from HK9.out.trans hk)
  have HG10 := hid (HG9.out.same hk)
  clear hk HK9 HW9 HG9 HH9
  go_wp2_with fail
  have hm := heldOpS_own 0 (.slice aG nG cG) psG 1 w10 (by omega) (by rw [HEN.out]; omega) (by omega) HG10.out
  rw [HEN.out] at hm
  refine hm.mono ?_
  clear hm
  rintro ex w11 ⟨rfl, rfl⟩
  go_wp2
  go_ret
  exact ⟨rfl, HK10.out⟩
end Go.Proofs.YtnkollbhicmdhaaDoor

namespace Go.Proofs.YtnkollbhicmdhaaDoor.fnExactMasterOps
open Go.ChangeShapes Go.WideShapes Go.ChangeAt Go.RowKit
set_option linter.unusedVariables false
theorem own : ownKnob Tryd.prog.godebug = none := by kernel_rfl
theorem laidOut : laidOutB Tryd.prog = true := by kernel_rfl
set_option maxRecDepth 100000 in
theorem lifted (os : Os) (started : os.Started) (H : Type) (enc : TypeId × Value → H) :
    ReturnsInHanded {} Tryd.checked os 7 .any (fun w args => (Rows.fnExactMasterOpsSpec.pre enc Tryd.prog Tryd.f7 [] false w args ∧ laidMetH Tryd.prog [L0, L1, L2] w) ∧ sizedMet enc Tryd.prog Tryd.f7 (OpenSpec.ofChange Rows.fnExactMasterOpsSpec) false w args)
      (Rows.fnExactMasterOpsSpec.post enc Tryd.prog Tryd.f7 false true false false) := by
  refine returnsInHanded_of_change_and (C := Tryd.checked) (X := fun w _ => laidMetH Tryd.prog [L0, L1, L2] w) (fun _ _ _ hh h => h.of_heap hh) own started (by kernel_rfl) Tryd.func7
    (ChangeSpec.witness_at (enc := enc) (C := Tryd.checked) (os := os) (X := fun w _ => laidMetH Tryd.prog [L0, L1, L2] w) false (laidOn (World.holding Tryd.prog os ⟨laidOnObj, #[], []⟩) (World.holding Tryd.prog default ⟨#[], #[], []⟩).heap.size) #[.int .i64 0, .agg #[.int .i64 0, .int .i64 0, .int .i64 0, .int .i64 0]] 8 rfl (by kernel_rfl) (by kernel_rfl) (by kernel_rfl) (by kernel_rfl) (by kernel_rfl) (laid_met3 os _)) ?_
  intro W base args ds gs before hval0 hW _ _ hL _
  have hval : ∀ (j : Nat) t v, Tryd.f7.params[j]? = some t → args[j]? = some v → Value.okWide Tryd.prog W .any base t v := hval0
  have hW' := hW
  obtain ⟨p, q, hA0, hV0, rfl, hfz, hnd⟩ := hW
  have hA : DataW.TrodAll enc Tryd.prog W 0 (fun _ => true) true Tryd.f7.params.toList args.toList ds p := hA0
  have hL' : laidMet Tryd.prog [L0, L1, L2] W := hL
  obtain ⟨a0, a1, a2, hv0, hv1, hv2, hE⟩ := laid3 hL'
  have hV : DataW.TrodVars enc Tryd.prog W (fun _ => true) [L0.1, L1.1, L2.1] gs q := hV0
  obtain ⟨rfl, rfl⟩ := hV.unique (vars3 enc hv0 hv1 hv2 _)
  rw [Tryd.params7] at hA hval
  obtain ⟨v0, vs0, d0, ds0, p0, q0, hargs, rfl, rfl, h0, r0⟩ := trodAll_cons hA
  obtain ⟨v1, vs1, d1, ds1, p1, q1, rfl, rfl, rfl, h1, r1⟩ := trodAll_cons r0
  obtain ⟨rfl, rfl, rfl⟩ := trodAll_nil r1
  obtain rfl : args = #[v0, v1] := by cases args; simp_all
  obtain ⟨b0, rfl, rfl, rfl, w0⟩ := open_int Tryd.underlying2 (hval 0 2 v0 rfl rfl) h0
  have k1 := h1
  have lt1 : ∀ x ∈ p1, x.block < W.heap.size := by obtain ⟨m, hm⟩ := k1; exact DataW.trod_lt m _ _ _ hm
  obtain ⟨s, e, c, l, rfl⟩ := open_master (hval 1 48 v1 rfl rfl) h1
  clear hA0 hval0
  refine (masterOps_law b0 s e c l a0 a1 a2 W (hE.errs) ).mono fun ex W' ⟨he, hk⟩ => ?_
  have bel : Below W.heap.size W W' := hk.below (Nat.le_refl _) (fun _ _ => id)
  subst he
  exact ⟨_, rfl, _, _, _, [], _, _, hW', trodAll_mk1 (shut_bool Tryd.underlying4 _), (trodAll_cons_mk (shut_int Tryd.underlying2 w0) (trodAll_cons_mk (Below.trod laidOut (by kernel_rfl) (of_decide_eq_true (by kernel_rfl)) k1 bel lt1) trodAll_mk0)), vars3 enc (var_same hk hv0) (var_same hk hv1) (var_same hk hv2) _, bel.frame _, fun h => by cases h⟩
theorem over : Rows.fnExactMasterOpsRow.holds Tryd.pinned (OpenSpec.ofChange Rows.fnExactMasterOpsSpec) :=
  OpenClaim.holds_of_wide 7 Tryd.f7 rfl rfl rfl rfl rfl rfl rfl ⟨rfl, rfl, rfl, rfl, rfl⟩ rfl rfl rfl rfl rfl (by kernel_rfl) Tryd.func7 (by kernel_rfl)
    (of_decide_eq_true (by kernel_rfl)) (by unfold Func.isWrapper; first | (rw [if_pos (by decide +kernel)]; kernel_rfl) | (rw [if_neg (by decide +kernel)]; exact ⟨rfl, rfl⟩))
    (fun os started H enc _ => lifted os started H enc)
end Go.Proofs.YtnkollbhicmdhaaDoor.fnExactMasterOps
namespace Go.Proofs.YtnkollbhicmdhaaDoor
open Go
theorem masterOps_proved : Rows.FnExactMasterOpsCardSaid :=
  Claim7.holds_tied_plain_at .later [] [.sentinel, .sentinel, .sentinel] true Rows.fnExactMasterOpsCard.stood.harness true
    fnExactMasterOps.over (fun _ h => by cases h) (by kernel_rfl) (fun _ h => by cases h) fnExactMasterOps_row_tie rfl ⟨rfl, rfl⟩ (by kernel_rfl) rfl
    (fun f fn hf hfn => by
      obtain rfl : f = 7 := Option.some.inj ((show Tryd.prog.funcNamed "loop.example/s02544/laws.FnExactMasterOps" = some 7 by kernel_rfl).symm.trans hf) |>.symm
      obtain rfl : fn = Tryd.f7 := (Option.some.inj (Tryd.func7.symm.trans hfn)).symm
      exact ⟨by kernel_rfl, fun j t ht => by
        rw [Tryd.params7] at ht
        have h3 : t = 2 ∨ t = 48 := by
          rcases j with _ | j
          · exact .inl (by simpa using ht.symm)
          · rcases j with _ | j
            · exact .inr (by simpa using ht.symm)
            · simp at ht
        rcases h3 with rfl | rfl
        · exact (show Tryd.prog.wantsStandIn 2 = false by kernel_rfl)
        · exact (show Tryd.prog.wantsStandIn 48 = false by kernel_rfl)⟩)
    (by kernel_rfl)
#print axioms masterOps_proved
end Go.Proofs.YtnkollbhicmdhaaDoor
