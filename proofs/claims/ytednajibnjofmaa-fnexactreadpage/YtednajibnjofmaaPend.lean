/-
  THE SAME OF PENDING WRITES AND DISKS: eqSectorWrite(S), markSectorWriteS, heldSectorWriteS, eqDisk, markDisk, heldDisk.
-/
import Derived.Test.YtednajibnjofmaaBytes
import Derived.Deep.RegionWith
import Derived.Deep.DeepMust
namespace Go.Proofs.Ytednajibnjofmaa
set_option maxHeartbeats 400000
open Go.RowKit

theorem markSectorWriteS_own (base : Nat) (va : Value) (ps : List PW) (k0 : Int) (w : World) (h0 : 0 ≤ k0) (h1 : endP k0 ps ≤ 1125899906842624) (hn : ps.length ≤ 1125899906842624)
    (ha : OwnP base 78 5 w va ps) :
    Calls Try.prog 33 #[va, .int .i64 k0] w fun e w' => e = .returned (.int .i64 (endP k0 ps)) ∧ OwnP base 78 5 w' va (markP k0 ps) ∧ Kept (footP va ps) w w' := by
  by_cases hz : ps.length = 0
  · obtain rfl : ps = [] := List.length_eq_zero_iff.1 hz
    obtain ⟨aa, ca, rfl⟩ : ∃ aa ca, va = .slice aa 0 ca := by rcases ha.form with ⟨rfl, _⟩ | ⟨g, cap, rfl, _⟩ <;> exact ⟨_, _, rfl⟩
    have HA : Hid (OwnP base 78 5 w (.slice aa 0 ca) []) := ha
    clear ha hn hz
    go_enter Try.func33, Try.ntmps33
    go_wp2
    refine wp_loop_rounds 1 ?_
    rw [rounds_succ]
    go_wp2
    go_ret
    exact ⟨by simp [endP], by simpa [markP] using HA.out, Kept.refl _ _⟩
  · obtain ⟨g, cap, rfl, hb, hlt, _, _⟩ : ∃ g cap, va = .slice (some ⟨g, 0, none⟩) ps.length cap ∧ base ≤ g ∧ g < w.heap.size ∧ ps.length ≤ cap ∧ cap ≤ maxLen := by
      rcases ha.form with ⟨_, rfl⟩ | h
      · simp at hz
      · exact h
    generalize hl : ps.length = len at *
    have HL : Hid (ps.length = len) := hl
    have H1 : Hid (endP k0 ps ≤ 1125899906842624) := h1
    have HA : Hid (OwnP base 78 5 w (.slice (some ⟨g, 0, none⟩) len cap) ps) := ha
    clear hl h1 ha
    go_enter Try.func33, Try.ntmps33
    go_wp2
    go_loopw [1, 5] (fun v i wr => ∃ (k : Nat) (c : Int), k ≤ len ∧ i = .int .i64 k ∧ v = .int .i64 c ∧ Hid (c = endP k0 (ps.take k)) ∧ Hid (OwnP base 78 5 wr (.slice (some ⟨g, 0, none⟩) len cap) (partP k0 ps k)) ∧ Hid (Kept (footP (.slice (some ⟨g, 0, none⟩) len cap) ps) w wr)) (fun _ i _ => len - (intOf i).toNat)
    case atStart => exact ⟨0, k0, Nat.zero_le _, rfl, rfl, rfl, by rw [partP_zero]; exact HA.out, Kept.refl _ _⟩
    case round =>
      obtain ⟨k, c, hk, rfl, rfl, HC, HO, HK⟩ := hrel
      by_cases hlt : k < len
      · have hlp : k < ps.length := by rw [HL.out]; exact hlt
        have hf := HO.out.frozen (by rw [partP_length]; exact HL.out.symm) (k * 2)
        have hc := HO.out.sec (by rw [partP_length]; exact HL.out.symm) k (by rw [partP_length]; exact hlp)
        have hv : wr.cell? ⟨g, k * 2 + 1, none⟩ = some ps[k].v := by rw [HO.out.val (by rw [partP_length]; exact HL.out.symm) k (by rw [partP_length]; exact hlp), partP_vAt _ _ _ _ hlp]
        have hc0 : k0 ≤ c := by rw [HC.out]; exact endP_le _ _
        have hc1 : c + 1 + ps[k].bs.length ≤ 1125899906842624 := by rw [HC.out, ← endP_step k0 ps k hlp]; exact Int.le_trans (endP_take_le _ _ _) H1.out
        have HO2 : Hid (OwnP base 78 5 (wr.setCell ⟨g, k * 2, none⟩ (.int .i64 c)) (.slice (some ⟨g, 0, none⟩) len cap) (markP k0 (ps.take k) ++ ⟨c, ps[k].v, ps[k].bs⟩ :: ps.drop (k + 1))) := by
          have h := HO.out
          rw [partP_at _ _ _ hlp] at h
          have hl := HL.out
          exact h.setSec (by simp [markP_length]; omega) c _ (by simp [markP_length]; omega)
        go_wp2_with fail
        refine (markByteS_own base ps[k].v ps[k].bs (c + 1) _ (by omega) (by omega) (by omega) (HO2.out.data ⟨c, ps[k].v, ps[k].bs⟩ (by simp))).mono ?_
        rintro e w1 ⟨rfl, ho, hk1⟩
        have HO3 : Hid (OwnP base 78 5 w1 (.slice (some ⟨g, 0, none⟩) len cap) (partP k0 ps (k + 1))) := by
          rw [partP_step _ _ _ hlp, ← HC.out]
          exact HO2.out.setData hk1 ho
        have HK3 : Hid (Kept (footP (.slice (some ⟨g, 0, none⟩) len cap) ps) w w1) :=
          (HK.out.setCell (p := ⟨g, k * 2, none⟩) (.inr (.inl rfl)) _).trans (hk1.mono fun b _ hb => .inr ⟨ps[k], List.getElem_mem _, hb⟩)
        clear ho hk1 hv hc hf HO HO2
        go_wp2
        go_roundw
        case rel =>
          exact ⟨k + 1, c + 1 + ps[k].bs.length, by omega, by go_num, rfl, by rw [endP_step _ _ _ hlp, ← HC.out]; rfl, HO3, HK3⟩
        case measure => simp [intOf]; omega
      · go_wp2
        go_ret
        obtain rfl : k = len := by omega
        have hl := HL.out
        have hc := HC.out
        have ho := HO.out
        rw [← hl, List.take_length] at hc
        rw [← hl, partP_all, hl] at ho
        exact ⟨ret_int hc, ho, HK.out⟩

theorem eqSectorWrite_own (base : Nat) (sec : Int) (va vb : Value) (bs : List Int) (w : World) (hn : bs.length ≤ 1125899906842624)
    (ha : Own base 5 .u8 w va bs) (hb : Own base 5 .u8 w vb bs) :
    Calls Try.prog 50 #[.agg #[.int .i64 sec, va], .agg #[.int .i64 sec, vb]] w fun e w' => e = .returned (.bool true) ∧ Same w w' := by
  obtain ⟨aa, na, ca, rfl⟩ : ∃ aa na ca, va = .slice aa na ca := by rcases ha.form with ⟨rfl, _⟩ | ⟨g, cap, rfl, _⟩ <;> exact ⟨_, _, _, rfl⟩
  obtain ⟨ab, nb, cb, rfl⟩ : ∃ aa na ca, vb = .slice aa na ca := by rcases hb.form with ⟨rfl, _⟩ | ⟨g, cap, rfl, _⟩ <;> exact ⟨_, _, _, rfl⟩
  have HA : Hid (Own base 5 .u8 w (.slice aa na ca) bs) := ha
  have HB : Hid (Own base 5 .u8 w (.slice ab nb cb) bs) := hb
  clear ha hb
  go_enter Try.func50, Try.ntmps50
  go_wp2_with fail
  refine (eqByteS_own base _ _ bs _ hn (HA.out.same (((Kept.refl _ _).alloc _).alloc _)) (HB.out.same (((Kept.refl _ _).alloc _).alloc _))).mono ?_
  rintro e w1 ⟨rfl, n1, rfl⟩
  go_wp2
  go_ret
  exact ⟨rfl, (((Kept.refl _ _).alloc _).alloc _).drewN _⟩

theorem eqSectorWriteS_own (base : Nat) (va vb : Value) (ps qs : List PW) (w : World) (hn : ps.length ≤ 1125899906842624) (hs : dataP ps = dataP qs) (hsm : ∀ p ∈ ps, p.bs.length ≤ 1125899906842624)
    (ha : OwnP base 78 5 w va ps) (hb : OwnP base 78 5 w vb qs) :
    Calls Try.prog 32 #[va, vb] w fun e w' => e = .returned (.bool true) ∧ Same w w' := by
  have hlen : qs.length = ps.length := by rw [← dataP_length, ← dataP_length, hs]
  by_cases hz : ps.length = 0
  · obtain rfl : ps = [] := List.length_eq_zero_iff.1 hz
    obtain rfl : qs = [] := List.length_eq_zero_iff.1 hlen
    obtain ⟨aa, ca, rfl⟩ : ∃ aa ca, va = .slice aa 0 ca := by rcases ha.form with ⟨rfl, _⟩ | ⟨g, cap, rfl, _⟩ <;> exact ⟨_, _, rfl⟩
    obtain ⟨ab, cb, rfl⟩ : ∃ aa ca, vb = .slice aa 0 ca := by rcases hb.form with ⟨rfl, _⟩ | ⟨g, cap, rfl, _⟩ <;> exact ⟨_, _, rfl⟩
    clear ha hb hn hz hs
    go_enter Try.func32, Try.ntmps32
    go_wp2
    refine wp_loop_rounds 1 ?_
    rw [rounds_succ]
    go_wp2
    go_ret
    exact ⟨rfl, Kept.refl _ _⟩
  · obtain ⟨ga, ca, rfl⟩ : ∃ g cap, va = .slice (some ⟨g, 0, none⟩) ps.length cap := by
      rcases ha.form with ⟨_, h⟩ | ⟨g, cap, h, _⟩
      · simp [h] at hz
      · exact ⟨g, cap, h⟩
    obtain ⟨gb, cb, rfl⟩ : ∃ g cap, vb = .slice (some ⟨g, 0, none⟩) ps.length cap := by
      rcases hb.form with ⟨_, h⟩ | ⟨g, cap, h, _⟩
      · simp [h] at hlen; omega
      · exact ⟨g, cap, by rw [h, hlen]⟩
    have HA : Hid (OwnP base 78 5 w (.slice (some ⟨ga, 0, none⟩) ps.length ca) ps) := ha
    have HB : Hid (OwnP base 78 5 w (.slice (some ⟨gb, 0, none⟩) ps.length cb) qs) := hb
    have HQ : Hid (qs.length = ps.length) := hlen
    have HS : Hid (dataP ps = dataP qs) := hs
    have HM : Hid (∀ p ∈ ps, p.bs.length ≤ 1125899906842624) := hsm
    clear ha hb hs hlen hsm
    generalize hl : ps.length = len at hn hz HA HB ⊢
    have HL : Hid (ps.length = len) := hl
    clear hl
    go_enter Try.func32, Try.ntmps32
    go_wp2
    go_loopw [5] (fun i wr => ∃ (k : Nat), k ≤ len ∧ i = .int .i64 k ∧ Hid (Same w wr)) (fun i _ => len - (intOf i).toNat)
    case atStart => exact ⟨0, Nat.zero_le _, rfl, Kept.refl _ _⟩
    case round =>
      obtain ⟨k, hk, rfl, HK⟩ := hrel
      by_cases hlt : k < len
      · have hlp : k < ps.length := by rw [HL.out]; exact hlt
        have hlq : k < qs.length := by rw [HQ.out]; exact hlp
        have hoa := HA.out.same HK.out
        have hob := HB.out.same HK.out
        obtain ⟨s1, s2⟩ := dataP_at HS.out k hlp hlq
        have s3 := HM.out _ (List.getElem_mem hlp)
        have ha1 : wr.cell? ⟨ga, k * 2, none⟩ = some (.int .i64 ps[k].sec) := hoa.sec HL.out.symm k hlp
        have ha2 : wr.cell? ⟨ga, k * 2 + 1, none⟩ = some ps[k].v := hoa.val HL.out.symm k hlp
        have hb1 : wr.cell? ⟨gb, k * 2, none⟩ = some (.int .i64 ps[k].sec) := by rw [hob.sec (by rw [HQ.out, HL.out]) k hlq, s1]
        have hb2 : wr.cell? ⟨gb, k * 2 + 1, none⟩ = some qs[k].v := hob.val (by rw [HQ.out, HL.out]) k hlq
        have HDA : Hid (Own base 5 .u8 wr ps[k].v ps[k].bs) := hoa.data _ (List.getElem_mem hlp)
        have HDB : Hid (Own base 5 .u8 wr qs[k].v ps[k].bs) := by have := hob.data _ (List.getElem_mem hlq); rw [← s2] at this; exact this
        clear s1 s2 hoa hob
        go_wp2_with fail
        go_region_with (go_at_call 50; refine (eqSectorWrite_own base ps[k].sec ps[k].v qs[k].v ps[k].bs _ s3 (by exact HDA.out.same (Kept.refl _ _).drew) (by exact HDB.out.same (Kept.refl _ _).drew)).mono ?_; rintro e w1 ⟨rfl, hk1⟩)
        all_goals
          have HK1 : Hid (Same w w1) := HK.out.drew.trans hk1
          clear hk1 ha1 ha2 hb1 hb2 HDA HDB
          go_wp2
          go_roundw
          case rel => exact ⟨k + 1, by omega, by go_num, HK1⟩
          case measure => simp [intOf]; omega
      · go_wp2
        go_ret
        exact ⟨rfl, HK.out⟩
end Go.Proofs.Ytednajibnjofmaa
