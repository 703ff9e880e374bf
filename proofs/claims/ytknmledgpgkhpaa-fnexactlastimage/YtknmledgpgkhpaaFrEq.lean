import Derived.Test.YtknmledgpgkhpaaG04
import Derived.Deep.RegionWith
import Derived.Deep.DeepMust
import Derived.Deep.DeepCutAuto
namespace Go.Proofs.Ytknmledgpgkhpaa
set_option maxRecDepth 100000
set_option maxHeartbeats 8000000
open Go Go.RowKit
set_option linter.unusedVariables false
set_option linter.unusedSimpArgs false
theorem eqLogFrameS_own (va vb : Value) (ps qs : List StLogFrame) (w : World) (hn : ps.length ≤ 1125899906842624) (hs : datFr ps = datFr qs) (hsm : ∀ p ∈ ps, p.size ≤ 1125899906842624)
    (ha : OwnFr w va ps) (hb : OwnFr w vb qs) :
    Calls Try.prog 19 #[va, vb] w fun e w' => e = .returned (.bool true) ∧ Same w w' := by
  have hlen : qs.length = ps.length := by rw [← datFr_length, ← datFr_length, hs]
  by_cases hz : ps.length = 0
  · obtain rfl : ps = [] := List.length_eq_zero_iff.1 hz
    obtain rfl : qs = [] := List.length_eq_zero_iff.1 hlen
    obtain ⟨aa, ca, rfl⟩ : ∃ aa ca, va = .slice aa 0 ca := by rcases ha.own.form with ⟨rfl, _⟩ | ⟨g, cap, rfl, _⟩ <;> exact ⟨_, _, rfl⟩
    obtain ⟨ab, cb, rfl⟩ : ∃ aa ca, vb = .slice aa 0 ca := by rcases hb.own.form with ⟨rfl, _⟩ | ⟨g, cap, rfl, _⟩ <;> exact ⟨_, _, rfl⟩
    clear ha hb hn hz hs
    go_enter Try.func19, Try.ntmps19
    go_wp2
    refine wp_loop_rounds 1 ?_
    rw [rounds_succ]
    go_wp2
    go_ret
    exact ⟨rfl, Kept.refl _ _⟩
  · obtain ⟨ga, ca, rfl⟩ : ∃ g cap, va = .slice (some ⟨g, 0, none⟩) ps.length cap := by
      rcases ha.own.form with ⟨_, h⟩ | ⟨g, cap, h, _⟩
      · simp [h] at hz
      · exact ⟨g, cap, h⟩
    obtain ⟨gb, cb, rfl⟩ : ∃ g cap, vb = .slice (some ⟨g, 0, none⟩) ps.length cap := by
      rcases hb.own.form with ⟨_, h⟩ | ⟨g, cap, h, _⟩
      · simp [h] at hlen; omega
      · exact ⟨g, cap, by rw [h, hlen]⟩
    have HA := hid ha
    have HB := hid hb
    have HQ : Hid (qs.length = ps.length) := hlen
    have HS : Hid (datFr ps = datFr qs) := hs
    have HM : Hid (∀ p ∈ ps, p.size ≤ 1125899906842624) := hsm
    clear ha hb hs hlen hsm
    generalize hl : ps.length = len at hn hz HA HB ⊢
    have HL : Hid (ps.length = len) := hl
    clear hl
    go_enter Try.func19, Try.ntmps19
    go_wp2
    go_loopw [5] (fun i wr => ∃ (k : Nat), k ≤ len ∧ i = .int .i64 k ∧ Hid (Same w wr)) (fun i _ => len - (intOf i).toNat)
    case atStart => exact ⟨0, Nat.zero_le _, rfl, Kept.refl _ _⟩
    case round =>
      obtain ⟨k, hk, rfl, HK⟩ := hrel
      by_cases hlt : k < len
      · have hlp : k < ps.length := by rw [HL.out]; exact hlt
        have hlq : k < qs.length := by rw [HQ.out]; exact hlp
        have hoa := (HA.out.same HK.out).own
        have hob := (HB.out.same HK.out).own
        have hdd := datFr_at HS.out k hlp hlq
        have s3 := HM.out _ (List.getElem_mem hlp)
        have hra := (HA.out.same HK.out).rows.mem _ (List.getElem_mem hlp)
        have hrb := (HB.out.same HK.out).rows.mem _ (List.getElem_mem hlq)
        obtain ⟨P, hP⟩ : ∃ P, ps[k] = P := ⟨_, rfl⟩
        obtain ⟨Q, hQ⟩ : ∃ Q, qs[k] = Q := ⟨_, rfl⟩
        rw [hP] at hdd s3 hra
        rw [hQ] at hdd hrb
        have ha0 : wr.cell? ⟨ga, k * 16, none⟩ = some (.int .i64 P.lsn) := by have h := hoa.cell HL.out.symm k 0 hlp (by decide); rw [hP] at h; exact h
        have ha1 : wr.cell? ⟨ga, k * 16 + 1, none⟩ = some (.int .i64 P.epoch) := by have h := hoa.cell HL.out.symm k 1 hlp (by decide); rw [hP] at h; exact h
        have ha2 : wr.cell? ⟨ga, k * 16 + 2, none⟩ = some (.int .i64 P.record.kind) := by have h := hoa.cell HL.out.symm k 2 hlp (by decide); rw [hP] at h; exact h
        have ha3 : wr.cell? ⟨ga, k * 16 + 3, none⟩ = some (.int .i64 P.record.txn) := by have h := hoa.cell HL.out.symm k 3 hlp (by decide); rw [hP] at h; exact h
        have ha4 : wr.cell? ⟨ga, k * 16 + 4, none⟩ = some (.int .i64 P.record.prev) := by have h := hoa.cell HL.out.symm k 4 hlp (by decide); rw [hP] at h; exact h
        have ha5 : wr.cell? ⟨ga, k * 16 + 5, none⟩ = some (.int .i64 P.record.page) := by have h := hoa.cell HL.out.symm k 5 hlp (by decide); rw [hP] at h; exact h
        have ha6 : wr.cell? ⟨ga, k * 16 + 6, none⟩ = some (.int .i64 P.record.slot) := by have h := hoa.cell HL.out.symm k 6 hlp (by decide); rw [hP] at h; exact h
        have ha7 : wr.cell? ⟨ga, k * 16 + 7, none⟩ = some (.bool P.record.before.used) := by have h := hoa.cell HL.out.symm k 7 hlp (by decide); rw [hP] at h; exact h
        have ha8 : wr.cell? ⟨ga, k * 16 + 8, none⟩ = some (P.record.before.data.v) := by have h := hoa.cell HL.out.symm k 8 hlp (by decide); rw [hP] at h; exact h
        have ha9 : wr.cell? ⟨ga, k * 16 + 9, none⟩ = some (.bool P.record.after.used) := by have h := hoa.cell HL.out.symm k 9 hlp (by decide); rw [hP] at h; exact h
        have ha10 : wr.cell? ⟨ga, k * 16 + 10, none⟩ = some (P.record.after.data.v) := by have h := hoa.cell HL.out.symm k 10 hlp (by decide); rw [hP] at h; exact h
        have ha11 : wr.cell? ⟨ga, k * 16 + 11, none⟩ = some (.int .i64 P.record.uN) := by have h := hoa.cell HL.out.symm k 11 hlp (by decide); rw [hP] at h; exact h
        have ha12 : wr.cell? ⟨ga, k * 16 + 12, none⟩ = some (.int .i64 P.record.nT) := by have h := hoa.cell HL.out.symm k 12 hlp (by decide); rw [hP] at h; exact h
        have ha13 : wr.cell? ⟨ga, k * 16 + 13, none⟩ = some (P.record.txns.v) := by have h := hoa.cell HL.out.symm k 13 hlp (by decide); rw [hP] at h; exact h
        have ha14 : wr.cell? ⟨ga, k * 16 + 14, none⟩ = some (P.record.dirty.v) := by have h := hoa.cell HL.out.symm k 14 hlp (by decide); rw [hP] at h; exact h
        have ha15 : wr.cell? ⟨ga, k * 16 + 15, none⟩ = some (P.record.image.v) := by have h := hoa.cell HL.out.symm k 15 hlp (by decide); rw [hP] at h; exact h
        have hb0 : wr.cell? ⟨gb, k * 16, none⟩ = some (.int .i64 Q.lsn) := by have h := hob.cell (by rw [HQ.out, HL.out]) k 0 hlq (by decide); rw [hQ] at h; exact h
        have hb1 : wr.cell? ⟨gb, k * 16 + 1, none⟩ = some (.int .i64 Q.epoch) := by have h := hob.cell (by rw [HQ.out, HL.out]) k 1 hlq (by decide); rw [hQ] at h; exact h
        have hb2 : wr.cell? ⟨gb, k * 16 + 2, none⟩ = some (.int .i64 Q.record.kind) := by have h := hob.cell (by rw [HQ.out, HL.out]) k 2 hlq (by decide); rw [hQ] at h; exact h
        have hb3 : wr.cell? ⟨gb, k * 16 + 3, none⟩ = some (.int .i64 Q.record.txn) := by have h := hob.cell (by rw [HQ.out, HL.out]) k 3 hlq (by decide); rw [hQ] at h; exact h
        have hb4 : wr.cell? ⟨gb, k * 16 + 4, none⟩ = some (.int .i64 Q.record.prev) := by have h := hob.cell (by rw [HQ.out, HL.out]) k 4 hlq (by decide); rw [hQ] at h; exact h
        have hb5 : wr.cell? ⟨gb, k * 16 + 5, none⟩ = some (.int .i64 Q.record.page) := by have h := hob.cell (by rw [HQ.out, HL.out]) k 5 hlq (by decide); rw [hQ] at h; exact h
        have hb6 : wr.cell? ⟨gb, k * 16 + 6, none⟩ = some (.int .i64 Q.record.slot) := by have h := hob.cell (by rw [HQ.out, HL.out]) k 6 hlq (by decide); rw [hQ] at h; exact h
        have hb7 : wr.cell? ⟨gb, k * 16 + 7, none⟩ = some (.bool Q.record.before.used) := by have h := hob.cell (by rw [HQ.out, HL.out]) k 7 hlq (by decide); rw [hQ] at h; exact h
        have hb8 : wr.cell? ⟨gb, k * 16 + 8, none⟩ = some (Q.record.before.data.v) := by have h := hob.cell (by rw [HQ.out, HL.out]) k 8 hlq (by decide); rw [hQ] at h; exact h
        have hb9 : wr.cell? ⟨gb, k * 16 + 9, none⟩ = some (.bool Q.record.after.used) := by have h := hob.cell (by rw [HQ.out, HL.out]) k 9 hlq (by decide); rw [hQ] at h; exact h
        have hb10 : wr.cell? ⟨gb, k * 16 + 10, none⟩ = some (Q.record.after.data.v) := by have h := hob.cell (by rw [HQ.out, HL.out]) k 10 hlq (by decide); rw [hQ] at h; exact h
        have hb11 : wr.cell? ⟨gb, k * 16 + 11, none⟩ = some (.int .i64 Q.record.uN) := by have h := hob.cell (by rw [HQ.out, HL.out]) k 11 hlq (by decide); rw [hQ] at h; exact h
        have hb12 : wr.cell? ⟨gb, k * 16 + 12, none⟩ = some (.int .i64 Q.record.nT) := by have h := hob.cell (by rw [HQ.out, HL.out]) k 12 hlq (by decide); rw [hQ] at h; exact h
        have hb13 : wr.cell? ⟨gb, k * 16 + 13, none⟩ = some (Q.record.txns.v) := by have h := hob.cell (by rw [HQ.out, HL.out]) k 13 hlq (by decide); rw [hQ] at h; exact h
        have hb14 : wr.cell? ⟨gb, k * 16 + 14, none⟩ = some (Q.record.dirty.v) := by have h := hob.cell (by rw [HQ.out, HL.out]) k 14 hlq (by decide); rw [hQ] at h; exact h
        have hb15 : wr.cell? ⟨gb, k * 16 + 15, none⟩ = some (Q.record.image.v) := by have h := hob.cell (by rw [HQ.out, HL.out]) k 15 hlq (by decide); rw [hQ] at h; exact h
        have HD := hid hdd
        have HS3 := hid s3
        have HDA := hid hra
        have HDB := hid hrb
        clear hoa hob hdd hra hrb s3 hP hQ
        go_wp2_with fail
        have hS : (fun wx : World => (wx.cell? ⟨ga, k * 16, none⟩ = some (.int .i64 P.lsn) ∧ wx.cell? ⟨ga, k * 16 + 1, none⟩ = some (.int .i64 P.epoch) ∧ wx.cell? ⟨ga, k * 16 + 2, none⟩ = some (.int .i64 P.record.kind) ∧ wx.cell? ⟨ga, k * 16 + 3, none⟩ = some (.int .i64 P.record.txn) ∧ wx.cell? ⟨ga, k * 16 + 4, none⟩ = some (.int .i64 P.record.prev) ∧ wx.cell? ⟨ga, k * 16 + 5, none⟩ = some (.int .i64 P.record.page) ∧ wx.cell? ⟨ga, k * 16 + 6, none⟩ = some (.int .i64 P.record.slot) ∧ wx.cell? ⟨ga, k * 16 + 7, none⟩ = some (.bool P.record.before.used) ∧ wx.cell? ⟨ga, k * 16 + 8, none⟩ = some (P.record.before.data.v) ∧ wx.cell? ⟨ga, k * 16 + 9, none⟩ = some (.bool P.record.after.used) ∧ wx.cell? ⟨ga, k * 16 + 10, none⟩ = some (P.record.after.data.v) ∧ wx.cell? ⟨ga, k * 16 + 11, none⟩ = some (.int .i64 P.record.uN) ∧ wx.cell? ⟨ga, k * 16 + 12, none⟩ = some (.int .i64 P.record.nT) ∧ wx.cell? ⟨ga, k * 16 + 13, none⟩ = some (P.record.txns.v) ∧ wx.cell? ⟨ga, k * 16 + 14, none⟩ = some (P.record.dirty.v) ∧ wx.cell? ⟨ga, k * 16 + 15, none⟩ = some (P.record.image.v)) ∧ (wx.cell? ⟨gb, k * 16, none⟩ = some (.int .i64 Q.lsn) ∧ wx.cell? ⟨gb, k * 16 + 1, none⟩ = some (.int .i64 Q.epoch) ∧ wx.cell? ⟨gb, k * 16 + 2, none⟩ = some (.int .i64 Q.record.kind) ∧ wx.cell? ⟨gb, k * 16 + 3, none⟩ = some (.int .i64 Q.record.txn) ∧ wx.cell? ⟨gb, k * 16 + 4, none⟩ = some (.int .i64 Q.record.prev) ∧ wx.cell? ⟨gb, k * 16 + 5, none⟩ = some (.int .i64 Q.record.page) ∧ wx.cell? ⟨gb, k * 16 + 6, none⟩ = some (.int .i64 Q.record.slot) ∧ wx.cell? ⟨gb, k * 16 + 7, none⟩ = some (.bool Q.record.before.used) ∧ wx.cell? ⟨gb, k * 16 + 8, none⟩ = some (Q.record.before.data.v) ∧ wx.cell? ⟨gb, k * 16 + 9, none⟩ = some (.bool Q.record.after.used) ∧ wx.cell? ⟨gb, k * 16 + 10, none⟩ = some (Q.record.after.data.v) ∧ wx.cell? ⟨gb, k * 16 + 11, none⟩ = some (.int .i64 Q.record.uN) ∧ wx.cell? ⟨gb, k * 16 + 12, none⟩ = some (.int .i64 Q.record.nT) ∧ wx.cell? ⟨gb, k * 16 + 13, none⟩ = some (Q.record.txns.v) ∧ wx.cell? ⟨gb, k * 16 + 14, none⟩ = some (Q.record.dirty.v) ∧ wx.cell? ⟨gb, k * 16 + 15, none⟩ = some (Q.record.image.v))) wr.drew := ⟨⟨ha0, ha1, ha2, ha3, ha4, ha5, ha6, ha7, ha8, ha9, ha10, ha11, ha12, ha13, ha14, ha15⟩, ⟨hb0, hb1, hb2, hb3, hb4, hb5, hb6, hb7, hb8, hb9, hb10, hb11, hb12, hb13, hb14, hb15⟩⟩
        refine wp_region_V (fun wx : World => (wx.cell? ⟨ga, k * 16, none⟩ = some (.int .i64 P.lsn) ∧ wx.cell? ⟨ga, k * 16 + 1, none⟩ = some (.int .i64 P.epoch) ∧ wx.cell? ⟨ga, k * 16 + 2, none⟩ = some (.int .i64 P.record.kind) ∧ wx.cell? ⟨ga, k * 16 + 3, none⟩ = some (.int .i64 P.record.txn) ∧ wx.cell? ⟨ga, k * 16 + 4, none⟩ = some (.int .i64 P.record.prev) ∧ wx.cell? ⟨ga, k * 16 + 5, none⟩ = some (.int .i64 P.record.page) ∧ wx.cell? ⟨ga, k * 16 + 6, none⟩ = some (.int .i64 P.record.slot) ∧ wx.cell? ⟨ga, k * 16 + 7, none⟩ = some (.bool P.record.before.used) ∧ wx.cell? ⟨ga, k * 16 + 8, none⟩ = some (P.record.before.data.v) ∧ wx.cell? ⟨ga, k * 16 + 9, none⟩ = some (.bool P.record.after.used) ∧ wx.cell? ⟨ga, k * 16 + 10, none⟩ = some (P.record.after.data.v) ∧ wx.cell? ⟨ga, k * 16 + 11, none⟩ = some (.int .i64 P.record.uN) ∧ wx.cell? ⟨ga, k * 16 + 12, none⟩ = some (.int .i64 P.record.nT) ∧ wx.cell? ⟨ga, k * 16 + 13, none⟩ = some (P.record.txns.v) ∧ wx.cell? ⟨ga, k * 16 + 14, none⟩ = some (P.record.dirty.v) ∧ wx.cell? ⟨ga, k * 16 + 15, none⟩ = some (P.record.image.v)) ∧ (wx.cell? ⟨gb, k * 16, none⟩ = some (.int .i64 Q.lsn) ∧ wx.cell? ⟨gb, k * 16 + 1, none⟩ = some (.int .i64 Q.epoch) ∧ wx.cell? ⟨gb, k * 16 + 2, none⟩ = some (.int .i64 Q.record.kind) ∧ wx.cell? ⟨gb, k * 16 + 3, none⟩ = some (.int .i64 Q.record.txn) ∧ wx.cell? ⟨gb, k * 16 + 4, none⟩ = some (.int .i64 Q.record.prev) ∧ wx.cell? ⟨gb, k * 16 + 5, none⟩ = some (.int .i64 Q.record.page) ∧ wx.cell? ⟨gb, k * 16 + 6, none⟩ = some (.int .i64 Q.record.slot) ∧ wx.cell? ⟨gb, k * 16 + 7, none⟩ = some (.bool Q.record.before.used) ∧ wx.cell? ⟨gb, k * 16 + 8, none⟩ = some (Q.record.before.data.v) ∧ wx.cell? ⟨gb, k * 16 + 9, none⟩ = some (.bool Q.record.after.used) ∧ wx.cell? ⟨gb, k * 16 + 10, none⟩ = some (Q.record.after.data.v) ∧ wx.cell? ⟨gb, k * 16 + 11, none⟩ = some (.int .i64 Q.record.uN) ∧ wx.cell? ⟨gb, k * 16 + 12, none⟩ = some (.int .i64 Q.record.nT) ∧ wx.cell? ⟨gb, k * 16 + 13, none⟩ = some (Q.record.txns.v) ∧ wx.cell? ⟨gb, k * 16 + 14, none⟩ = some (Q.record.dirty.v) ∧ wx.cell? ⟨gb, k * 16 + 15, none⟩ = some (Q.record.image.v))) 99 10 rfl (by kernel_rfl) ?_
        refine tk 0 17 hS ?_
        refine tk 1 18 hS ?_
        refine tkV 2 19 (.pointer (some ⟨ga, k * 16, none⟩)) hS ?_
        refine tk 3 20 hS ?_
        refine tk 4 21 hS ?_
        refine tk 5 22 hS ?_
        refine tkV 6 23 (.pointer (some ⟨gb, k * 16, none⟩)) hS ?_
        refine tk 7 24 hS ?_
        refine wpAnyV_one (i := 8) (by kernel_rfl) rfl (fun K hK => ?_)
        go_simp
        refine (eqLogFrame_own P Q _ HS3.out HD.out (HDA.out.same (Kept.refl _ _).drew) (HDB.out.same (Kept.refl _ _).drew)).mono ?_
        rintro e w1 ⟨rfl, hk1⟩
        have HK1 : Hid (Same w w1) := HK.out.drew.trans hk1
        have HK7 : Hid (Same wr w1) := (Kept.refl _ _).drew.trans hk1
        refine hK.out _ _ (fun _ => ⟨⟨(HK7.out.cellOf ha0 id), (HK7.out.cellOf ha1 id), (HK7.out.cellOf ha2 id), (HK7.out.cellOf ha3 id), (HK7.out.cellOf ha4 id), (HK7.out.cellOf ha5 id), (HK7.out.cellOf ha6 id), (HK7.out.cellOf ha7 id), (HK7.out.cellOf ha8 id), (HK7.out.cellOf ha9 id), (HK7.out.cellOf ha10 id), (HK7.out.cellOf ha11 id), (HK7.out.cellOf ha12 id), (HK7.out.cellOf ha13 id), (HK7.out.cellOf ha14 id), (HK7.out.cellOf ha15 id)⟩, ⟨(HK7.out.cellOf hb0 id), (HK7.out.cellOf hb1 id), (HK7.out.cellOf hb2 id), (HK7.out.cellOf hb3 id), (HK7.out.cellOf hb4 id), (HK7.out.cellOf hb5 id), (HK7.out.cellOf hb6 id), (HK7.out.cellOf hb7 id), (HK7.out.cellOf hb8 id), (HK7.out.cellOf hb9 id), (HK7.out.cellOf hb10 id), (HK7.out.cellOf hb11 id), (HK7.out.cellOf hb12 id), (HK7.out.cellOf hb13 id), (HK7.out.cellOf hb14 id), (HK7.out.cellOf hb15 id)⟩⟩) ?_
        clear hK K
        try simp only [Act.put, sA, s0, sS]
        refine wpAnyV_one (i := 9) (by kernel_rfl) rfl (fun K hK => ?_)
        go_simp
        refine hK.out _ _ (fun h => ⟨⟨(HK7.out.cellOf ha0 id), (HK7.out.cellOf ha1 id), (HK7.out.cellOf ha2 id), (HK7.out.cellOf ha3 id), (HK7.out.cellOf ha4 id), (HK7.out.cellOf ha5 id), (HK7.out.cellOf ha6 id), (HK7.out.cellOf ha7 id), (HK7.out.cellOf ha8 id), (HK7.out.cellOf ha9 id), (HK7.out.cellOf ha10 id), (HK7.out.cellOf ha11 id), (HK7.out.cellOf ha12 id), (HK7.out.cellOf ha13 id), (HK7.out.cellOf ha14 id), (HK7.out.cellOf ha15 id)⟩, ⟨(HK7.out.cellOf hb0 id), (HK7.out.cellOf hb1 id), (HK7.out.cellOf hb2 id), (HK7.out.cellOf hb3 id), (HK7.out.cellOf hb4 id), (HK7.out.cellOf hb5 id), (HK7.out.cellOf hb6 id), (HK7.out.cellOf hb7 id), (HK7.out.cellOf hb8 id), (HK7.out.cellOf hb9 id), (HK7.out.cellOf hb10 id), (HK7.out.cellOf hb11 id), (HK7.out.cellOf hb12 id), (HK7.out.cellOf hb13 id), (HK7.out.cellOf hb14 id), (HK7.out.cellOf hb15 id)⟩⟩) ?_
        clear hK K hk1
        try simp only [Act.put, sA, s0, sS]
        refine wpAnyV_done (by kernel_rfl) ?_
        go_wp2
        go_roundw
        case rel => exact ⟨k + 1, by omega, by go_num, HK1⟩
        case measure => simp [intOf]; omega
      · go_wp2
        go_ret
        exact ⟨rfl, HK.out⟩
end Go.Proofs.Ytknmledgpgkhpaa
