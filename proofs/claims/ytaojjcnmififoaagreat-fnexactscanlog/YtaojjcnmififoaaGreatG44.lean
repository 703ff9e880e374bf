import Derived.Test.YtaojjcnmififoaaGreatG31
import Derived.Test.YtaojjcnmififoaaGreatG08
import Derived.Test.YtaojjcnmififoaaGreatG00
import Derived.Test.YtaojjcnmififoaaGreatG42
import Derived.Test.YtaojjcnmififoaaGreatFrHeld
import Derived.Test.YtaojjcnmififoaaGreatG30
import Derived.Test.YtaojjcnmififoaaGreatG35
import Derived.Test.YtaojjcnmififoaaGreatScIm
import Derived.Test.YtaojjcnmififoaaGreatG29
import Derived.Deep.RegionWith
import Derived.Deep.DeepMust
import Derived.Deep.DeepCutAuto
import Derived.Deep.MidRow
namespace Go.Proofs.YtaojjcnmififoaaGreat
set_option maxRecDepth 100000
set_option maxHeartbeats 16000000
set_option linter.unusedVariables false
set_option linter.unusedSimpArgs false
open Go Go.RowKit Go.ChangeShapes Go.WideShapes Go.ChangeAt
theorem eqLogFrameS_own (va vb : Value) (ps qs : List StLogFrame) (w : World) (hn : ps.length ≤ 1125899906842624) (hs : datFr ps = datFr qs) (hsm : ∀ p ∈ ps, p.size ≤ 1125899906842624)
  (ha : OwnFr w va ps) (hb : OwnFr w vb qs) :
  Calls Tryz.prog 27 #[va, vb] w fun e w' => e = .returned (.bool true) ∧ Same w w' := by
 have hlen : qs.length = ps.length := by rw [← datFr_length, ← datFr_length, hs]
 by_cases hz : ps.length = 0
 ·obtain rfl : ps = [] := List.length_eq_zero_iff.1 hz
  obtain rfl : qs = [] := List.length_eq_zero_iff.1 hlen
  obtain ⟨aa, ca, rfl⟩ : ∃ aa ca, va = .slice aa 0 ca := by rcases ha.own.form with ⟨rfl, _⟩ | ⟨g, cap, rfl, _⟩ <;> exact ⟨_, _, rfl⟩
  obtain ⟨ab, cb, rfl⟩ : ∃ aa ca, vb = .slice aa 0 ca := by rcases hb.own.form with ⟨rfl, _⟩ | ⟨g, cap, rfl, _⟩ <;> exact ⟨_, _, rfl⟩
  clear ha hb hn hz hs
  go_enter Tryz.func27, Tryz.ntmps27
  go_wp2
  refine wp_loop_rounds 1 ?_
  rw [rounds_succ]
  go_wp2
  go_ret
  exact ⟨rfl, Kept.refl _ _⟩
 ·obtain ⟨ga, ca, rfl⟩ : ∃ g cap, va = .slice (some ⟨g, 0, none⟩) ps.length cap := by
   rcases ha.own.form with ⟨_, h⟩ | ⟨g, cap, h, _⟩
   ·simp [h] at hz
   ·exact ⟨g, cap, h⟩
  obtain ⟨gb, cb, rfl⟩ : ∃ g cap, vb = .slice (some ⟨g, 0, none⟩) ps.length cap := by
   rcases hb.own.form with ⟨_, h⟩ | ⟨g, cap, h, _⟩
   ·simp [h] at hlen; omega
   ·exact ⟨g, cap, by rw [h, hlen]⟩
  have HA := hid ha
  have HB := hid hb
  have HQ : Hid (qs.length = ps.length) := hlen
  have HS : Hid (datFr ps = datFr qs) := hs
  have HM : Hid (∀ p ∈ ps, p.size ≤ 1125899906842624) := hsm
  clear ha hb hs hlen hsm
  generalize hl : ps.length = len at hn hz HA HB ⊢
  have HL : Hid (ps.length = len) := hl
  clear hl
  go_enter Tryz.func27, Tryz.ntmps27
  go_wp2
  go_loopw [5] (fun i wr => ∃ (k : Nat), k ≤ len ∧ i = .int .i64 k ∧ Hid (Same w wr)) (fun i _ => len - (intOf i).toNat)
  case atStart => exact ⟨0, Nat.zero_le _, rfl, Kept.refl _ _⟩
  case round =>
   obtain ⟨k, hk, rfl, HK⟩ := hrel
   by_cases hlt : k < len
   ·have hlp : k < ps.length := by rw [HL.out]; exact hlt
    have hlq : k < qs.length := by rw [HQ.out]; exact hlp
    have hoa := (HA.out.same HK.out).own
    have hob := (HB.out.same HK.out).own
    have hdd := datFr_at HS.out k hlp hlq
    have s3 := HM.out _ (List.getElem_mem hlp)
    have hra := (HA.out.same HK.out).rows.mem _ (List.getElem_mem hlp)
    have hrb := (HB.out.same HK.out).rows.mem _ (List.getElem_mem hlq)
    obtain ⟨P, hP⟩ : ∃ P, ps[k] = P := ⟨_, rfl⟩
    obtain ⟨Q, hQ⟩ : ∃ Q, qs[k] = Q := ⟨_, rfl⟩
    rw [hP] at hdd s3 hra
    rw [hQ] at hdd hrb
    have ha0 : wr.cell? ⟨ga, k * 16, none⟩ = some (.int .i64 P.lsn) := by have h := hoa.cell HL.out.symm k 0 hlp (by decide); rw [hP] at h; exact h
    have ha1 : wr.cell? ⟨ga, k * 16 + 1, none⟩ = some (.int .i64 P.epoch) := by have h := hoa.cell HL.out.symm k 1 hlp (by decide); rw [hP] at h; exact h
    have ha2 : wr.cell? ⟨ga, k * 16 + 2, none⟩ = some (.int .i64 P.record.kind) := by have h := hoa.cell HL.out.symm k 2 hlp (by decide); rw [hP] at h; exact h
    have ha3 : wr.cell? ⟨ga, k * 16 + 3, none⟩ = some (.int .i64 P.record.txn) := by have h := hoa.cell HL.out.symm k 3 hlp (by decide); rw [hP] at h; exact h
    have ha4 : wr.cell? ⟨ga, k * 16 + 4, none⟩ = some (.int .i64 P.record.prev) := by have h := hoa.cell HL.out.symm k 4 hlp (by decide); rw [hP] at h; exact h
    have ha5 : wr.cell? ⟨ga, k * 16 + 5, none⟩ = some (.int .i64 P.record.page) := by have h := hoa.cell HL.out.symm k 5 hlp (by decide); rw [hP] at h; exact h
    have ha6 : wr.cell? ⟨ga, k * 16 + 6, none⟩ = some (.int .i64 P.record.slot) := by have h := hoa.cell HL.out.symm k 6 hlp (by decide); rw [hP] at h; exact h
    have ha7 : wr.cell? ⟨ga, k * 16 + 7, none⟩ = some (.bool P.record.before.used) := by have h := hoa.cell HL.out.symm k 7 hlp (by decide); rw [hP] at h; exact h
    have ha8 : wr.cell? ⟨ga, k * 16 + 8, none⟩ = some (P.record.before.data.v) := by have h := hoa.cell HL.out.symm k 8 hlp (by decide); rw [hP] at h; exact h
    have ha9 : wr.cell? ⟨ga, k * 16 + 9, none⟩ = some (.bool P.record.after.used) := by have h := hoa.cell HL.out.symm k 9 hlp (by decide); rw [hP] at h; exact h
    have ha10 : wr.cell? ⟨ga, k * 16 + 10, none⟩ = some (P.record.after.data.v) := by have h := hoa.cell HL.out.symm k 10 hlp (by decide); rw [hP] at h; exact h
    have ha11 : wr.cell? ⟨ga, k * 16 + 11, none⟩ = some (.int .i64 P.record.uN) := by have h := hoa.cell HL.out.symm k 11 hlp (by decide); rw [hP] at h; exact h
    have ha12 : wr.cell? ⟨ga, k * 16 + 12, none⟩ = some (.int .i64 P.record.nT) := by have h := hoa.cell HL.out.symm k 12 hlp (by decide); rw [hP] at h; exact h
    have ha13 : wr.cell? ⟨ga, k * 16 + 13, none⟩ = some (P.record.txns.v) := by have h := hoa.cell HL.out.symm k 13 hlp (by decide); rw [hP] at h; exact h
    have ha14 : wr.cell? ⟨ga, k * 16 + 14, none⟩ = some (P.record.dirty.v) := by have h := hoa.cell HL.out.symm k 14 hlp (by decide); rw [hP] at h; exact h
    have ha15 : wr.cell? ⟨ga, k * 16 + 15, none⟩ = some (P.record.image.v) := by have h := hoa.cell HL.out.symm k 15 hlp (by decide); rw [hP] at h; exact h
    have hb0 : wr.cell? ⟨gb, k * 16, none⟩ = some (.int .i64 Q.lsn) := by have h := hob.cell (by rw [HQ.out, HL.out]) k 0 hlq (by decide); rw [hQ] at h; exact h
    have hb1 : wr.cell? ⟨gb, k * 16 + 1, none⟩ = some (.int .i64 Q.epoch) := by have h := hob.cell (by rw [HQ.out, HL.out]) k 1 hlq (by decide); rw [hQ] at h; exact h
    have hb2 : wr.cell? ⟨gb, k * 16 + 2, none⟩ = some (.int .i64 Q.record.kind) := by have h := hob.cell (by rw [HQ.out, HL.out]) k 2 hlq (by decide); rw [hQ] at h; exact h
    have hb3 : wr.cell? ⟨gb, k * 16 + 3, none⟩ = some (.int .i64 Q.record.txn) := by have h := hob.cell (by rw [HQ.out, HL.out]) k 3 hlq (by decide); rw [hQ] at h; exact h
    have hb4 : wr.cell? ⟨gb, k * 16 + 4, none⟩ = some (.int .i64 Q.record.prev) := by have h := hob.cell (by rw [HQ.out, HL.out]) k 4 hlq (by decide); rw [hQ] at h; exact h
    have hb5 : wr.cell? ⟨gb, k * 16 + 5, none⟩ = some (.int .i64 Q.record.page) := by have h := hob.cell (by rw [HQ.out, HL.out]) k 5 hlq (by decide); rw [hQ] at h; exact h
    have hb6 : wr.cell? ⟨gb, k * 16 + 6, none⟩ = some (.int .i64 Q.record.slot) := by have h := hob.cell (by rw [HQ.out, HL.out]) k 6 hlq (by decide); rw [hQ] at h; exact h
    have hb7 : wr.cell? ⟨gb, k * 16 + 7, none⟩ = some (.bool Q.record.before.used) := by have h := hob.cell (by rw [HQ.out, HL.out]) k 7 hlq (by decide); rw [hQ] at h; exact h
    have hb8 : wr.cell? ⟨gb, k * 16 + 8, none⟩ = some (Q.record.before.data.v) := by have h := hob.cell (by rw [HQ.out, HL.out]) k 8 hlq (by decide); rw [hQ] at h; exact h
    have hb9 : wr.cell? ⟨gb, k * 16 + 9, none⟩ = some (.bool Q.record.after.used) := by have h := hob.cell (by rw [HQ.out, HL.out]) k 9 hlq (by decide); rw [hQ] at h; exact h
    have hb10 : wr.cell? ⟨gb, k * 16 + 10, none⟩ = some (Q.record.after.data.v) := by have h := hob.cell (by rw [HQ.out, HL.out]) k 10 hlq (by decide); rw [hQ] at h; exact h
    have hb11 : wr.cell? ⟨gb, k * 16 + 11, none⟩ = some (.int .i64 Q.record.uN) := by have h := hob.cell (by rw [HQ.out, HL.out]) k 11 hlq (by decide); rw [hQ] at h; exact h
    have hb12 : wr.cell? ⟨gb, k * 16 + 12, none⟩ = some (.int .i64 Q.record.nT) := by have h := hob.cell (by rw [HQ.out, HL.out]) k 12 hlq (by decide); rw [hQ] at h; exact h
    have hb13 : wr.cell? ⟨gb, k * 16 + 13, none⟩ = some (Q.record.txns.v) := by have h := hob.cell (by rw [HQ.out, HL.out]) k 13 hlq (by decide); rw [hQ] at h; exact h
    have hb14 : wr.cell? ⟨gb, k * 16 + 14, none⟩ = some (Q.record.dirty.v) := by have h := hob.cell (by rw [HQ.out, HL.out]) k 14 hlq (by decide); rw [hQ] at h; exact h
    have hb15 : wr.cell? ⟨gb, k * 16 + 15, none⟩ = some (Q.record.image.v) := by have h := hob.cell (by rw [HQ.out, HL.out]) k 15 hlq (by decide); rw [hQ] at h; exact h
    have HD := hid hdd
    have HS3 := hid s3
    have HDA := hid hra
    have HDB := hid hrb
    clear hoa hob hdd hra hrb s3 hP hQ
    go_wp2_with fail
    let Y1 : World → Prop := fun wx : World => (wx.cell? ⟨ga, k * 16, none⟩ = some (.int .i64 P.lsn) ∧ wx.cell? ⟨ga, k * 16 + 1, none⟩ = some (.int .i64 P.epoch) ∧ wx.cell? ⟨ga, k * 16 + 2, none⟩ = some (.int .i64 P.record.kind) ∧ wx.cell? ⟨ga, k * 16 + 3, none⟩ = some (.int .i64 P.record.txn) ∧ wx.cell? ⟨ga, k * 16 + 4, none⟩ = some (.int .i64 P.record.prev) ∧ wx.cell? ⟨ga, k * 16 + 5, none⟩ = some (.int .i64 P.record.page) ∧ wx.cell? ⟨ga, k * 16 + 6, none⟩ = some (.int .i64 P.record.slot) ∧ wx.cell? ⟨ga, k * 16 + 7, none⟩ = some (.bool P.record.before.used) ∧ wx.cell? ⟨ga, k * 16 + 8, none⟩ = some (P.record.before.data.v) ∧ wx.cell? ⟨ga, k * 16 + 9, none⟩ = some (.bool P.record.after.used) ∧ wx.cell? ⟨ga, k * 16 + 10, none⟩ = some (P.record.after.data.v) ∧ wx.cell? ⟨ga, k * 16 + 11, none⟩ = some (.int .i64 P.record.uN) ∧ wx.cell? ⟨ga, k * 16 + 12, none⟩ = some (.int .i64 P.record.nT) ∧ wx.cell? ⟨ga, k * 16 + 13, none⟩ = some (P.record.txns.v) ∧ wx.cell? ⟨ga, k * 16 + 14, none⟩ = some (P.record.dirty.v) ∧ wx.cell? ⟨ga, k * 16 + 15, none⟩ = some (P.record.image.v)) ∧ (wx.cell? ⟨gb, k * 16, none⟩ = some (.int .i64 Q.lsn) ∧ wx.cell? ⟨gb, k * 16 + 1, none⟩ = some (.int .i64 Q.epoch) ∧ wx.cell? ⟨gb, k * 16 + 2, none⟩ = some (.int .i64 Q.record.kind) ∧ wx.cell? ⟨gb, k * 16 + 3, none⟩ = some (.int .i64 Q.record.txn) ∧ wx.cell? ⟨gb, k * 16 + 4, none⟩ = some (.int .i64 Q.record.prev) ∧ wx.cell? ⟨gb, k * 16 + 5, none⟩ = some (.int .i64 Q.record.page) ∧ wx.cell? ⟨gb, k * 16 + 6, none⟩ = some (.int .i64 Q.record.slot) ∧ wx.cell? ⟨gb, k * 16 + 7, none⟩ = some (.bool Q.record.before.used) ∧ wx.cell? ⟨gb, k * 16 + 8, none⟩ = some (Q.record.before.data.v) ∧ wx.cell? ⟨gb, k * 16 + 9, none⟩ = some (.bool Q.record.after.used) ∧ wx.cell? ⟨gb, k * 16 + 10, none⟩ = some (Q.record.after.data.v) ∧ wx.cell? ⟨gb, k * 16 + 11, none⟩ = some (.int .i64 Q.record.uN) ∧ wx.cell? ⟨gb, k * 16 + 12, none⟩ = some (.int .i64 Q.record.nT) ∧ wx.cell? ⟨gb, k * 16 + 13, none⟩ = some (Q.record.txns.v) ∧ wx.cell? ⟨gb, k * 16 + 14, none⟩ = some (Q.record.dirty.v) ∧ wx.cell? ⟨gb, k * 16 + 15, none⟩ = some (Q.record.image.v))
    have hS : Y1 wr.drew := ⟨⟨ha0, ha1, ha2, ha3, ha4, ha5, ha6, ha7, ha8, ha9, ha10, ha11, ha12, ha13, ha14, ha15⟩, ⟨hb0, hb1, hb2, hb3, hb4, hb5, hb6, hb7, hb8, hb9, hb10, hb11, hb12, hb13, hb14, hb15⟩⟩
    refine wp_region_V Y1 99 10 rfl (by kernel_rfl) ?_
    refine tk 0 17 hS ?_
    refine tk 1 18 hS ?_
    refine tkV 2 19 (.pointer (some ⟨ga, k * 16, none⟩)) hS ?_
    refine tk 3 20 hS ?_
    refine tk 4 21 hS ?_
    refine tk 5 22 hS ?_
    refine tkV 6 23 (.pointer (some ⟨gb, k * 16, none⟩)) hS ?_
    refine tk 7 24 hS ?_
    refine wpAnyV_one (i := 8) (by kernel_rfl) rfl (fun K hK => ?_)
    go_simp
    refine (eqLogFrame_own P Q _ HS3.out HD.out (HDA.out.same (Kept.refl _ _).drew) (HDB.out.same (Kept.refl _ _).drew)).mono ?_
    rintro e w1 ⟨rfl, hk1⟩
    have HK1 : Hid (Same w w1) := HK.out.drew.trans hk1
    have HK7 : Hid (Same wr w1) := (Kept.refl _ _).drew.trans hk1
    refine hK.out _ _ (fun _ => ⟨⟨(HK7.out.cellOf ha0 id), (HK7.out.cellOf ha1 id), (HK7.out.cellOf ha2 id), (HK7.out.cellOf ha3 id), (HK7.out.cellOf ha4 id), (HK7.out.cellOf ha5 id), (HK7.out.cellOf ha6 id), (HK7.out.cellOf ha7 id), (HK7.out.cellOf ha8 id), (HK7.out.cellOf ha9 id), (HK7.out.cellOf ha10 id), (HK7.out.cellOf ha11 id), (HK7.out.cellOf ha12 id), (HK7.out.cellOf ha13 id), (HK7.out.cellOf ha14 id), (HK7.out.cellOf ha15 id)⟩, ⟨(HK7.out.cellOf hb0 id), (HK7.out.cellOf hb1 id), (HK7.out.cellOf hb2 id), (HK7.out.cellOf hb3 id), (HK7.out.cellOf hb4 id), (HK7.out.cellOf hb5 id), (HK7.out.cellOf hb6 id), (HK7.out.cellOf hb7 id), (HK7.out.cellOf hb8 id), (HK7.out.cellOf hb9 id), (HK7.out.cellOf hb10 id), (HK7.out.cellOf hb11 id), (HK7.out.cellOf hb12 id), (HK7.out.cellOf hb13 id), (HK7.out.cellOf hb14 id), (HK7.out.cellOf hb15 id)⟩⟩) ?_
    clear hK K
    try simp only [Act.put, sA, s0, sS]
    refine wpAnyV_one (i := 9) (by kernel_rfl) rfl (fun K hK => ?_)
    go_simp
    refine hK.out _ _ (fun h => ⟨⟨(HK7.out.cellOf ha0 id), (HK7.out.cellOf ha1 id), (HK7.out.cellOf ha2 id), (HK7.out.cellOf ha3 id), (HK7.out.cellOf ha4 id), (HK7.out.cellOf ha5 id), (HK7.out.cellOf ha6 id), (HK7.out.cellOf ha7 id), (HK7.out.cellOf ha8 id), (HK7.out.cellOf ha9 id), (HK7.out.cellOf ha10 id), (HK7.out.cellOf ha11 id), (HK7.out.cellOf ha12 id), (HK7.out.cellOf ha13 id), (HK7.out.cellOf ha14 id), (HK7.out.cellOf ha15 id)⟩, ⟨(HK7.out.cellOf hb0 id), (HK7.out.cellOf hb1 id), (HK7.out.cellOf hb2 id), (HK7.out.cellOf hb3 id), (HK7.out.cellOf hb4 id), (HK7.out.cellOf hb5 id), (HK7.out.cellOf hb6 id), (HK7.out.cellOf hb7 id), (HK7.out.cellOf hb8 id), (HK7.out.cellOf hb9 id), (HK7.out.cellOf hb10 id), (HK7.out.cellOf hb11 id), (HK7.out.cellOf hb12 id), (HK7.out.cellOf hb13 id), (HK7.out.cellOf hb14 id), (HK7.out.cellOf hb15 id)⟩⟩) ?_
    clear hK K hk1
    try simp only [Act.put, sA, s0, sS]
    refine wpAnyV_done (by kernel_rfl) ?_
    go_wp2
    go_roundw
    case rel => exact ⟨k + 1, by omega, by go_num, HK1⟩
    case measure => simp [intOf]; omega
   ·go_wp2
    go_ret
    exact ⟨rfl, HK.out⟩
theorem Tryz.infoFr : (Tryz.prog.info? 55).map (fun i => (i.zero, i.size, i.bytes)) = some (some (.agg #[.int .i64 0, .int .i64 0, .int .i64 0, .int .i64 0, .int .i64 0, .int .i64 0, .int .i64 0, .bool false, .slice none 0 0, .bool false, .slice none 0 0, .int .i64 0, .int .i64 0, .slice none 0 0, .slice none 0 0, .slice none 0 0]), 16, 208) := by kernel_rfl
section
variable {H : Type} {enc : TypeId × Value → H} {w : World} {base : Nat} {spare : Nat → Bool} {held : Bool}
def StLogFrame.isB (p : StLogFrame) : Prop := IsB p.record.before.data.bs ∧ IsB p.record.after.data.bs ∧ IsB p.record.image.bs
end
structure FrOK (qs : List StLogFrame) : Prop where
 len : qs.length ≤ 1048576
 each : ∀ p ∈ qs, p.szs ≤ 1048576
 sum : sizeFr qs ≤ 1048576
 isB : ∀ p ∈ qs, p.isB
theorem isB_fr {x y : StLogFrame} (h : y.dat = x.dat) (hx : x.isB) : y.isB := by
 simp only [StLogFrame.dat, StLogRecord.dat, StPageRecord.dat, Prod.mk.injEq] at h
 obtain ⟨_, _, _, _, _, _, _, ⟨_, h1⟩, ⟨_, h2⟩, _, _, _, _, h3⟩ := h
 unfold StLogFrame.isB at *
 rw [h1, h2, h3]
 exact hx
theorem FrOK.of {qs ps : List StLogFrame} (h : datFr qs = datFr ps) (hz : szsFr qs = szsFr ps) (hB : ∀ p ∈ ps, p.isB) (hl : ps.length ≤ 1048576) (hs : sizeFr ps ≤ 1048576) : FrOK qs := by
 have hlen : qs.length = ps.length := by rw [← datFr_length, ← datFr_length, h]
 have hsum := sizeFr_szs hz
 refine ⟨by omega, fun p hp => by have := sizeFr_mem qs p hp; omega, by omega, fun p hp => ?_⟩
 obtain ⟨k, hk, rfl⟩ := List.mem_iff_getElem.1 hp
 exact isB_fr (datFr_at h k hk (by omega)) (hB _ (List.getElem_mem (by omega)))
theorem eqScan_own (va vb : Value) (ps qs : List StLogFrame) (en : Int) (w : World) (hn : ps.length ≤ 1125899906842624) (hs : datFr ps = datFr qs) (hsm : ∀ p ∈ ps, p.size ≤ 1125899906842624) (ha : OwnFr w va ps) (hb : OwnFr w vb qs) :
  Calls Tryz.prog 8 #[.agg #[va, .int .i64 en], .agg #[vb, .int .i64 en]] w fun e w' => e = .returned (.bool true) ∧ Same w w' := by
 have ke := fun wx hk => eqLogFrameS_own va vb ps qs wx hn hs hsm (ha.same hk) (hb.same hk)
 obtain ⟨a1, c1, rfl⟩ := ha.rd.row.form
 obtain ⟨a2, c2, rfl⟩ := hb.rd.row.form
 have HK0 := hid ((sameA w [.slice a1 ps.length c1, .int .i64 en] 29).trans (sameA _ [.slice a2 qs.length c2, .int .i64 en] 29))
 have HA0 := hid (Blk.newA w [.slice a1 ps.length c1, .int .i64 en] 29 [.slice a2 qs.length c2, .int .i64 en] 29)
 have HB0 := hid (Blk.newB w [.slice a1 ps.length c1, .int .i64 en] 29 [.slice a2 qs.length c2, .int .i64 en] 29)
 obtain ⟨g0, g1⟩ := HA0.out.all2
 obtain ⟨g2, g3⟩ := HB0.out.all2
 clear ha hb hsm hs
 generalize ps.length = L at *
 generalize qs.length = M at *
 go_enter Tryz.func8, Tryz.ntmps8
 go_wp2_with fail
 refine (ke _ HK0.out).mono ?_
 rintro e w1 ⟨rfl, hk⟩
 have HK1 := hid (HK0.out.trans hk)
 have HA1 := hid (HA0.out.same hk)
 have HB1 := hid (HB0.out.same hk)
 clear hk ke g0 g1 g2 g3
 obtain ⟨g0, g1⟩ := HA1.out.all2
 obtain ⟨g2, g3⟩ := HB1.out.all2
 go_wp2
 go_ret
 exact ⟨rfl, HK1.out⟩
theorem markScan2_own (va : Value) (ps : List StLogFrame) (en k0 : Int) (w : World) (h0 : 0 ≤ k0) (h1 : k0 + mzFr ps ≤ 1125899906842624) (hn : ps.length ≤ 1125899906842624) (ha : OwnFr w va ps) :
  Calls Tryz.prog 11 #[.agg #[va, .int .i64 en], .int .i64 k0] w fun e w' => e = .returned (.int .i64 (k0 + mzFr ps)) ∧ MkFr w' va ps k0 ∧ Kept (footFr va ps) w w' := by
 have km := fun wx hk => markFrames_own va ps k0 wx h0 h1 hn (ha.same hk)
 obtain ⟨a, c, rfl⟩ := ha.rd.row.form
 have HK0 := hid (sameA w [.slice a ps.length c, .int .i64 en] 29)
 obtain ⟨g0, g1⟩ := (Blk.newL w [.slice a ps.length c, .int .i64 en] 29).all2
 clear ha
 generalize hL : ps.length = L at *
 clear hL
 go_enter Tryz.func11, Tryz.ntmps11
 go_wp2_with fail
 refine (km _ HK0.out).mono ?_
 rintro e w1 ⟨rfl, hm, hk⟩
 have HM := hid hm
 have HK1 := hid ((HK0.out.mono (fun _ _ e => absurd e id)).trans hk)
 clear hk km hm
 go_wp2
 go_ret
 exact ⟨rfl, HM.out, HK1.out⟩
theorem heldScan_own (va : Value) (ps : List StLogFrame) (en k0 : Int) (w : World) (h0 : 0 ≤ k0) (h1 : k0 + mzFr ps ≤ 1125899906842624) (hn : ps.length ≤ 1125899906842624) (ha : MkFr w va ps k0) :
  Calls Tryz.prog 12 #[.agg #[va, .int .i64 en], .int .i64 k0] w fun e w' => e = .returned (.int .i64 (k0 + mzFr ps)) ∧ Same w w' := by
 have km := fun wx hk => heldLogFrameS_own va ps k0 wx h0 h1 hn (ha.same hk)
 obtain ⟨a, c, rfl⟩ : ∃ a c, va = .slice a ps.length c := by
  have h := ha.own.rd.form
  rw [mkS_length] at h
  exact h
 have HK0 := hid (sameA w [.slice a ps.length c, .int .i64 en] 29)
 obtain ⟨g0, g1⟩ := (Blk.newL w [.slice a ps.length c, .int .i64 en] 29).all2
 have hz : 0 ≤ mzFr ps := mzFr_nonneg ps
 clear ha
 generalize hL : ps.length = L at *
 clear hL
 generalize mzFr ps = Z at *
 have hng : ¬ k0 + Z < 0 := by omega
 go_enter Tryz.func12, Tryz.ntmps12
 go_wp2_with fail
 refine (km _ HK0.out).mono ?_
 rintro e w1 ⟨rfl, hk⟩
 have HK1 := hid (HK0.out.trans hk)
 clear hk km
 go_wp2
 go_ret
 exact ⟨rfl, HK1.out⟩
def DiskB (dur : List Int) (ps : List PW) : Prop := IsB dur ∧ ∀ p ∈ ps, IsB p.bs
theorem DiskB.dat {dur : List Int} {ps qs : List PW} (h : DiskB dur ps) (hq : dataP qs = dataP ps) : DiskB dur qs := ⟨h.1, fun p hp => by
 have h1 : (p.sec, p.bs) ∈ dataP ps := by rw [← hq]; exact List.mem_map.2 ⟨p, hp, rfl⟩
 obtain ⟨p', hp', he⟩ := List.mem_map.1 h1
 have : p'.bs = p.bs := congrArg Prod.snd he
 rw [← this]
 exact h.2 p' hp'⟩
theorem RchN.ok {m fr : Int} {T : List Int} : ∀ {n : Nat} {a b : ScS}, RchN m n a b → ScOk T fr a → ScOk T fr b
 | 0, a, b, h, hk => by
  obtain rfl : a = b := h
  exact hk
 | n + 1, a, b, h, hk => RchN.ok h.2 (hk.next h.1)
theorem mzFr_le {qs : List StLogFrame} (h : ∀ p ∈ qs, p.size ≤ 140000) : mzFr qs ≤ 140011 * qs.length := by
 induction qs with
 | nil => simp [mzFr]
 | cons p qs ih =>
  have h1 := ih (fun q hq => h q (List.mem_cons_of_mem _ hq))
  have h2 := h p (List.mem_cons_self ..)
  simp only [mzFr, List.length_cons]
  push_cast
  omega
theorem scanA_small {dur : List Int} {ps : List PW} {s fr m en : Int} {qs : List StLogFrame} (hB : DiskB dur ps) (h : ScanA dur (dataP ps) s fr m (datFr qs) en) : qs.length ≤ 20000 ∧ (∀ p ∈ qs, p.size ≤ 140000) ∧ mzFr qs ≤ 3000000000 := by
 have key : qs.length ≤ 20000 ∧ ∀ p ∈ qs, p.size ≤ 140000 := by
  rcases h with ⟨_, hq, _⟩ | ⟨hok, n, t, hr, _, hq, _⟩
  ·have hl := congrArg List.length hq
   rw [datFr_length] at hl
   obtain rfl : qs = [] := List.length_eq_zero_iff.1 hl
   exact ⟨by simp, fun p hp => by simp at hp⟩
  ·have hds : ∀ p ∈ dataP ps, IsB p.2 := fun p hp => by
    obtain ⟨q, hq, rfl⟩ := List.mem_map.1 hp
    exact hB.2 q hq
   have hk := hr.ok (ScOk.start (scT_isB hB.1 hds))
   have hl := congrArg List.length hq
   rw [datFr_length] at hl
   have h1 := hk.cnt
   have h2 := scT_length hok
   refine ⟨by omega, fun p hp => ?_⟩
   have hm : p.dat ∈ t.frs := by rw [← hq]; exact List.mem_map_of_mem hp
   have hz := hk.sz _ hm
   unfold StLogFrame.size StLogRecord.size StPageRecord.size
   simp only [sizeD, StLogFrame.dat, StLogRecord.dat, StPageRecord.dat] at hz
   omega
 have h3 := mzFr_le key.2
 exact ⟨key.1, key.2, by have := key.1; omega⟩
theorem scanLog_law (dv0 pv0 : Value) (dur0 : List Int) (ps0 : List PW) (s1 : Int) (s2 : Int) (s3 : Int) (w : World) (hv0 : RdD w dv0 pv0 dur0 ps0) (hDB : DiskB dur0 ps0) :
  Calls Tryz.prog 3 #[.agg #[dv0, pv0], .int .i64 s1, .int .i64 s2, .int .i64 s3] w fun e w' => e = .returned (.bool true) ∧ Same w w' := by
 obtain ⟨a0a, c0a, rfl⟩ := hv0.dur.form
 obtain ⟨a0b, c0b, rfl⟩ := hv0.pend.form
 have HV0 := (show Hid (RdD w (.slice a0a dur0.length c0a) (.slice a0b ps0.length c0b) dur0 ps0) from hv0)
 clear hv0
 have HDB := hid hDB
 clear hDB
 go_enter Tryz.func3, Tryz.ntmps3
 have HKw : Hid (Same w w) := Kept.refl _ _
 go_wp2_with fail
 refine (szDisk_any _ _ dur0 ps0 _ _ (by omega) (by omega) (HV0.out.same ((Kept.refl _ _).alloc _))).mono ?_
 rintro e w1 ⟨sz0, rfl, hr, hk⟩
 have hkk : Same w w1 := ((Kept.refl _ _).alloc _).trans hk
 have hzw1 := hk.size
 rw [World.size_alloc] at hzw1
 have HA0w1 := (show Hid (Box w1 (w.heap.size) (.slice a0a dur0.length c0a) (.slice a0b ps0.length c0b)) from (Box.new _ _ _ _).same hk)
 have HKw1 := hid (HKw.out.trans hkk)
 clear hkk hk
 rcases hr with rfl | ⟨hr, hr0⟩
 ·go_wp2
  go_ret
  exact ⟨rfl, HKw1.out⟩
 have hd0 : dur0.length ≤ 1048576 := by omega
 have hp0 : ps0.length ≤ 1048576 := by omega
 have hsz0 : sizeP ps0 ≤ 1048576 := by omega
 have HS0 : Hid (∀ p ∈ ps0, p.bs.length ≤ 1048576) := fun p hp => by have := sizeP_mem ps0 p hp; omega
 have HT0 : Hid (∀ qs : List PW, dataP qs = dataP ps0 → qs.length ≤ 1073741824 ∧ ∀ p ∈ qs, p.bs.length ≤ 1099511627776) := fun qs hq => ⟨by rw [← dataP_length, hq, dataP_length]; omega, fun p hp => by have := sizeP_mem qs p hp; rw [dataP_sizeP hq] at this; omega⟩
 clear hr
 obtain ⟨A01, A02⟩ := HA0w1.out
 have lA0 := HA0w1.out.lt
 go_wp2_with fail
 refine (toDisk_any _ _ dur0 ps0 _ (by omega) (by omega) (fun p hp => Nat.le_trans (HS0.out p hp) (by omega)) (HV0.out.same HKw1.out)).mono ?_
 rintro e w2 ⟨gC0, gC0', qsC0, rfl, hq, hf, ho, hk⟩
 have HQC0 : Hid (dataP qsC0 = dataP ps0) := hq
 have HFC0 := (show Hid (∀ b, footD (.slice (some ⟨gC0, 0, none⟩) dur0.length dur0.length) (.slice (some ⟨gC0', 0, none⟩) ps0.length ps0.length) qsC0 b → w1.heap.size ≤ b ∧ b < w2.heap.size) from fun b hb => ⟨hf b hb, (ho.lt b hb).2⟩)
 have HC0w2 := (show Hid (OwnD 0 76 5 w2 (.slice (some ⟨gC0, 0, none⟩) dur0.length dur0.length) (.slice (some ⟨gC0', 0, none⟩) ps0.length ps0.length) dur0 qsC0) from ho)
 clear hf ho hq
 have hkk : Same w1 w2 := hk
 have hzw2 := hkk.size
 have HA0w2 := hid (HA0w1.out.same hkk)
 have HKw2 := hid (HKw1.out.trans hkk)
 clear hkk hk
 clear A01 A02 lA0
 obtain ⟨A01, A02⟩ := HA0w2.out
 have lA0 := HA0w2.out.lt
 go_wp2_with fail
 refine (specScan_any _ _ dur0 qsC0 s1 s2 s3 _ HDB.out.1 (HDB.out.dat HQC0.out).2 (by omega) (HC0w2.out.rd)).mono ?_
 rintro e w3 ⟨vW, Wq, en, rfl, hd, hf, ho, hk⟩
 obtain ⟨Wa, Wc, rfl⟩ := ho.rd.row.form
 rw [HQC0.out] at hd
 have HSW := hid (scanA_small HDB.out hd)
 have hnW := HSW.out.1
 have hnW2 := HSW.out.2.2
 have hnW0 := mzFr_nonneg Wq
 have HDW := hid hd
 have HFW := (show Hid (∀ b, footFr (.slice Wa Wq.length Wc) Wq b → w2.heap.size ≤ b ∧ b < w3.heap.size) from fun b hb => ⟨hf b hb, ho.lt b hb⟩)
 have HWw3 := (show Hid (OwnFr w3 (.slice Wa Wq.length Wc) Wq) from ho)
 clear hd hf ho
 have hkk : Same w2 w3 := hk
 have hzw3 := hkk.size
 have HA0w3 := hid (HA0w2.out.same hkk)
 have HC0w3 := hid (HC0w2.out.same hkk)
 have HKw3 := hid (HKw2.out.trans hkk)
 clear hkk hk
 clear A01 A02 lA0
 obtain ⟨A01, A02⟩ := HA0w3.out
 have lA0 := HA0w3.out.lt
 go_wp2_with fail
 refine (toDisk_any _ _ dur0 ps0 _ (by omega) (by omega) (fun p hp => Nat.le_trans (HS0.out p hp) (by omega)) (HV0.out.same (HKw3.out.alloc _))).mono ?_
 rintro e w4 ⟨gX0, gX0', qsX0, rfl, hq, hf, ho, hk⟩
 have HQX0 : Hid (dataP qsX0 = dataP ps0) := hq
 simp only [World.size_alloc] at hf
 have HFX0 := (show Hid (∀ b, footD (.slice (some ⟨gX0, 0, none⟩) dur0.length dur0.length) (.slice (some ⟨gX0', 0, none⟩) ps0.length ps0.length) qsX0 b → w3.heap.size < b ∧ b < w4.heap.size) from fun b hb => ⟨by have := hf b hb; omega, (ho.lt b hb).2⟩)
 have HX0w4 := (show Hid (OwnD 0 76 5 w4 (.slice (some ⟨gX0, 0, none⟩) dur0.length dur0.length) (.slice (some ⟨gX0', 0, none⟩) ps0.length ps0.length) dur0 qsX0) from ho)
 clear hf ho hq
 have hkk : Same w3 w4 := ((Kept.refl _ _).alloc _).trans hk
 have hzw4 := hk.size
 rw [World.size_alloc] at hzw4
 have HA0w4 := hid (HA0w3.out.same hkk)
 have HWw4 := hid (HWw3.out.same hkk)
 have HZw4 := (show Hid (Blk w4 (w3.heap.size) 29 [.slice Wa Wq.length Wc, .int .i64 en]) from (Blk.new w3 #[.slice Wa Wq.length Wc, .int .i64 en] 29).same hk)
 have HKw4 := hid (HKw3.out.trans hkk)
 clear hkk hk
 clear A01 A02 lA0
 obtain ⟨A01, A02⟩ := HA0w4.out
 have lA0 := HA0w4.out.lt
 have cZ_0 := HZw4.out.c0
 have cZ_1 := HZw4.out.c1
 have lZ := HZw4.out.lt
 go_wp2_with fail
 refine (implScan_any _ _ dur0 qsX0 s1 s2 s3 _ HDB.out.1 (HDB.out.dat HQX0.out).2 (by omega) (HX0w4.out.rd.same ((Kept.refl _ _).alloc _))).mono ?_
 rintro e w5 ⟨vG, Gq, enG, rfl, hd, hf, ho, hk⟩
 obtain ⟨Ga, Gc, rfl⟩ := ho.rd.row.form
 rw [HQX0.out] at hd
 have HSG := hid (scanA_small HDB.out hd)
 have hnG := HSG.out.1
 have hnG2 := HSG.out.2.2
 have hnG0 := mzFr_nonneg Gq
 have HDG := hid hd
 obtain ⟨hdd, hee⟩ := ScanA.one HDW.out HDG.out
 subst hee
 have HEG := (show Hid (datFr Gq = datFr Wq) from hdd.symm)
 clear hdd
 simp only [World.size_alloc] at hf
 have HFG := (show Hid (∀ b, footFr (.slice Ga Gq.length Gc) Gq b → w4.heap.size < b ∧ b < w5.heap.size) from fun b hb => ⟨by have := hf b hb; omega, ho.lt b hb⟩)
 have HGw5 := (show Hid (OwnFr w5 (.slice Ga Gq.length Gc) Gq) from ho)
 clear hd hf ho
 have hkk : Same w4 w5 := ((Kept.refl _ _).alloc _).trans hk
 have hzw5 := hk.size
 rw [World.size_alloc] at hzw5
 have HA0w5 := hid (HA0w4.out.same hkk)
 have HWw5 := hid (HWw4.out.same hkk)
 have HZw5 := hid (HZw4.out.same hkk)
 have HX0w5 := hid (HX0w4.out.same hkk)
 have HT0w5 := (show Hid (Box w5 (w4.heap.size) (.slice (some ⟨gX0, 0, none⟩) dur0.length dur0.length) (.slice (some ⟨gX0', 0, none⟩) ps0.length ps0.length)) from (Box.new _ _ _ _).same hk)
 have HKw5 := hid (HKw4.out.trans hkk)
 clear hkk hk
 clear A01 A02 lA0
 clear cZ_0 cZ_1 lZ
 obtain ⟨A01, A02⟩ := HA0w5.out
 have lA0 := HA0w5.out.lt
 obtain ⟨T01, T02⟩ := HT0w5.out
 have lT0 := HT0w5.out.lt
 have cZ_0 := HZw5.out.c0
 have cZ_1 := HZw5.out.c1
 have lZ := HZw5.out.lt
 go_wp2_with fail
 refine (eqScan_own _ _ Gq Wq en _ (by omega) HEG.out (fun p hp => by have := HSG.out.2.1 p hp; omega) (HGw5.out.same ((Kept.refl _ _).alloc _)) (HWw5.out.same ((Kept.refl _ _).alloc _))).mono ?_
 rintro e w6 ⟨rfl, hk⟩
 have hkk : Same w5 w6 := ((Kept.refl _ _).alloc _).trans hk
 have hzw6 := hk.size
 rw [World.size_alloc] at hzw6
 have HA0w6 := hid (HA0w5.out.same hkk)
 have HWw6 := hid (HWw5.out.same hkk)
 have HZw6 := hid (HZw5.out.same hkk)
 have HX0w6 := hid (HX0w5.out.same hkk)
 have HT0w6 := hid (HT0w5.out.same hkk)
 have HGw6 := hid (HGw5.out.same hkk)
 have HYw6 := (show Hid (Blk w6 (w5.heap.size) 29 [.slice Ga Gq.length Gc, .int .i64 en]) from (Blk.new w5 #[.slice Ga Gq.length Gc, .int .i64 en] 29).same hk)
 have HKw6 := hid (HKw5.out.trans hkk)
 clear hkk hk
 clear A01 A02 lA0 T01 T02 lT0
 clear cZ_0 cZ_1 lZ
 obtain ⟨A01, A02⟩ := HA0w6.out
 have lA0 := HA0w6.out.lt
 obtain ⟨T01, T02⟩ := HT0w6.out
 have lT0 := HT0w6.out.lt
 have cZ_0 := HZw6.out.c0
 have cZ_1 := HZw6.out.c1
 have lZ := HZw6.out.lt
 have cY_0 := HYw6.out.c0
 have cY_1 := HYw6.out.c1
 have lY := HYw6.out.lt
 go_wp2_with fail
 go_cut [43] (fun v wc => v = .bool false ∧ Hid (Same w6 wc))
 case first =>
  have HD1 : Hid (Same w w6.drew) := HKw6.out.drew
  have HD2 : Hid (Same w6 w6.drew) := (Kept.refl _ _).drew
  go_region_with (first | (go_at_call 6; refine (toDisk_any _ _ dur0 ps0 _ (by omega) (by omega) (fun p hp => Nat.le_trans (HS0.out p hp) (by omega)) (by exact HV0.out.same HD1.out)).mono ?_; rintro e wx7 ⟨g3, g3', qs7, rfl, hq3, hf3, ho3, hk7⟩; obtain ⟨y1, y2⟩ := HT0w6.out.same (HD2.out.trans hk7); have HO7 := (show Hid (OwnD 0 76 5 wx7 (.slice (some ⟨g3, 0, none⟩) dur0.length dur0.length) (.slice (some ⟨g3', 0, none⟩) ps0.length ps0.length) dur0 qs7) from ho3); have HQ7 : Hid (dataP qs7 = dataP ps0) := hq3; have HK7 : Hid (Same w6 wx7) := HD2.out.trans hk7; clear ho3 hq3 hf3 hk7) | (go_at_call 9; refine (eqDisk_own 0 _ _ _ _ dur0 qsX0 qs7 _ (by omega) (by have h := (HT0.out qsX0 HQX0.out).1; omega) (HQX0.out.trans HQ7.out.symm) (fun p hp => Nat.le_trans ((HT0.out qsX0 HQX0.out).2 p hp) (by omega)) (HX0w6.out.same HK7.out) HO7.out).mono ?_; rintro e wx8 ⟨rfl, hk8⟩))
  all_goals
   have HK8 : Hid (Same w6 wx8) := HK7.out.trans hk8
   clear hk8
   go_wp2_with fail
   go_meet
   case rel => exact ⟨rfl, HK8⟩
 case rest =>
 obtain ⟨rfl, HKC⟩ := hcut
 obtain ⟨w7, hwc⟩ : ∃ x, x = wc := ⟨_, rfl⟩
 subst hwc
 clear A01 A02 lA0 T01 T02 lT0
 clear cZ_0 cZ_1 lZ cY_0 cY_1 lY
 have hkk : Same w6 w7 := HKC.out
 have hzw7 := hkk.size
 have HA0w7 := hid (HA0w6.out.same hkk)
 have HWw7 := hid (HWw6.out.same hkk)
 have HZw7 := hid (HZw6.out.same hkk)
 have HX0w7 := hid (HX0w6.out.same hkk)
 have HT0w7 := hid (HT0w6.out.same hkk)
 have HGw7 := hid (HGw6.out.same hkk)
 have HYw7 := hid (HYw6.out.same hkk)
 have HKw7 := hid (HKw6.out.trans hkk)
 clear hkk
 have hE0 : (0 : Int) ≤ 1 := by omega
 have hE0b : (1 : Int) ≤ 1 := by omega
 have hqlX0 : qsX0.length = ps0.length := by rw [← dataP_length, HQX0.out, dataP_length]
 obtain ⟨E1, hE⟩ : ∃ E, endP (1 + (dur0.length : Int)) qsX0 = E := ⟨_, rfl⟩
 have hE1 : 0 ≤ E1 := by rw [← hE, endP_size]; omega
 have hE1b : E1 ≤ 5000001 := by rw [← hE, endP_size, dataP_sizeP HQX0.out]; omega
 have HE1 : Hid (endP (1 + (dur0.length : Int)) qsX0 = E1) := hE
 clear hE
 obtain ⟨A01, A02⟩ := HA0w7.out
 have lA0 := HA0w7.out.lt
 obtain ⟨T01, T02⟩ := HT0w7.out
 have lT0 := HT0w7.out.lt
 have cZ_0 := HZw7.out.c0
 have cZ_1 := HZw7.out.c1
 have lZ := HZw7.out.lt
 have cY_0 := HYw7.out.c0
 have cY_1 := HYw7.out.c1
 have lY := HYw7.out.lt
 go_wp2_with fail
 have hm := markDisk_own 0 (.slice (some ⟨gX0, 0, none⟩) dur0.length dur0.length) (.slice (some ⟨gX0', 0, none⟩) ps0.length ps0.length) dur0 qsX0 1 w7 (by omega) (by rw [HE1.out]; omega) (by omega) HX0w7.out
 rw [HE1.out] at hm
 refine hm.mono ?_
 clear hm
 rintro e w8 ⟨rfl, _, hk⟩
 have hzw8 := hk.size
 have HA0w8 := (show Hid (Box w8 (w.heap.size) (.slice a0a dur0.length c0a) (.slice a0b ps0.length c0b)) from HA0w7.out.kept hk (fun e => by have h1 := HFX0.out _ e; omega))
 have HWw8 := (show Hid (OwnFr w8 (.slice Wa Wq.length Wc) Wq) from HWw7.out.kept hk (fun b hb e => by have h1 := HFX0.out _ e; have h2 := HFW.out b hb; omega))
 have HZw8 := (show Hid (Blk w8 (w3.heap.size) 29 [.slice Wa Wq.length Wc, .int .i64 en]) from HZw7.out.kept hk (fun e => by have h1 := HFX0.out _ e; omega))
 have HT0w8 := (show Hid (Box w8 (w4.heap.size) (.slice (some ⟨gX0, 0, none⟩) dur0.length dur0.length) (.slice (some ⟨gX0', 0, none⟩) ps0.length ps0.length)) from HT0w7.out.kept hk (fun e => by have h1 := HFX0.out _ e; omega))
 have HGw8 := (show Hid (OwnFr w8 (.slice Ga Gq.length Gc) Gq) from HGw7.out.kept hk (fun b hb e => by have h1 := HFX0.out _ e; have h2 := HFG.out b hb; omega))
 have HYw8 := (show Hid (Blk w8 (w5.heap.size) 29 [.slice Ga Gq.length Gc, .int .i64 en]) from HYw7.out.kept hk (fun e => by have h1 := HFX0.out _ e; omega))
 have HKw8 := (show Hid (Same w w8) from HKw7.out.next hk (fun b hb e => by have h1 := HFX0.out _ e; omega))
 clear A01 A02 lA0 T01 T02 lT0
 clear cZ_0 cZ_1 lZ cY_0 cY_1 lY
 clear hk
 have hEn : ¬ E1 < 0 := by omega
 obtain ⟨A01, A02⟩ := HA0w8.out
 have lA0 := HA0w8.out.lt
 have cZ_0 := HZw8.out.c0
 have cZ_1 := HZw8.out.c1
 have lZ := HZw8.out.lt
 have cY_0 := HYw8.out.c0
 have cY_1 := HYw8.out.c1
 have lY := HYw8.out.lt
 go_wp2_with fail
 refine (eqScan_own _ _ Gq Wq en _ (by omega) HEG.out (fun p hp => by have := HSG.out.2.1 p hp; omega) HGw8.out HWw8.out).mono ?_
 rintro e w9 ⟨rfl, hk⟩
 have hkk : Same w8 w9 := hk
 have hzw9 := hkk.size
 have HA0w9 := hid (HA0w8.out.same hkk)
 have HWw9 := hid (HWw8.out.same hkk)
 have HZw9 := hid (HZw8.out.same hkk)
 have HGw9 := hid (HGw8.out.same hkk)
 have HYw9 := hid (HYw8.out.same hkk)
 have HKw9 := hid (HKw8.out.trans hkk)
 clear hkk hk
 clear A01 A02 lA0
 clear cZ_0 cZ_1 lZ cY_0 cY_1 lY
 have hM2 : ¬ (1 + mzFr Gq) < 0 := by omega
 obtain ⟨M, hM⟩ : ∃ M, 1 + mzFr Gq = M := ⟨_, rfl⟩
 have HM := (show Hid (1 + mzFr Gq = M) from hM)
 have hM3 : 0 ≤ M ∧ M ≤ 1125899906842624 := by omega
 rw [hM] at hM2
 clear hM
 obtain ⟨A01, A02⟩ := HA0w9.out
 have lA0 := HA0w9.out.lt
 have cZ_0 := HZw9.out.c0
 have cZ_1 := HZw9.out.c1
 have lZ := HZw9.out.lt
 have cY_0 := HYw9.out.c0
 have cY_1 := HYw9.out.c1
 have lY := HYw9.out.lt
 go_wp2_with fail
 have hm := markScan2_own (.slice Ga Gq.length Gc) Gq en 1 w9 (by omega) (by rw [HM.out]; omega) (by omega) HGw9.out
 rw [HM.out] at hm
 refine hm.mono ?_
 clear hm
 rintro e w10 ⟨rfl, ho, hk⟩
 have hzw10 := hk.size
 have HA0w10 := (show Hid (Box w10 (w.heap.size) (.slice a0a dur0.length c0a) (.slice a0b ps0.length c0b)) from HA0w9.out.kept hk (fun e => by have h1 := HFG.out _ e; omega))
 have HWw10 := (show Hid (OwnFr w10 (.slice Wa Wq.length Wc) Wq) from HWw9.out.kept hk (fun b hb e => by have h1 := HFG.out _ e; have h2 := HFW.out b hb; omega))
 have HZw10 := (show Hid (Blk w10 (w3.heap.size) 29 [.slice Wa Wq.length Wc, .int .i64 en]) from HZw9.out.kept hk (fun e => by have h1 := HFG.out _ e; omega))
 have HYw10 := (show Hid (Blk w10 (w5.heap.size) 29 [.slice Ga Gq.length Gc, .int .i64 en]) from HYw9.out.kept hk (fun e => by have h1 := HFG.out _ e; omega))
 have HKw10 := (show Hid (Same w w10) from HKw9.out.next hk (fun b hb e => by have h1 := HFG.out _ e; omega))
 have HUw10 := (show Hid (MkFr w10 (.slice Ga Gq.length Gc) Gq 1) from ho)
 clear A01 A02 lA0
 clear cZ_0 cZ_1 lZ cY_0 cY_1 lY
 clear hk ho
 obtain ⟨A01, A02⟩ := HA0w10.out
 have lA0 := HA0w10.out.lt
 have cZ_0 := HZw10.out.c0
 have cZ_1 := HZw10.out.c1
 have lZ := HZw10.out.lt
 have cY_0 := HYw10.out.c0
 have cY_1 := HYw10.out.c1
 have lY := HYw10.out.lt
 go_wp2_with fail
 have hm := heldScan_own (.slice Ga Gq.length Gc) Gq en 1 w10 (by omega) (by rw [HM.out]; omega) (by omega) HUw10.out
 rw [HM.out] at hm
 refine hm.mono ?_
 clear hm
 rintro e w11 ⟨rfl, hk⟩
 have hkk : Same w10 w11 := hk
 have hzw11 := hkk.size
 have HA0w11 := hid (HA0w10.out.same hkk)
 have HWw11 := hid (HWw10.out.same hkk)
 have HZw11 := hid (HZw10.out.same hkk)
 have HYw11 := hid (HYw10.out.same hkk)
 have HUw11 := hid (HUw10.out.same hkk)
 have HKw11 := hid (HKw10.out.trans hkk)
 clear hkk hk
 clear A01 A02 lA0
 clear cZ_0 cZ_1 lZ cY_0 cY_1 lY
 obtain ⟨A01, A02⟩ := HA0w11.out
 have lA0 := HA0w11.out.lt
 have cZ_0 := HZw11.out.c0
 have cZ_1 := HZw11.out.c1
 have lZ := HZw11.out.lt
 have cY_0 := HYw11.out.c0
 have cY_1 := HYw11.out.c1
 have lY := HYw11.out.lt
 go_wp2_with fail
 refine (toDisk_any _ _ dur0 ps0 _ (by omega) (by omega) (fun p hp => Nat.le_trans (HS0.out p hp) (by omega)) (HV0.out.same HKw11.out)).mono ?_
 rintro e w12 ⟨gJ0, gJ0', qsJ0, rfl, hq, hf, ho, hk⟩
 have HQJ0 : Hid (dataP qsJ0 = dataP ps0) := hq
 have HFJ0 := (show Hid (∀ b, footD (.slice (some ⟨gJ0, 0, none⟩) dur0.length dur0.length) (.slice (some ⟨gJ0', 0, none⟩) ps0.length ps0.length) qsJ0 b → w11.heap.size ≤ b ∧ b < w12.heap.size) from fun b hb => ⟨hf b hb, (ho.lt b hb).2⟩)
 have HJ0w12 := (show Hid (OwnD 0 76 5 w12 (.slice (some ⟨gJ0, 0, none⟩) dur0.length dur0.length) (.slice (some ⟨gJ0', 0, none⟩) ps0.length ps0.length) dur0 qsJ0) from ho)
 clear hf ho hq
 have hkk : Same w11 w12 := hk
 have hzw12 := hkk.size
 have HA0w12 := hid (HA0w11.out.same hkk)
 have HWw12 := hid (HWw11.out.same hkk)
 have HZw12 := hid (HZw11.out.same hkk)
 have HYw12 := hid (HYw11.out.same hkk)
 have HUw12 := hid (HUw11.out.same hkk)
 have HKw12 := hid (HKw11.out.trans hkk)
 clear hkk hk
 clear A01 A02 lA0
 clear cZ_0 cZ_1 lZ cY_0 cY_1 lY
 obtain ⟨A01, A02⟩ := HA0w12.out
 have lA0 := HA0w12.out.lt
 have cZ_0 := HZw12.out.c0
 have cZ_1 := HZw12.out.c1
 have lZ := HZw12.out.lt
 have cY_0 := HYw12.out.c0
 have cY_1 := HYw12.out.c1
 have lY := HYw12.out.lt
 go_wp2_with fail
 refine (implScan_any _ _ dur0 qsJ0 s1 s2 s3 _ HDB.out.1 (HDB.out.dat HQJ0.out).2 (by omega) (HJ0w12.out.rd)).mono ?_
 rintro e w13 ⟨vL, Lq, enL, rfl, hd, hf, ho, hk⟩
 obtain ⟨La, Lc, rfl⟩ := ho.rd.row.form
 rw [HQJ0.out] at hd
 have HSL := hid (scanA_small HDB.out hd)
 have hnL := HSL.out.1
 have hnL2 := HSL.out.2.2
 have hnL0 := mzFr_nonneg Lq
 have HDL := hid hd
 obtain ⟨hdd, hee⟩ := ScanA.one HDW.out HDL.out
 subst hee
 have HEL := (show Hid (datFr Lq = datFr Wq) from hdd.symm)
 clear hdd
 have HFL := (show Hid (∀ b, footFr (.slice La Lq.length Lc) Lq b → w12.heap.size ≤ b ∧ b < w13.heap.size) from fun b hb => ⟨hf b hb, ho.lt b hb⟩)
 have HLw13 := (show Hid (OwnFr w13 (.slice La Lq.length Lc) Lq) from ho)
 clear hd hf ho
 have hkk : Same w12 w13 := hk
 have hzw13 := hkk.size
 have HA0w13 := hid (HA0w12.out.same hkk)
 have HWw13 := hid (HWw12.out.same hkk)
 have HZw13 := hid (HZw12.out.same hkk)
 have HYw13 := hid (HYw12.out.same hkk)
 have HUw13 := hid (HUw12.out.same hkk)
 have HJ0w13 := hid (HJ0w12.out.same hkk)
 have HKw13 := hid (HKw12.out.trans hkk)
 clear hkk hk
 clear A01 A02 lA0
 clear cZ_0 cZ_1 lZ cY_0 cY_1 lY
 obtain ⟨A01, A02⟩ := HA0w13.out
 have lA0 := HA0w13.out.lt
 have cZ_0 := HZw13.out.c0
 have cZ_1 := HZw13.out.c1
 have lZ := HZw13.out.lt
 have cY_0 := HYw13.out.c0
 have cY_1 := HYw13.out.c1
 have lY := HYw13.out.lt
 go_wp2_with fail
 refine (eqScan_own _ _ Lq Wq en _ (by omega) HEL.out (fun p hp => by have := HSL.out.2.1 p hp; omega) (HLw13.out.same ((Kept.refl _ _).alloc _)) (HWw13.out.same ((Kept.refl _ _).alloc _))).mono ?_
 rintro e w14 ⟨rfl, hk⟩
 have hkk : Same w13 w14 := ((Kept.refl _ _).alloc _).trans hk
 have hzw14 := hk.size
 rw [World.size_alloc] at hzw14
 have HA0w14 := hid (HA0w13.out.same hkk)
 have HWw14 := hid (HWw13.out.same hkk)
 have HZw14 := hid (HZw13.out.same hkk)
 have HYw14 := hid (HYw13.out.same hkk)
 have HUw14 := hid (HUw13.out.same hkk)
 have HLw14 := hid (HLw13.out.same hkk)
 have HVw14 := (show Hid (Blk w14 (w13.heap.size) 29 [.slice La Lq.length Lc, .int .i64 en]) from (Blk.new w13 #[.slice La Lq.length Lc, .int .i64 en] 29).same hk)
 have HKw14 := hid (HKw13.out.trans hkk)
 clear hkk hk
 clear A01 A02 lA0
 clear cZ_0 cZ_1 lZ cY_0 cY_1 lY
 obtain ⟨A01, A02⟩ := HA0w14.out
 have lA0 := HA0w14.out.lt
 have cY_0 := HYw14.out.c0
 have cY_1 := HYw14.out.c1
 have lY := HYw14.out.lt
 go_wp2_with fail
 have hm := heldScan_own (.slice Ga Gq.length Gc) Gq en 1 w14 (by omega) (by rw [HM.out]; omega) (by omega) HUw14.out
 rw [HM.out] at hm
 refine hm.mono ?_
 clear hm
 rintro e w15 ⟨rfl, hk⟩
 have hkk : Same w14 w15 := hk
 have hzw15 := hkk.size
 have HA0w15 := hid (HA0w14.out.same hkk)
 have HYw15 := hid (HYw14.out.same hkk)
 have HUw15 := hid (HUw14.out.same hkk)
 have HKw15 := hid (HKw14.out.trans hkk)
 clear hkk hk
 clear A01 A02 lA0
 clear cY_0 cY_1 lY
 go_wp2
 go_ret
 exact ⟨rfl, HKw15.out⟩
end Go.Proofs.YtaojjcnmififoaaGreat
