import Derived.Test.YtaojjcnmififoaaGreatG31
import Derived.Test.YtaojjcnmififoaaGreatG08
import Derived.Test.YtaojjcnmififoaaGreatG00
import Derived.Test.YtaojjcnmififoaaGreatG41
import Derived.Test.YtaojjcnmififoaaGreatG42
import Derived.Test.YtaojjcnmififoaaGreatG30
import Derived.Test.YtaojjcnmififoaaGreatG35
import Derived.Test.YtaojjcnmififoaaGreatG29
import Derived.Deep.RegionWith
import Derived.Deep.DeepMust
import Derived.Deep.DeepCutAuto
import Derived.Deep.MidRow
namespace Go.Proofs.YtaojjcnmififoaaGreat
set_option maxRecDepth 100000
set_option maxHeartbeats 8000000
set_option linter.unusedVariables false
set_option linter.unusedSimpArgs false
open Go Go.RowKit Go.ChangeShapes Go.WideShapes Go.ChangeAt
theorem eqLogFrameS_own (va vb : Value) (ps qs : List StLogFrame) (w : World) (hn : ps.length ≤ 1125899906842624) (hs : datFr ps = datFr qs) (hsm : ∀ p ∈ ps, p.size ≤ 1125899906842624)
  (ha : OwnFr w va ps) (hb : OwnFr w vb qs) :
  Calls Tryz.prog 27 #[va, vb] w fun e w' => e = .returned (.bool true) ∧ Same w w' := by
 have hlen : qs.length = ps.length := by rw [← datFr_length, ← datFr_length, hs]
 by_cases hz : ps.length = 0
 ·obtain rfl : ps = [] := List.length_eq_zero_iff.1 hz
  obtain rfl : qs = [] := List.length_eq_zero_iff.1 hlen
  obtain ⟨aa, ca, rfl⟩ : ∃ aa ca, va = .slice aa 0 ca := by rcases ha.own.form with ⟨rfl, _⟩ | ⟨g, cap, rfl, _⟩ <;> exact ⟨_, _, rfl⟩
  obtain ⟨ab, cb, rfl⟩ : ∃ aa ca, vb = .slice aa 0 ca := by rcases hb.own.form with ⟨rfl, _⟩ | ⟨g, cap, rfl, _⟩ <;> exact ⟨_, _, rfl⟩
  clear ha hb hn hz hs
  go_enter Tryz.func27, Tryz.ntmps27
  go_wp2
  refine wp_loop_rounds 1 ?_
  rw [rounds_succ]
  go_wp2
  go_ret
  exact ⟨rfl, Kept.refl _ _⟩
 ·obtain ⟨ga, ca, rfl⟩ : ∃ g cap, va = .slice (some ⟨g, 0, none⟩) ps.length cap := by
   rcases ha.own.form with ⟨_, h⟩ | ⟨g, cap, h, _⟩
   ·simp [h] at hz
   ·exact ⟨g, cap, h⟩
  obtain ⟨gb, cb, rfl⟩ : ∃ g cap, vb = .slice (some ⟨g, 0, none⟩) ps.length cap := by
   rcases hb.own.form with ⟨_, h⟩ | ⟨g, cap, h, _⟩
   ·simp [h] at hlen; omega
   ·exact ⟨g, cap, by rw [h, hlen]⟩
  have HA := hid ha
  have HB := hid hb
  have HQ : Hid (qs.length = ps.length) := hlen
  have HS : Hid (datFr ps = datFr qs) := hs
  have HM : Hid (∀ p ∈ ps, p.size ≤ 1125899906842624) := hsm
  clear ha hb hs hlen hsm
  generalize hl : ps.length = len at hn hz HA HB ⊢
  have HL : Hid (ps.length = len) := hl
  clear hl
  go_enter Tryz.func27, Tryz.ntmps27
  go_wp2
  go_loopw [5] (fun i wr => ∃ (k : Nat), k ≤ len ∧ i = .int .i64 k ∧ Hid (Same w wr)) (fun i _ => len - (intOf i).toNat)
  case atStart => exact ⟨0, Nat.zero_le _, rfl, Kept.refl _ _⟩
  case round =>
   obtain ⟨k, hk, rfl, HK⟩ := hrel
   by_cases hlt : k < len
   ·have hlp : k < ps.length := by rw [HL.out]; exact hlt
    have hlq : k < qs.length := by rw [HQ.out]; exact hlp
    have hoa := (HA.out.same HK.out).own
    have hob := (HB.out.same HK.out).own
    have hdd := datFr_at HS.out k hlp hlq
    have s3 := HM.out _ (List.getElem_mem hlp)
    have hra := (HA.out.same HK.out).rows.mem _ (List.getElem_mem hlp)
    have hrb := (HB.out.same HK.out).rows.mem _ (List.getElem_mem hlq)
    obtain ⟨P, hP⟩ : ∃ P, ps[k] = P := ⟨_, rfl⟩
    obtain ⟨Q, hQ⟩ : ∃ Q, qs[k] = Q := ⟨_, rfl⟩
    rw [hP] at hdd s3 hra
    rw [hQ] at hdd hrb
    have ha0 : wr.cell? ⟨ga, k * 16, none⟩ = some (.int .i64 P.lsn) := by have h := hoa.cell HL.out.symm k 0 hlp (by decide); rw [hP] at h; exact h
    have ha1 : wr.cell? ⟨ga, k * 16 + 1, none⟩ = some (.int .i64 P.epoch) := by have h := hoa.cell HL.out.symm k 1 hlp (by decide); rw [hP] at h; exact h
    have ha2 : wr.cell? ⟨ga, k * 16 + 2, none⟩ = some (.int .i64 P.record.kind) := by have h := hoa.cell HL.out.symm k 2 hlp (by decide); rw [hP] at h; exact h
    have ha3 : wr.cell? ⟨ga, k * 16 + 3, none⟩ = some (.int .i64 P.record.txn) := by have h := hoa.cell HL.out.symm k 3 hlp (by decide); rw [hP] at h; exact h
    have ha4 : wr.cell? ⟨ga, k * 16 + 4, none⟩ = some (.int .i64 P.record.prev) := by have h := hoa.cell HL.out.symm k 4 hlp (by decide); rw [hP] at h; exact h
    have ha5 : wr.cell? ⟨ga, k * 16 + 5, none⟩ = some (.int .i64 P.record.page) := by have h := hoa.cell HL.out.symm k 5 hlp (by decide); rw [hP] at h; exact h
    have ha6 : wr.cell? ⟨ga, k * 16 + 6, none⟩ = some (.int .i64 P.record.slot) := by have h := hoa.cell HL.out.symm k 6 hlp (by decide); rw [hP] at h; exact h
    have ha7 : wr.cell? ⟨ga, k * 16 + 7, none⟩ = some (.bool P.record.before.used) := by have h := hoa.cell HL.out.symm k 7 hlp (by decide); rw [hP] at h; exact h
    have ha8 : wr.cell? ⟨ga, k * 16 + 8, none⟩ = some (P.record.before.data.v) := by have h := hoa.cell HL.out.symm k 8 hlp (by decide); rw [hP] at h; exact h
    have ha9 : wr.cell? ⟨ga, k * 16 + 9, none⟩ = some (.bool P.record.after.used) := by have h := hoa.cell HL.out.symm k 9 hlp (by decide); rw [hP] at h; exact h
    have ha10 : wr.cell? ⟨ga, k * 16 + 10, none⟩ = some (P.record.after.data.v) := by have h := hoa.cell HL.out.symm k 10 hlp (by decide); rw [hP] at h; exact h
    have ha11 : wr.cell? ⟨ga, k * 16 + 11, none⟩ = some (.int .i64 P.record.uN) := by have h := hoa.cell HL.out.symm k 11 hlp (by decide); rw [hP] at h; exact h
    have ha12 : wr.cell? ⟨ga, k * 16 + 12, none⟩ = some (.int .i64 P.record.nT) := by have h := hoa.cell HL.out.symm k 12 hlp (by decide); rw [hP] at h; exact h
    have ha13 : wr.cell? ⟨ga, k * 16 + 13, none⟩ = some (P.record.txns.v) := by have h := hoa.cell HL.out.symm k 13 hlp (by decide); rw [hP] at h; exact h
    have ha14 : wr.cell? ⟨ga, k * 16 + 14, none⟩ = some (P.record.dirty.v) := by have h := hoa.cell HL.out.symm k 14 hlp (by decide); rw [hP] at h; exact h
    have ha15 : wr.cell? ⟨ga, k * 16 + 15, none⟩ = some (P.record.image.v) := by have h := hoa.cell HL.out.symm k 15 hlp (by decide); rw [hP] at h; exact h
    have hb0 : wr.cell? ⟨gb, k * 16, none⟩ = some (.int .i64 Q.lsn) := by have h := hob.cell (by rw [HQ.out, HL.out]) k 0 hlq (by decide); rw [hQ] at h; exact h
    have hb1 : wr.cell? ⟨gb, k * 16 + 1, none⟩ = some (.int .i64 Q.epoch) := by have h := hob.cell (by rw [HQ.out, HL.out]) k 1 hlq (by decide); rw [hQ] at h; exact h
    have hb2 : wr.cell? ⟨gb, k * 16 + 2, none⟩ = some (.int .i64 Q.record.kind) := by have h := hob.cell (by rw [HQ.out, HL.out]) k 2 hlq (by decide); rw [hQ] at h; exact h
    have hb3 : wr.cell? ⟨gb, k * 16 + 3, none⟩ = some (.int .i64 Q.record.txn) := by have h := hob.cell (by rw [HQ.out, HL.out]) k 3 hlq (by decide); rw [hQ] at h; exact h
    have hb4 : wr.cell? ⟨gb, k * 16 + 4, none⟩ = some (.int .i64 Q.record.prev) := by have h := hob.cell (by rw [HQ.out, HL.out]) k 4 hlq (by decide); rw [hQ] at h; exact h
    have hb5 : wr.cell? ⟨gb, k * 16 + 5, none⟩ = some (.int .i64 Q.record.page) := by have h := hob.cell (by rw [HQ.out, HL.out]) k 5 hlq (by decide); rw [hQ] at h; exact h
    have hb6 : wr.cell? ⟨gb, k * 16 + 6, none⟩ = some (.int .i64 Q.record.slot) := by have h := hob.cell (by rw [HQ.out, HL.out]) k 6 hlq (by decide); rw [hQ] at h; exact h
    have hb7 : wr.cell? ⟨gb, k * 16 + 7, none⟩ = some (.bool Q.record.before.used) := by have h := hob.cell (by rw [HQ.out, HL.out]) k 7 hlq (by decide); rw [hQ] at h; exact h
    have hb8 : wr.cell? ⟨gb, k * 16 + 8, none⟩ = some (Q.record.before.data.v) := by have h := hob.cell (by rw [HQ.out, HL.out]) k 8 hlq (by decide); rw [hQ] at h; exact h
    have hb9 : wr.cell? ⟨gb, k * 16 + 9, none⟩ = some (.bool Q.record.after.used) := by have h := hob.cell (by rw [HQ.out, HL.out]) k 9 hlq (by decide); rw [hQ] at h; exact h
    have hb10 : wr.cell? ⟨gb, k * 16 + 10, none⟩ = some (Q.record.after.data.v) := by have h := hob.cell (by rw [HQ.out, HL.out]) k 10 hlq (by decide); rw [hQ] at h; exact h
    have hb11 : wr.cell? ⟨gb, k * 16 + 11, none⟩ = some (.int .i64 Q.record.uN) := by have h := hob.cell (by rw [HQ.out, HL.out]) k 11 hlq (by decide); rw [hQ] at h; exact h
    have hb12 : wr.cell? ⟨gb, k * 16 + 12, none⟩ = some (.int .i64 Q.record.nT) := by have h := hob.cell (by rw [HQ.out, HL.out]) k 12 hlq (by decide); rw [hQ] at h; exact h
    have hb13 : wr.cell? ⟨gb, k * 16 + 13, none⟩ = some (Q.record.txns.v) := by have h := hob.cell (by rw [HQ.out, HL.out]) k 13 hlq (by decide); rw [hQ] at h; exact h
    have hb14 : wr.cell? ⟨gb, k * 16 + 14, none⟩ = some (Q.record.dirty.v) := by have h := hob.cell (by rw [HQ.out, HL.out]) k 14 hlq (by decide); rw [hQ] at h; exact h
    have hb15 : wr.cell? ⟨gb, k * 16 + 15, none⟩ = some (Q.record.image.v) := by have h := hob.cell (by rw [HQ.out, HL.out]) k 15 hlq (by decide); rw [hQ] at h; exact h
    have HD := hid hdd
    have HS3 := hid s3
    have HDA := hid hra
    have HDB := hid hrb
    clear hoa hob hdd hra hrb s3 hP hQ
    go_wp2_with fail
    let Y1 : World → Prop := fun wx : World => (wx.cell? ⟨ga, k * 16, none⟩ = some (.int .i64 P.lsn) ∧ wx.cell? ⟨ga, k * 16 + 1, none⟩ = some (.int .i64 P.epoch) ∧ wx.cell? ⟨ga, k * 16 + 2, none⟩ = some (.int .i64 P.record.kind) ∧ wx.cell? ⟨ga, k * 16 + 3, none⟩ = some (.int .i64 P.record.txn) ∧ wx.cell? ⟨ga, k * 16 + 4, none⟩ = some (.int .i64 P.record.prev) ∧ wx.cell? ⟨ga, k * 16 + 5, none⟩ = some (.int .i64 P.record.page) ∧ wx.cell? ⟨ga, k * 16 + 6, none⟩ = some (.int .i64 P.record.slot) ∧ wx.cell? ⟨ga, k * 16 + 7, none⟩ = some (.bool P.record.before.used) ∧ wx.cell? ⟨ga, k * 16 + 8, none⟩ = some (P.record.before.data.v) ∧ wx.cell? ⟨ga, k * 16 + 9, none⟩ = some (.bool P.record.after.used) ∧ wx.cell? ⟨ga, k * 16 + 10, none⟩ = some (P.record.after.data.v) ∧ wx.cell? ⟨ga, k * 16 + 11, none⟩ = some (.int .i64 P.record.uN) ∧ wx.cell? ⟨ga, k * 16 + 12, none⟩ = some (.int .i64 P.record.nT) ∧ wx.cell? ⟨ga, k * 16 + 13, none⟩ = some (P.record.txns.v) ∧ wx.cell? ⟨ga, k * 16 + 14, none⟩ = some (P.record.dirty.v) ∧ wx.cell? ⟨ga, k * 16 + 15, none⟩ = some (P.record.image.v)) ∧ (wx.cell? ⟨gb, k * 16, none⟩ = some (.int .i64 Q.lsn) ∧ wx.cell? ⟨gb, k * 16 + 1, none⟩ = some (.int .i64 Q.epoch) ∧ wx.cell? ⟨gb, k * 16 + 2, none⟩ = some (.int .i64 Q.record.kind) ∧ wx.cell? ⟨gb, k * 16 + 3, none⟩ = some (.int .i64 Q.record.txn) ∧ wx.cell? ⟨gb, k * 16 + 4, none⟩ = some (.int .i64 Q.record.prev) ∧ wx.cell? ⟨gb, k * 16 + 5, none⟩ = some (.int .i64 Q.record.page) ∧ wx.cell? ⟨gb, k * 16 + 6, none⟩ = some (.int .i64 Q.record.slot) ∧ wx.cell? ⟨gb, k * 16 + 7, none⟩ = some (.bool Q.record.before.used) ∧ wx.cell? ⟨gb, k * 16 + 8, none⟩ = some (Q.record.before.data.v) ∧ wx.cell? ⟨gb, k * 16 + 9, none⟩ = some (.bool Q.record.after.used) ∧ wx.cell? ⟨gb, k * 16 + 10, none⟩ = some (Q.record.after.data.v) ∧ wx.cell? ⟨gb, k * 16 + 11, none⟩ = some (.int .i64 Q.record.uN) ∧ wx.cell? ⟨gb, k * 16 + 12, none⟩ = some (.int .i64 Q.record.nT) ∧ wx.cell? ⟨gb, k * 16 + 13, none⟩ = some (Q.record.txns.v) ∧ wx.cell? ⟨gb, k * 16 + 14, none⟩ = some (Q.record.dirty.v) ∧ wx.cell? ⟨gb, k * 16 + 15, none⟩ = some (Q.record.image.v))
    have hS : Y1 wr.drew := ⟨⟨ha0, ha1, ha2, ha3, ha4, ha5, ha6, ha7, ha8, ha9, ha10, ha11, ha12, ha13, ha14, ha15⟩, ⟨hb0, hb1, hb2, hb3, hb4, hb5, hb6, hb7, hb8, hb9, hb10, hb11, hb12, hb13, hb14, hb15⟩⟩
    refine wp_region_V Y1 99 10 rfl (by kernel_rfl) ?_
    refine tk 0 17 hS ?_
    refine tk 1 18 hS ?_
    refine tkV 2 19 (.pointer (some ⟨ga, k * 16, none⟩)) hS ?_
    refine tk 3 20 hS ?_
    refine tk 4 21 hS ?_
    refine tk 5 22 hS ?_
    refine tkV 6 23 (.pointer (some ⟨gb, k * 16, none⟩)) hS ?_
    refine tk 7 24 hS ?_
    refine wpAnyV_one (i := 8) (by kernel_rfl) rfl (fun K hK => ?_)
    go_simp
    refine (eqLogFrame_own P Q _ HS3.out HD.out (HDA.out.same (Kept.refl _ _).drew) (HDB.out.same (Kept.refl _ _).drew)).mono ?_
    rintro e w1 ⟨rfl, hk1⟩
    have HK1 : Hid (Same w w1) := HK.out.drew.trans hk1
    have HK7 : Hid (Same wr w1) := (Kept.refl _ _).drew.trans hk1
    refine hK.out _ _ (fun _ => ⟨⟨(HK7.out.cellOf ha0 id), (HK7.out.cellOf ha1 id), (HK7.out.cellOf ha2 id), (HK7.out.cellOf ha3 id), (HK7.out.cellOf ha4 id), (HK7.out.cellOf ha5 id), (HK7.out.cellOf ha6 id), (HK7.out.cellOf ha7 id), (HK7.out.cellOf ha8 id), (HK7.out.cellOf ha9 id), (HK7.out.cellOf ha10 id), (HK7.out.cellOf ha11 id), (HK7.out.cellOf ha12 id), (HK7.out.cellOf ha13 id), (HK7.out.cellOf ha14 id), (HK7.out.cellOf ha15 id)⟩, ⟨(HK7.out.cellOf hb0 id), (HK7.out.cellOf hb1 id), (HK7.out.cellOf hb2 id), (HK7.out.cellOf hb3 id), (HK7.out.cellOf hb4 id), (HK7.out.cellOf hb5 id), (HK7.out.cellOf hb6 id), (HK7.out.cellOf hb7 id), (HK7.out.cellOf hb8 id), (HK7.out.cellOf hb9 id), (HK7.out.cellOf hb10 id), (HK7.out.cellOf hb11 id), (HK7.out.cellOf hb12 id), (HK7.out.cellOf hb13 id), (HK7.out.cellOf hb14 id), (HK7.out.cellOf hb15 id)⟩⟩) ?_
    clear hK K
    try simp only [Act.put, sA, s0, sS]
    refine wpAnyV_one (i := 9) (by kernel_rfl) rfl (fun K hK => ?_)
    go_simp
    refine hK.out _ _ (fun h => ⟨⟨(HK7.out.cellOf ha0 id), (HK7.out.cellOf ha1 id), (HK7.out.cellOf ha2 id), (HK7.out.cellOf ha3 id), (HK7.out.cellOf ha4 id), (HK7.out.cellOf ha5 id), (HK7.out.cellOf ha6 id), (HK7.out.cellOf ha7 id), (HK7.out.cellOf ha8 id), (HK7.out.cellOf ha9 id), (HK7.out.cellOf ha10 id), (HK7.out.cellOf ha11 id), (HK7.out.cellOf ha12 id), (HK7.out.cellOf ha13 id), (HK7.out.cellOf ha14 id), (HK7.out.cellOf ha15 id)⟩, ⟨(HK7.out.cellOf hb0 id), (HK7.out.cellOf hb1 id), (HK7.out.cellOf hb2 id), (HK7.out.cellOf hb3 id), (HK7.out.cellOf hb4 id), (HK7.out.cellOf hb5 id), (HK7.out.cellOf hb6 id), (HK7.out.cellOf hb7 id), (HK7.out.cellOf hb8 id), (HK7.out.cellOf hb9 id), (HK7.out.cellOf hb10 id), (HK7.out.cellOf hb11 id), (HK7.out.cellOf hb12 id), (HK7.out.cellOf hb13 id), (HK7.out.cellOf hb14 id), (HK7.out.cellOf hb15 id)⟩⟩) ?_
    clear hK K hk1
    try simp only [Act.put, sA, s0, sS]
    refine wpAnyV_done (by kernel_rfl) ?_
    go_wp2
    go_roundw
    case rel => exact ⟨k + 1, by omega, by go_num, HK1⟩
    case measure => simp [intOf]; omega
   ·go_wp2
    go_ret
    exact ⟨rfl, HK.out⟩
theorem Tryz.infoFr : (Tryz.prog.info? 55).map (fun i => (i.zero, i.size, i.bytes)) = some (some (.agg #[.int .i64 0, .int .i64 0, .int .i64 0, .int .i64 0, .int .i64 0, .int .i64 0, .int .i64 0, .bool false, .slice none 0 0, .bool false, .slice none 0 0, .int .i64 0, .int .i64 0, .slice none 0 0, .slice none 0 0, .slice none 0 0]), 16, 208) := by kernel_rfl
section
variable {H : Type} {enc : TypeId × Value → H} {w : World} {base : Nat} {spare : Nat → Bool} {held : Bool}
def StLogFrame.isB (p : StLogFrame) : Prop := IsB p.record.before.data.bs ∧ IsB p.record.after.data.bs ∧ IsB p.record.image.bs
end
structure FrOK (qs : List StLogFrame) : Prop where
 len : qs.length ≤ 1048576
 each : ∀ p ∈ qs, p.szs ≤ 1048576
 sum : sizeFr qs ≤ 1048576
 isB : ∀ p ∈ qs, p.isB
theorem isB_fr {x y : StLogFrame} (h : y.dat = x.dat) (hx : x.isB) : y.isB := by
 simp only [StLogFrame.dat, StLogRecord.dat, StPageRecord.dat, Prod.mk.injEq] at h
 obtain ⟨_, _, _, _, _, _, _, ⟨_, h1⟩, ⟨_, h2⟩, _, _, _, _, h3⟩ := h
 unfold StLogFrame.isB at *
 rw [h1, h2, h3]
 exact hx
theorem FrOK.of {qs ps : List StLogFrame} (h : datFr qs = datFr ps) (hz : szsFr qs = szsFr ps) (hB : ∀ p ∈ ps, p.isB) (hl : ps.length ≤ 1048576) (hs : sizeFr ps ≤ 1048576) : FrOK qs := by
 have hlen : qs.length = ps.length := by rw [← datFr_length, ← datFr_length, h]
 have hsum := sizeFr_szs hz
 refine ⟨by omega, fun p hp => by have := sizeFr_mem qs p hp; omega, by omega, fun p hp => ?_⟩
 obtain ⟨k, hk, rfl⟩ := List.mem_iff_getElem.1 hp
 exact isB_fr (datFr_at h k hk (by omega)) (hB _ (List.getElem_mem (by omega)))
theorem eqScan_own (va vb : Value) (ps qs : List StLogFrame) (en : Int) (w : World) (hn : ps.length ≤ 1125899906842624) (hs : datFr ps = datFr qs) (hsm : ∀ p ∈ ps, p.size ≤ 1125899906842624) (ha : OwnFr w va ps) (hb : OwnFr w vb qs) :
  Calls Tryz.prog 8 #[.agg #[va, .int .i64 en], .agg #[vb, .int .i64 en]] w fun e w' => e = .returned (.bool true) ∧ Same w w' := by
 have ke := fun wx hk => eqLogFrameS_own va vb ps qs wx hn hs hsm (ha.same hk) (hb.same hk)
 obtain ⟨a1, c1, rfl⟩ := ha.rd.row.form
 obtain ⟨a2, c2, rfl⟩ := hb.rd.row.form
 have HK0 := hid ((sameA w [.slice a1 ps.length c1, .int .i64 en] 29).trans (sameA _ [.slice a2 qs.length c2, .int .i64 en] 29))
 have HA0 := hid (Blk.newA w [.slice a1 ps.length c1, .int .i64 en] 29 [.slice a2 qs.length c2, .int .i64 en] 29)
 have HB0 := hid (Blk.newB w [.slice a1 ps.length c1, .int .i64 en] 29 [.slice a2 qs.length c2, .int .i64 en] 29)
 obtain ⟨g0, g1⟩ := HA0.out.all2
 obtain ⟨g2, g3⟩ := HB0.out.all2
 clear ha hb hsm hs
 generalize ps.length = L at *
 generalize qs.length = M at *
 go_enter Tryz.func8, Tryz.ntmps8
 go_wp2_with fail
 refine (ke _ HK0.out).mono ?_
 rintro e w1 ⟨rfl, hk⟩
 have HK1 := hid (HK0.out.trans hk)
 have HA1 := hid (HA0.out.same hk)
 have HB1 := hid (HB0.out.same hk)
 clear hk ke g0 g1 g2 g3
 obtain ⟨g0, g1⟩ := HA1.out.all2
 obtain ⟨g2, g3⟩ := HB1.out.all2
 go_wp2
 go_ret
 exact ⟨rfl, HK1.out⟩
theorem markScan2_own (va : Value) (ps : List StLogFrame) (en k0 : Int) (w : World) (h0 : 0 ≤ k0) (h1 : k0 + mzFr ps ≤ 1125899906842624) (hn : ps.length ≤ 1125899906842624) (ha : OwnFr w va ps) :
  Calls Tryz.prog 11 #[.agg #[va, .int .i64 en], .int .i64 k0] w fun e w' => e = .returned (.int .i64 (k0 + mzFr ps)) ∧ MkFr w' va ps k0 ∧ Kept (footFr va ps) w w' := by
 have km := fun wx hk => markFrames_own va ps k0 wx h0 h1 hn (ha.same hk)
 obtain ⟨a, c, rfl⟩ := ha.rd.row.form
 have HK0 := hid (sameA w [.slice a ps.length c, .int .i64 en] 29)
 obtain ⟨g0, g1⟩ := (Blk.newL w [.slice a ps.length c, .int .i64 en] 29).all2
 clear ha
 generalize hL : ps.length = L at *
 clear hL
 go_enter Tryz.func11, Tryz.ntmps11
 go_wp2_with fail
 refine (km _ HK0.out).mono ?_
 rintro e w1 ⟨rfl, hm, hk⟩
 have HM := hid hm
 have HK1 := hid ((HK0.out.mono (fun _ _ e => absurd e id)).trans hk)
 clear hk km hm
 go_wp2
 go_ret
 exact ⟨rfl, HM.out, HK1.out⟩
theorem heldScan_own (va : Value) (ps : List StLogFrame) (en k0 : Int) (w : World) (h0 : 0 ≤ k0) (h1 : k0 + mzFr ps ≤ 1125899906842624) (hn : ps.length ≤ 1125899906842624) (ha : MkFr w va ps k0) :
  Calls Tryz.prog 12 #[.agg #[va, .int .i64 en], .int .i64 k0] w fun e w' => e = .returned (.int .i64 (k0 + mzFr ps)) ∧ Same w w' := by
 have km := fun wx hk => heldLogFrameS_own va ps k0 wx h0 h1 hn (ha.same hk)
 obtain ⟨a, c, rfl⟩ : ∃ a c, va = .slice a ps.length c := by
  have h := ha.own.rd.form
  rw [mkS_length] at h
  exact h
 have HK0 := hid (sameA w [.slice a ps.length c, .int .i64 en] 29)
 obtain ⟨g0, g1⟩ := (Blk.newL w [.slice a ps.length c, .int .i64 en] 29).all2
 have hz : 0 ≤ mzFr ps := mzFr_nonneg ps
 clear ha
 generalize hL : ps.length = L at *
 clear hL
 generalize mzFr ps = Z at *
 have hng : ¬ k0 + Z < 0 := by omega
 go_enter Tryz.func12, Tryz.ntmps12
 go_wp2_with fail
 refine (km _ HK0.out).mono ?_
 rintro e w1 ⟨rfl, hk⟩
 have HK1 := hid (HK0.out.trans hk)
 clear hk km
 go_wp2
 go_ret
 exact ⟨rfl, HK1.out⟩
def DiskB (dur : List Int) (ps : List PW) : Prop := IsB dur ∧ ∀ p ∈ ps, IsB p.bs
theorem DiskB.dat {dur : List Int} {ps qs : List PW} (h : DiskB dur ps) (hq : dataP qs = dataP ps) : DiskB dur qs := ⟨h.1, fun p hp => by
 have h1 : (p.sec, p.bs) ∈ dataP ps := by rw [← hq]; exact List.mem_map.2 ⟨p, hp, rfl⟩
 obtain ⟨p', hp', he⟩ := List.mem_map.1 h1
 have : p'.bs = p.bs := congrArg Prod.snd he
 rw [← this]
 exact h.2 p' hp'⟩
theorem RchN.ok {m fr : Int} {T : List Int} : ∀ {n : Nat} {a b : ScS}, RchN m n a b → ScOk T fr a → ScOk T fr b
 | 0, a, b, h, hk => by
  obtain rfl : a = b := h
  exact hk
 | n + 1, a, b, h, hk => RchN.ok h.2 (hk.next h.1)
theorem mzFr_le {qs : List StLogFrame} (h : ∀ p ∈ qs, p.size ≤ 140000) : mzFr qs ≤ 140011 * qs.length := by
 induction qs with
 | nil => simp [mzFr]
 | cons p qs ih =>
  have h1 := ih (fun q hq => h q (List.mem_cons_of_mem _ hq))
  have h2 := h p (List.mem_cons_self ..)
  simp only [mzFr, List.length_cons]
  push_cast
  omega
theorem scanA_small {dur : List Int} {ps : List PW} {s fr m en : Int} {qs : List StLogFrame} (hB : DiskB dur ps) (h : ScanA dur (dataP ps) s fr m (datFr qs) en) : qs.length ≤ 20000 ∧ (∀ p ∈ qs, p.size ≤ 140000) ∧ mzFr qs ≤ 3000000000 := by
 have key : qs.length ≤ 20000 ∧ ∀ p ∈ qs, p.size ≤ 140000 := by
  rcases h with ⟨_, hq, _⟩ | ⟨hok, n, t, hr, _, hq, _⟩
  ·have hl := congrArg List.length hq
   rw [datFr_length] at hl
   obtain rfl : qs = [] := List.length_eq_zero_iff.1 hl
   exact ⟨by simp, fun p hp => by simp at hp⟩
  ·have hds : ∀ p ∈ dataP ps, IsB p.2 := fun p hp => by
    obtain ⟨q, hq, rfl⟩ := List.mem_map.1 hp
    exact hB.2 q hq
   have hk := hr.ok (ScOk.start (scT_isB hB.1 hds))
   have hl := congrArg List.length hq
   rw [datFr_length] at hl
   have h1 := hk.cnt
   have h2 := scT_length hok
   refine ⟨by omega, fun p hp => ?_⟩
   have hm : p.dat ∈ t.frs := by rw [← hq]; exact List.mem_map_of_mem hp
   have hz := hk.sz _ hm
   unfold StLogFrame.size StLogRecord.size StPageRecord.size
   simp only [sizeD, StLogFrame.dat, StLogRecord.dat, StPageRecord.dat] at hz
   omega
 have h3 := mzFr_le key.2
 exact ⟨key.1, key.2, by have := key.1; omega⟩
end Go.Proofs.YtaojjcnmififoaaGreat
