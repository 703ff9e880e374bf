import Derived.Test.YtaojjcnmififoaaGreatG42
namespace Go.Proofs.YtaojjcnmififoaaGreat
set_option maxRecDepth 100000
set_option maxHeartbeats 8000000
set_option linter.unusedVariables false
set_option linter.unusedSimpArgs false
open Go Go.RowKit Go.ChangeShapes Go.WideShapes Go.ChangeAt
theorem XW (va vb : Value) (ps qs : List StLogFrame) (w : World) (hn : ps.length ≤ 1125899906842624) (hs : Sv ps = Sv qs) (gX : ∀ p ∈ ps, p.size ≤ 1125899906842624)
  (ha : OwnFr w va ps) (hb : OwnFr w vb qs) :
  Calls Tryz.prog 27 #[va, vb] w fun e w' => e = .returned (.bool true) ∧ Same w w' := by
 have dR : qs.length = ps.length := by rw [← Sg, ← Sg, hs]
 by_cases hz : ps.length = 0
 ·obtain rfl : ps = [] := List.length_eq_zero_iff.1 hz
  obtain rfl : qs = [] := List.length_eq_zero_iff.1 dR
  obtain ⟨aa, ca, rfl⟩ : ∃ aa ca, va = .slice aa 0 ca := by rcases ha.own.form with ⟨rfl, _⟩ | ⟨g, cap, rfl, _⟩ <;> exact ⟨_, _, rfl⟩
  obtain ⟨ab, cb, rfl⟩ : ∃ aa ca, vb = .slice aa 0 ca := by rcases hb.own.form with ⟨rfl, _⟩ | ⟨g, cap, rfl, _⟩ <;> exact ⟨_, _, rfl⟩
  clear ha hb hn hz hs
  go_enter Tryz.func27, Tryz.ntmps27
  go_wp2
  refine wp_loop_rounds 1 ?_
  rw [rounds_succ]
  go_wp2
  go_ret
  exact ⟨rfl, kZ0⟩
 ·obtain ⟨ga, ca, rfl⟩ : ∃ g cap, va = .slice (some ⟨g, 0, none⟩) ps.length cap := by
   rcases ha.own.form with ⟨_, h⟩ | ⟨g, cap, h, _⟩
   ·simp [h] at hz
   ·exact ⟨g, cap, h⟩
  obtain ⟨gb, cb, rfl⟩ : ∃ g cap, vb = .slice (some ⟨g, 0, none⟩) ps.length cap := by
   rcases hb.own.form with ⟨_, h⟩ | ⟨g, cap, h, _⟩
   ·simp [h] at dR; omega
   ·exact ⟨g, cap, by rw [h, dR]⟩
  have HA := hid ha
  have HB := hid hb
  have HQ : Hid (qs.length = ps.length) := dR
  have HS : Hid (Sv ps = Sv qs) := hs
  have HM : Hid (∀ p ∈ ps, p.size ≤ 1125899906842624) := gX
  clear ha hb hs dR gX
  generalize hl : ps.length = len at hn hz HA HB ⊢
  have HL : Hid (ps.length = len) := hl
  clear hl
  go_enter Tryz.func27, Tryz.ntmps27
  go_wp2
  go_loopw [5] (fun i wr => ∃ (k : Nat), k ≤ len ∧ i = .int .i64 k ∧ Hid (Same w wr)) (fun i _ => len - (intOf i).toNat)
  case atStart => exact ⟨0, Nat.zero_le _, rfl, kZ0⟩
  case round =>
   obtain ⟨k, hk, rfl, HK⟩ := hrel
   by_cases bH : k < len
   ·have dh : k < ps.length := by rw [HL.out]; exact bH
    have i6 : k < qs.length := by rw [HQ.out]; exact dh
    have fD := (HA.out.same HK.out).own
    have fS := (HB.out.same HK.out).own
    have qb := jbi HS.out k dh i6
    have s3 := HM.out _ (List.getElem_mem dh)
    have fx := (HA.out.same HK.out).rows.mem _ (List.getElem_mem dh)
    have fI := (HB.out.same HK.out).rows.mem _ (List.getElem_mem i6)
    obtain ⟨P, hP⟩ : ∃ P, ps[k] = P := ⟨_, rfl⟩
    obtain ⟨Q, hQ⟩ : ∃ Q, qs[k] = Q := ⟨_, rfl⟩
    rw [hP] at qb s3 fx
    rw [hQ] at qb fI
    have uK : wr.cell? ⟨ga, k * 16, none⟩ = some (.int .i64 P.lsn) := by have h := fD.cell HL.out.symm k 0 dh (by decide); rw [hP] at h; exact h
    have rI : wr.cell? ⟨ga, k * 16 + 1, none⟩ = some (.int .i64 P.epoch) := by have h := fD.cell HL.out.symm k 1 dh (by decide); rw [hP] at h; exact h
    have vN : wr.cell? ⟨ga, k * 16 + 2, none⟩ = some (.int .i64 P.record.kind) := by have h := fD.cell HL.out.symm k 2 dh (by decide); rw [hP] at h; exact h
    have AR : wr.cell? ⟨ga, k * 16 + 3, none⟩ = some (.int .i64 P.record.txn) := by have h := fD.cell HL.out.symm k 3 dh (by decide); rw [hP] at h; exact h
    have ER : wr.cell? ⟨ga, k * 16 + 4, none⟩ = some (.int .i64 P.record.prev) := by have h := fD.cell HL.out.symm k 4 dh (by decide); rw [hP] at h; exact h
    have E2 : wr.cell? ⟨ga, k * 16 + 5, none⟩ = some (.int .i64 P.record.page) := by have h := fD.cell HL.out.symm k 5 dh (by decide); rw [hP] at h; exact h
    have GY : wr.cell? ⟨ga, k * 16 + 6, none⟩ = some (.int .i64 P.record.slot) := by have h := fD.cell HL.out.symm k 6 dh (by decide); rw [hP] at h; exact h
    have DV : wr.cell? ⟨ga, k * 16 + 7, none⟩ = some (.bool P.record.before.used) := by have h := fD.cell HL.out.symm k 7 dh (by decide); rw [hP] at h; exact h
    have Hb : wr.cell? ⟨ga, k * 16 + 8, none⟩ = some (P.record.before.data.v) := by have h := fD.cell HL.out.symm k 8 dh (by decide); rw [hP] at h; exact h
    have Fu : wr.cell? ⟨ga, k * 16 + 9, none⟩ = some (.bool P.record.after.used) := by have h := fD.cell HL.out.symm k 9 dh (by decide); rw [hP] at h; exact h
    have uO : wr.cell? ⟨ga, k * 16 + 10, none⟩ = some (P.record.after.data.v) := by have h := fD.cell HL.out.symm k 10 dh (by decide); rw [hP] at h; exact h
    have vm : wr.cell? ⟨ga, k * 16 + 11, none⟩ = some (.int .i64 P.record.uN) := by have h := fD.cell HL.out.symm k 11 dh (by decide); rw [hP] at h; exact h
    have uZ : wr.cell? ⟨ga, k * 16 + 12, none⟩ = some (.int .i64 P.record.nT) := by have h := fD.cell HL.out.symm k 12 dh (by decide); rw [hP] at h; exact h
    have vF : wr.cell? ⟨ga, k * 16 + 13, none⟩ = some (P.record.txns.v) := by have h := fD.cell HL.out.symm k 13 dh (by decide); rw [hP] at h; exact h
    have vd : wr.cell? ⟨ga, k * 16 + 14, none⟩ = some (P.record.dirty.v) := by have h := fD.cell HL.out.symm k 14 dh (by decide); rw [hP] at h; exact h
    have vg : wr.cell? ⟨ga, k * 16 + 15, none⟩ = some (P.record.image.v) := by have h := fD.cell HL.out.symm k 15 dh (by decide); rw [hP] at h; exact h
    have a8 : wr.cell? ⟨gb, k * 16, none⟩ = some (.int .i64 Q.lsn) := by have h := fS.cell (by rw [HQ.out, HL.out]) k 0 i6 (by decide); rw [hQ] at h; exact h
    have cN : wr.cell? ⟨gb, k * 16 + 1, none⟩ = some (.int .i64 Q.epoch) := by have h := fS.cell (by rw [HQ.out, HL.out]) k 1 i6 (by decide); rw [hQ] at h; exact h
    have dL : wr.cell? ⟨gb, k * 16 + 2, none⟩ = some (.int .i64 Q.record.kind) := by have h := fS.cell (by rw [HQ.out, HL.out]) k 2 i6 (by decide); rw [hQ] at h; exact h
    have lr : wr.cell? ⟨gb, k * 16 + 3, none⟩ = some (.int .i64 Q.record.txn) := by have h := fS.cell (by rw [HQ.out, HL.out]) k 3 i6 (by decide); rw [hQ] at h; exact h
    have BK : wr.cell? ⟨gb, k * 16 + 4, none⟩ = some (.int .i64 Q.record.prev) := by have h := fS.cell (by rw [HQ.out, HL.out]) k 4 i6 (by decide); rw [hQ] at h; exact h
    have sU : wr.cell? ⟨gb, k * 16 + 5, none⟩ = some (.int .i64 Q.record.page) := by have h := fS.cell (by rw [HQ.out, HL.out]) k 5 i6 (by decide); rw [hQ] at h; exact h
    have wu : wr.cell? ⟨gb, k * 16 + 6, none⟩ = some (.int .i64 Q.record.slot) := by have h := fS.cell (by rw [HQ.out, HL.out]) k 6 i6 (by decide); rw [hQ] at h; exact h
    have lq : wr.cell? ⟨gb, k * 16 + 7, none⟩ = some (.bool Q.record.before.used) := by have h := fS.cell (by rw [HQ.out, HL.out]) k 7 i6 (by decide); rw [hQ] at h; exact h
    have tf : wr.cell? ⟨gb, k * 16 + 8, none⟩ = some (Q.record.before.data.v) := by have h := fS.cell (by rw [HQ.out, HL.out]) k 8 i6 (by decide); rw [hQ] at h; exact h
    have Ed : wr.cell? ⟨gb, k * 16 + 9, none⟩ = some (.bool Q.record.after.used) := by have h := fS.cell (by rw [HQ.out, HL.out]) k 9 i6 (by decide); rw [hQ] at h; exact h
    have uu : wr.cell? ⟨gb, k * 16 + 10, none⟩ = some (Q.record.after.data.v) := by have h := fS.cell (by rw [HQ.out, HL.out]) k 10 i6 (by decide); rw [hQ] at h; exact h
    have uQ : wr.cell? ⟨gb, k * 16 + 11, none⟩ = some (.int .i64 Q.record.uN) := by have h := fS.cell (by rw [HQ.out, HL.out]) k 11 i6 (by decide); rw [hQ] at h; exact h
    have vB : wr.cell? ⟨gb, k * 16 + 12, none⟩ = some (.int .i64 Q.record.nT) := by have h := fS.cell (by rw [HQ.out, HL.out]) k 12 i6 (by decide); rw [hQ] at h; exact h
    have vy : wr.cell? ⟨gb, k * 16 + 13, none⟩ = some (Q.record.txns.v) := by have h := fS.cell (by rw [HQ.out, HL.out]) k 13 i6 (by decide); rw [hQ] at h; exact h
    have vp : wr.cell? ⟨gb, k * 16 + 14, none⟩ = some (Q.record.dirty.v) := by have h := fS.cell (by rw [HQ.out, HL.out]) k 14 i6 (by decide); rw [hQ] at h; exact h
    have uX : wr.cell? ⟨gb, k * 16 + 15, none⟩ = some (Q.record.image.v) := by have h := fS.cell (by rw [HQ.out, HL.out]) k 15 i6 (by decide); rw [hQ] at h; exact h
    have HD := hid qb
    have LL := hid s3
    have Bq := hid fx
    have lg := hid fI
    clear fD fS qb fx fI s3 hP hQ
    go_wp2_with fail
    let Y1 : World → Prop := fun wx : World => (wx.cell? ⟨ga, k * 16, none⟩ = some (.int .i64 P.lsn) ∧ wx.cell? ⟨ga, k * 16 + 1, none⟩ = some (.int .i64 P.epoch) ∧ wx.cell? ⟨ga, k * 16 + 2, none⟩ = some (.int .i64 P.record.kind) ∧ wx.cell? ⟨ga, k * 16 + 3, none⟩ = some (.int .i64 P.record.txn) ∧ wx.cell? ⟨ga, k * 16 + 4, none⟩ = some (.int .i64 P.record.prev) ∧ wx.cell? ⟨ga, k * 16 + 5, none⟩ = some (.int .i64 P.record.page) ∧ wx.cell? ⟨ga, k * 16 + 6, none⟩ = some (.int .i64 P.record.slot) ∧ wx.cell? ⟨ga, k * 16 + 7, none⟩ = some (.bool P.record.before.used) ∧ wx.cell? ⟨ga, k * 16 + 8, none⟩ = some (P.record.before.data.v) ∧ wx.cell? ⟨ga, k * 16 + 9, none⟩ = some (.bool P.record.after.used) ∧ wx.cell? ⟨ga, k * 16 + 10, none⟩ = some (P.record.after.data.v) ∧ wx.cell? ⟨ga, k * 16 + 11, none⟩ = some (.int .i64 P.record.uN) ∧ wx.cell? ⟨ga, k * 16 + 12, none⟩ = some (.int .i64 P.record.nT) ∧ wx.cell? ⟨ga, k * 16 + 13, none⟩ = some (P.record.txns.v) ∧ wx.cell? ⟨ga, k * 16 + 14, none⟩ = some (P.record.dirty.v) ∧ wx.cell? ⟨ga, k * 16 + 15, none⟩ = some (P.record.image.v)) ∧ (wx.cell? ⟨gb, k * 16, none⟩ = some (.int .i64 Q.lsn) ∧ wx.cell? ⟨gb, k * 16 + 1, none⟩ = some (.int .i64 Q.epoch) ∧ wx.cell? ⟨gb, k * 16 + 2, none⟩ = some (.int .i64 Q.record.kind) ∧ wx.cell? ⟨gb, k * 16 + 3, none⟩ = some (.int .i64 Q.record.txn) ∧ wx.cell? ⟨gb, k * 16 + 4, none⟩ = some (.int .i64 Q.record.prev) ∧ wx.cell? ⟨gb, k * 16 + 5, none⟩ = some (.int .i64 Q.record.page) ∧ wx.cell? ⟨gb, k * 16 + 6, none⟩ = some (.int .i64 Q.record.slot) ∧ wx.cell? ⟨gb, k * 16 + 7, none⟩ = some (.bool Q.record.before.used) ∧ wx.cell? ⟨gb, k * 16 + 8, none⟩ = some (Q.record.before.data.v) ∧ wx.cell? ⟨gb, k * 16 + 9, none⟩ = some (.bool Q.record.after.used) ∧ wx.cell? ⟨gb, k * 16 + 10, none⟩ = some (Q.record.after.data.v) ∧ wx.cell? ⟨gb, k * 16 + 11, none⟩ = some (.int .i64 Q.record.uN) ∧ wx.cell? ⟨gb, k * 16 + 12, none⟩ = some (.int .i64 Q.record.nT) ∧ wx.cell? ⟨gb, k * 16 + 13, none⟩ = some (Q.record.txns.v) ∧ wx.cell? ⟨gb, k * 16 + 14, none⟩ = some (Q.record.dirty.v) ∧ wx.cell? ⟨gb, k * 16 + 15, none⟩ = some (Q.record.image.v))
    have hS : Y1 wr.drew := ⟨⟨uK, rI, vN, AR, ER, E2, GY, DV, Hb, Fu, uO, vm, uZ, vF, vd, vg⟩, ⟨a8, cN, dL, lr, BK, sU, wu, lq, tf, Ed, uu, uQ, vB, vy, vp, uX⟩⟩
    refine Q9 Y1 99 10 rfl (by kernel_rfl) ?_
    refine tk 0 17 hS ?_
    refine tk 1 18 hS ?_
    refine tkV 2 19 (.pointer (some ⟨ga, k * 16, none⟩)) hS ?_
    refine tk 3 20 hS ?_
    refine tk 4 21 hS ?_
    refine tk 5 22 hS ?_
    refine tkV 6 23 (.pointer (some ⟨gb, k * 16, none⟩)) hS ?_
    refine tk 7 24 hS ?_
    refine o1Q 8 (fun K hK => ?_)
    go_simp
    refine (YG P Q _ LL.out HD.out (Bq.out.same kZ0.drew) (lg.out.same kZ0.drew)).mono ?_
    rintro e w1 ⟨rfl, aH⟩
    have aM : Hid (Same w w1) := HK.out.drew.trans aH
    have dd : Hid (Same wr w1) := kZ0.drew.trans aH
    refine hK.out _ _ (fun _ => ⟨⟨(dd.out.cellOf uK id), (dd.out.cellOf rI id), (dd.out.cellOf vN id), (dd.out.cellOf AR id), (dd.out.cellOf ER id), (dd.out.cellOf E2 id), (dd.out.cellOf GY id), (dd.out.cellOf DV id), (dd.out.cellOf Hb id), (dd.out.cellOf Fu id), (dd.out.cellOf uO id), (dd.out.cellOf vm id), (dd.out.cellOf uZ id), (dd.out.cellOf vF id), (dd.out.cellOf vd id), (dd.out.cellOf vg id)⟩, ⟨(dd.out.cellOf a8 id), (dd.out.cellOf cN id), (dd.out.cellOf dL id), (dd.out.cellOf lr id), (dd.out.cellOf BK id), (dd.out.cellOf sU id), (dd.out.cellOf wu id), (dd.out.cellOf lq id), (dd.out.cellOf tf id), (dd.out.cellOf Ed id), (dd.out.cellOf uu id), (dd.out.cellOf uQ id), (dd.out.cellOf vB id), (dd.out.cellOf vy id), (dd.out.cellOf vp id), (dd.out.cellOf uX id)⟩⟩) ?_
    clear hK K
    try simp only [Act.put, sA, s0, sS]
    refine o1Q 9 (fun K hK => ?_)
    go_simp
    refine hK.out _ _ (fun h => ⟨⟨(dd.out.cellOf uK id), (dd.out.cellOf rI id), (dd.out.cellOf vN id), (dd.out.cellOf AR id), (dd.out.cellOf ER id), (dd.out.cellOf E2 id), (dd.out.cellOf GY id), (dd.out.cellOf DV id), (dd.out.cellOf Hb id), (dd.out.cellOf Fu id), (dd.out.cellOf uO id), (dd.out.cellOf vm id), (dd.out.cellOf uZ id), (dd.out.cellOf vF id), (dd.out.cellOf vd id), (dd.out.cellOf vg id)⟩, ⟨(dd.out.cellOf a8 id), (dd.out.cellOf cN id), (dd.out.cellOf dL id), (dd.out.cellOf lr id), (dd.out.cellOf BK id), (dd.out.cellOf sU id), (dd.out.cellOf wu id), (dd.out.cellOf lq id), (dd.out.cellOf tf id), (dd.out.cellOf Ed id), (dd.out.cellOf uu id), (dd.out.cellOf uQ id), (dd.out.cellOf vB id), (dd.out.cellOf vy id), (dd.out.cellOf vp id), (dd.out.cellOf uX id)⟩⟩) ?_
    clear hK K aH
    try simp only [Act.put, sA, s0, sS]
    refine Q8 (by kernel_rfl) ?_
    go_wp2
    go_roundw
    case rel => exact ⟨k + 1, by omega, by go_num, aM⟩
    case measure => simp [intOf]; omega
   ·go_wp2
    go_ret
    exact ⟨rfl, HK.out⟩
theorem Tryz.infoFr : (Tryz.prog.info? 55).map (fun i => (i.zero, i.size, i.bytes)) = some (some (.agg #[.int .i64 0, .int .i64 0, .int .i64 0, .int .i64 0, .int .i64 0, .int .i64 0, .int .i64 0, .bool false, .slice none 0 0, .bool false, .slice none 0 0, .int .i64 0, .int .i64 0, .slice none 0 0, .slice none 0 0, .slice none 0 0]), 16, 208) := by kernel_rfl
section
variable {H : Type} {enc : TypeId × Value → H} {w : World} {base : Nat} {spare : Nat → Bool} {held : Bool}
def StLogFrame.isB (p : StLogFrame) : Prop := IsB p.record.before.data.bs ∧ IsB p.record.after.data.bs ∧ IsB p.record.image.bs
end
structure FrOK (qs : List StLogFrame) : Prop where
 len : qs.length ≤ 1048576
 each : ∀ p ∈ qs, p.szs ≤ 1048576
 sum : Uw qs ≤ 1048576
 isB : ∀ p ∈ qs, p.isB
theorem jfw {x y : StLogFrame} (h : y.dat = x.dat) (hx : x.isB) : y.isB := by
 simp only [StLogFrame.dat, StLogRecord.dat, StPageRecord.dat, Prod.mk.injEq] at h
 obtain ⟨_, _, _, _, _, _, _, ⟨_, h1⟩, ⟨_, h2⟩, _, _, _, _, h3⟩ := h
 unfold StLogFrame.isB at *
 rw [h1, h2, h3]
 exact hx
theorem FrOK.of {qs ps : List StLogFrame} (h : Sv qs = Sv ps) (hz : ZQ qs = ZQ ps) (hB : ∀ p ∈ ps, p.isB) (hl : ps.length ≤ 1048576) (hs : Uw ps ≤ 1048576) : FrOK qs := by
 have dR : qs.length = ps.length := by rw [← Sg, ← Sg, h]
 have N2 := jcg hz
 refine ⟨by omega, fun p hp => by have := jcf qs p hp; omega, by omega, fun p hp => ?_⟩
 obtain ⟨k, hk, rfl⟩ := List.mem_iff_getElem.1 hp
 exact jfw (jbi h k hk (by omega)) (hB _ (List.getElem_mem (by omega)))
theorem Wu (va vb : Value) (ps qs : List StLogFrame) (en : Int) (w : World) (hn : ps.length ≤ 1125899906842624) (hs : Sv ps = Sv qs) (gX : ∀ p ∈ ps, p.size ≤ 1125899906842624) (ha : OwnFr w va ps) (hb : OwnFr w vb qs) :
  Calls Tryz.prog 8 #[.agg #[va, .int .i64 en], .agg #[vb, .int .i64 en]] w fun e w' => e = .returned (.bool true) ∧ Same w w' := by
 have ke := fun wx hk => XW va vb ps qs wx hn hs gX (ha.same hk) (hb.same hk)
 obtain ⟨a1, c1, rfl⟩ := ha.rd.row.form
 obtain ⟨a2, c2, rfl⟩ := hb.rd.row.form
 have aJ := hid ((Xx w [.slice a1 ps.length c1, .int .i64 en] 29).trans (Xx _ [.slice a2 qs.length c2, .int .i64 en] 29))
 have mQ := hid (Blk.newA w [.slice a1 ps.length c1, .int .i64 en] 29 [.slice a2 qs.length c2, .int .i64 en] 29)
 have bm := hid (Blk.newB w [.slice a1 ps.length c1, .int .i64 en] 29 [.slice a2 qs.length c2, .int .i64 en] 29)
 obtain ⟨g0, g1⟩ := mQ.out.all2
 obtain ⟨g2, g3⟩ := bm.out.all2
 clear ha hb gX hs
 generalize ps.length = L at *
 generalize qs.length = M at *
 go_enter Tryz.func8, Tryz.ntmps8
 go_wp2_with fail
 refine (ke _ aJ.out).mono ?_
 rintro e w1 ⟨rfl, hk⟩
 have aM := hid (aJ.out.trans hk)
 have zG := hid (mQ.out.same hk)
 have bf := hid (bm.out.same hk)
 clear hk ke g0 g1 g2 g3
 obtain ⟨g0, g1⟩ := zG.out.all2
 obtain ⟨g2, g3⟩ := bf.out.all2
 go_wp2
 go_ret
 exact ⟨rfl, aM.out⟩
theorem Ze (va : Value) (ps : List StLogFrame) (en k0 : Int) (w : World) (h0 : 0 ≤ k0) (h1 : k0 + Sn ps ≤ 1125899906842624) (hn : ps.length ≤ 1125899906842624) (ha : OwnFr w va ps) :
  Calls Tryz.prog 11 #[.agg #[va, .int .i64 en], .int .i64 k0] w fun e w' => e = .returned (.int .i64 (k0 + Sn ps)) ∧ MkFr w' va ps k0 ∧ Kept (Sm va ps) w w' := by
 have km := fun wx hk => YL va ps k0 wx h0 h1 hn (ha.same hk)
 obtain ⟨a, c, rfl⟩ := ha.rd.row.form
 have aJ := hid (Xx w [.slice a ps.length c, .int .i64 en] 29)
 obtain ⟨g0, g1⟩ := (Blk.newL w [.slice a ps.length c, .int .i64 en] 29).all2
 clear ha
 generalize hL : ps.length = L at *
 clear hL
 go_enter Tryz.func11, Tryz.ntmps11
 go_wp2_with fail
 refine (km _ aJ.out).mono ?_
 rintro e w1 ⟨rfl, hm, hk⟩
 have HM := hid hm
 have aM := hid ((aJ.out.mono (fun _ _ e => absurd e id)).trans hk)
 clear hk km hm
 go_wp2
 go_ret
 exact ⟨rfl, HM.out, aM.out⟩
theorem WZ (va : Value) (ps : List StLogFrame) (en k0 : Int) (w : World) (h0 : 0 ≤ k0) (h1 : k0 + Sn ps ≤ 1125899906842624) (hn : ps.length ≤ 1125899906842624) (ha : MkFr w va ps k0) :
  Calls Tryz.prog 12 #[.agg #[va, .int .i64 en], .int .i64 k0] w fun e w' => e = .returned (.int .i64 (k0 + Sn ps)) ∧ Same w w' := by
 have km := fun wx hk => WY va ps k0 wx h0 h1 hn (ha.same hk)
 obtain ⟨a, c, rfl⟩ : ∃ a c, va = .slice a ps.length c := by
  have h := ha.own.rd.form
  rw [TD] at h
  exact h
 have aJ := hid (Xx w [.slice a ps.length c, .int .i64 en] 29)
 obtain ⟨g0, g1⟩ := (Blk.newL w [.slice a ps.length c, .int .i64 en] 29).all2
 have hz : 0 ≤ Sn ps := TB ps
 clear ha
 generalize hL : ps.length = L at *
 clear hL
 generalize Sn ps = Z at *
 have zK : ¬ k0 + Z < 0 := by omega
 go_enter Tryz.func12, Tryz.ntmps12
 go_wp2_with fail
 refine (km _ aJ.out).mono ?_
 rintro e w1 ⟨rfl, hk⟩
 have aM := hid (aJ.out.trans hk)
 clear hk km
 go_wp2
 go_ret
 exact ⟨rfl, aM.out⟩
def DiskB (dur : List Int) (ps : List PW) : Prop := IsB dur ∧ ∀ p ∈ ps, IsB p.bs
theorem DiskB.dat {dur : List Int} {ps qs : List PW} (h : DiskB dur ps) (hq : Rh qs = Rh ps) : DiskB dur qs := ⟨h.1, fun p hp => by
 have h1 : (p.sec, p.bs) ∈ Rh ps := by rw [← hq]; exact List.mem_map.2 ⟨p, hp, rfl⟩
 obtain ⟨p', L2, he⟩ := List.mem_map.1 h1
 have : p'.bs = p.bs := congrArg Prod.snd he
 rw [← this]
 exact h.2 p' L2⟩
theorem RchN.ok {m fr : Int} {T : List Int} : ∀ {n : Nat} {a b : ScS}, RchN m n a b → ScOk T fr a → ScOk T fr b
 | 0, a, b, h, hk => by
  obtain rfl : a = b := h
  exact hk
 | n + 1, a, b, h, hk => RchN.ok h.2 (hk.next h.1)
theorem jeW {qs : List StLogFrame} (h : ∀ p ∈ qs, p.size ≤ 140000) : Sn qs ≤ 140011 * qs.length := by
 induction qs with
 | nil => simp [Sn]
 | cons p qs ih =>
  have h1 := ih (fun q hq => h q (List.mem_cons_of_mem _ hq))
  have h2 := h p (List.mem_cons_self ..)
  simp only [Sn, List.length_cons]
  push_cast
  omega
theorem VK {dur : List Int} {ps : List PW} {s fr m en : Int} {qs : List StLogFrame} (hB : DiskB dur ps) (h : ScanA dur (Rh ps) s fr m (Sv qs) en) : qs.length ≤ 20000 ∧ (∀ p ∈ qs, p.size ≤ 140000) ∧ Sn qs ≤ 3000000000 := by
 have key : qs.length ≤ 20000 ∧ ∀ p ∈ qs, p.size ≤ 140000 := by
  rcases h with ⟨_, hq, _⟩ | ⟨mK, n, t, hr, _, hq, _⟩
  ·have hl := congrArg List.length hq
   rw [Sg] at hl
   obtain rfl : qs = [] := List.length_eq_zero_iff.1 hl
   exact ⟨by simp, fun p hp => by simp at hp⟩
  ·have mg : ∀ p ∈ Rh ps, IsB p.2 := fun p hp => by
    obtain ⟨q, hq, rfl⟩ := List.mem_map.1 hp
    exact hB.2 q hq
   have hk := hr.ok (ScOk.start (jcx hB.1 mg))
   have hl := congrArg List.length hq
   rw [Sg] at hl
   have h1 := hk.cnt
   have h2 := jce mK
   refine ⟨by omega, fun p hp => ?_⟩
   have hm : p.dat ∈ t.frs := by rw [← hq]; exact List.mem_map_of_mem hp
   have hz := hk.sz _ hm
   unfold StLogFrame.size StLogRecord.size StPageRecord.size
   simp only [WK, StLogFrame.dat, StLogRecord.dat, StPageRecord.dat] at hz
   omega
 have h3 := jeW key.2
 exact ⟨key.1, key.2, by have := key.1; omega⟩
end Go.Proofs.YtaojjcnmififoaaGreat
