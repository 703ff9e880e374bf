import Derived.Test.YtepdakgfioffgaaGreatG04
import Derived.Test.YtepdakgfioffgaaGreatG37
import Derived.Test.YtepdakgfioffgaaGreatG36
import Derived.Test.YtepdakgfioffgaaGreatG14
import Derived.Test.YtepdakgfioffgaaGreatG13
import Derived.Test.YtepdakgfioffgaaGreatG00
import Derived.Test.YtepdakgfioffgaaGreatG29
import Derived.Deep.DeepCutAuto
namespace Go.Proofs.YtepdakgfioffgaaGreat
set_option maxRecDepth 100000
set_option maxHeartbeats 8000000
set_option linter.unusedVariables false
set_option linter.unusedSimpArgs false
open Go Go.RowKit
theorem markLogFrameS_own (va : Value) (ps : List StLogFrame) (k0 : Int) (w : World) (h0 : 0 ≤ k0) (h1 : k0 + mzFr ps ≤ 1125899906842624) (hn : ps.length ≤ 1125899906842624) (ha : OwnFr w va ps) :
  Calls Tryz.prog 36 #[va, .int .i64 k0] w fun e w' => e = .returned (.int .i64 (k0 + mzFr ps)) ∧ True ∧ Kept (footFr va ps) w w' := by
 by_cases hz : ps.length = 0
 ·obtain rfl : ps = [] := List.length_eq_zero_iff.1 hz
  obtain ⟨aa, ca, rfl⟩ : ∃ aa ca, va = .slice aa 0 ca := by rcases ha.own.form with ⟨rfl, _⟩ | ⟨g, cap, rfl, _⟩ <;> exact ⟨_, _, rfl⟩
  clear ha hn hz h1
  go_enter Tryz.func36, Tryz.ntmps36
  go_wp2
  refine wp_loop_rounds 1 ?_
  rw [rounds_succ]
  go_wp2
  go_ret
  exact ⟨by simp [mzFr], trivial, Kept.refl _ _⟩
 ·obtain ⟨g, cap, rfl, hg⟩ : ∃ g cap, va = .slice (some ⟨g, 0, none⟩) ps.length cap ∧ g < w.heap.size := by
   rcases ha.own.form with ⟨_, rfl⟩ | ⟨g, cap, h, _, h2, _⟩
   ·simp at hz
   ·exact ⟨g, cap, h, h2⟩
  have HG := (show Hid (∀ b, FootL (frRows ps) b → ¬ b = g) from fun b hb e => ha.out b (by rw [e]; rfl) hb)
  have ji := hid ha
  have H1 := hid h1
  clear ha h1
  generalize hl : ps.length = len at *
  have HL : Hid (ps.length = len) := hl
  clear hl
  go_enter Tryz.func36, Tryz.ntmps36
  go_wp2
  go_loopw [1, 5] (fun v i wr => ∃ (k : Nat) (c : Int) (qs : List StLogFrame), k ≤ len ∧ i = .int .i64 k ∧ v = .int .i64 c ∧ Hid (c = k0 + mzFr (ps.take k)) ∧ Hid (qs.length = k) ∧ Hid (OwnR kFr 0 51 5 wr (.slice (some ⟨g, 0, none⟩) len cap) (qs ++ ps.drop k)) ∧ Hid (OwnL wr (frRows (ps.drop k))) ∧ Hid (Kept (footFr (.slice (some ⟨g, 0, none⟩) len cap) ps) w wr)) (fun _ i _ => len - (intOf i).toNat)
  case atStart => exact ⟨0, k0, [], Nat.zero_le _, rfl, rfl, by simp [Hid, mzFr], rfl, by simpa [Hid] using ji.out.own, by simpa [Hid] using ji.out.rows, Kept.refl _ _⟩
  case round =>
   obtain ⟨k, c0, qs, hk, rfl, rfl, HC, kk, HO, HR, bk⟩ := hrel
   by_cases dh : k < len
   ·have gV : k < ps.length := by rw [HL.out]; exact dh
    have Qb := mzFr_step ps k gV
    have mj := mzFr_take_le ps (k + 1)
    have TP := mzFr_nonneg (ps.take k)
    have Ev := List.drop_eq_getElem_cons gV
    obtain ⟨P, hP⟩ : ∃ P, ps[k] = P := ⟨_, rfl⟩
    rw [hP] at Qb Ev
    have pI : 0 ≤ c0 := by have := HC.out; omega
    have i1 : P.size = (P.record.before.data.bs.length : Int) + (P.record.after.data.bs.length : Int) + (P.record.txns.bs.length : Int) + (P.record.dirty.bs.length : Int) + (P.record.image.bs.length : Int) := rfl
    have LR : c0 + 11 + P.size ≤ 1125899906842624 := by have := HC.out; have := H1.out; omega
    rw [i1] at LR
    have SN := pI
    have Rx : c0 + 11 + (P.record.before.data.bs.length : Int) + (P.record.after.data.bs.length : Int) + (P.record.txns.bs.length : Int) + (P.record.dirty.bs.length : Int) + (P.record.image.bs.length : Int) ≤ 1125899906842624 := by omega
    have pV := (show Hid (k0 + mzFr (ps.take (k + 1)) = c0 + 11 + ((P.record.before.data.bs.length : Int) + (P.record.after.data.bs.length : Int) + (P.record.txns.bs.length : Int) + (P.record.dirty.bs.length : Int) + (P.record.image.bs.length : Int))) from by have := HC.out; rw [← i1]; show k0 + mzFr (ps.take (k + 1)) = c0 + 11 + P.size; omega)
    have sZ := (show Hid (∀ b, FootL (P.record.before.data.rows ++ (P.record.after.data.rows ++ ((P.record.txns.rows 4) ++ ((P.record.dirty.rows 2) ++ (P.record.image.rows ++ (frRows (ps.drop (k + 1)))))))) b → FootL (frRows ps) b) from fun b hb => by
     have hx : FootL (frRows (ps.drop k)) b := by
      rw [Ev, frRows_cons]
      simp only [StLogFrame.rows, StLogRecord.rows, StPageRecord.rows, List.append_assoc]
      exact hb
     obtain ⟨p, hp, hf⟩ := footRows_mem.1 hx
     exact footRows_mem.2 ⟨p, List.mem_of_mem_drop hp, hf⟩)
    have PQ := (show Hid (OwnL wr (P.record.before.data.rows ++ (P.record.after.data.rows ++ ((P.record.txns.rows 4) ++ ((P.record.dirty.rows 2) ++ (P.record.image.rows ++ (frRows (ps.drop (k + 1))))))))) from by
     have h := HR.out
     rw [Ev, frRows_cons] at h
     simp only [StLogFrame.rows, StLogRecord.rows, StPageRecord.rows, List.append_assoc] at h
     exact h)
    have pM := (show Hid (OwnR kFr 0 51 5 wr (.slice (some ⟨g, 0, none⟩) len cap) (qs ++ (⟨P.lsn, P.epoch, ⟨P.record.kind, P.record.txn, P.record.prev, P.record.page, P.record.slot, ⟨P.record.before.used, P.record.before.data⟩, ⟨P.record.after.used, P.record.after.data⟩, P.record.uN, P.record.nT, P.record.txns, P.record.dirty, P.record.image⟩⟩ : StLogFrame) :: ps.drop (k + 1))) from by have h := HO.out; rw [Ev] at h; exact h)
    have jr : ∀ e : StLogFrame, Hid (len = (qs ++ e :: ps.drop (k + 1)).length) := fun e => by have hl := HL.out; have h2 := kk.out; simp [Hid]; omega
    clear Qb mj TP Ev hP i1 HO pI LR
    have HR := PQ
    have HK := bk
    clear PQ
    have z : wr.cell? ⟨g, k * 16, none⟩ = some (.int .i64 P.lsn) := pM.out.cellMid (jr _).out 0 (by decide) _ (by rw [kk.out]; rfl)
    have zf := pM.out.frozen (jr _).out (k * 16)
    go_upto_region 5 with fail
    have nh := (show Hid (OwnR kFr 0 51 5 (wr.setCell ⟨g, k * 16, none⟩ (.int .i64 (c0))) (.slice (some ⟨g, 0, none⟩) len cap) (qs ++ (⟨(c0), P.epoch, ⟨P.record.kind, P.record.txn, P.record.prev, P.record.page, P.record.slot, ⟨P.record.before.used, P.record.before.data⟩, ⟨P.record.after.used, P.record.after.data⟩, P.record.uN, P.record.nT, P.record.txns, P.record.dirty, P.record.image⟩⟩ : StLogFrame) :: ps.drop (k + 1))) from pM.out.set (p' := (⟨(c0), P.epoch, ⟨P.record.kind, P.record.txn, P.record.prev, P.record.page, P.record.slot, ⟨P.record.before.used, P.record.before.data⟩, ⟨P.record.after.used, P.record.after.data⟩, P.record.uN, P.record.nT, P.record.txns, P.record.dirty, P.record.image⟩⟩ : StLogFrame)) (jr _).out 0 (.int .i64 (c0)) (by decide) rfl rfl rfl _ (by rw [kk.out]; rfl))
    have HK := (show Hid (Kept (footFr (.slice (some ⟨g, 0, none⟩) len cap) ps) w (wr.setCell ⟨g, k * 16, none⟩ (.int .i64 (c0)))) from HK.out.setCell (p := ⟨g, k * 16, none⟩) (.inr (.inl rfl)) _)
    have HR := (show Hid (OwnL (wr.setCell ⟨g, k * 16, none⟩ (.int .i64 (c0))) (P.record.before.data.rows ++ (P.record.after.data.rows ++ ((P.record.txns.rows 4) ++ ((P.record.dirty.rows 2) ++ (P.record.image.rows ++ (frRows (ps.drop (k + 1))))))))) from OwnL.kept (R := fun b => b = g) HR.out (Kept.setCell (R := fun b => b = g) (Kept.refl _ _) (p := ⟨g, k * 16, none⟩) (.inr rfl) _) (fun b hb => HG.out b (sZ.out b hb)))
    generalize (wr.setCell ⟨g, k * 16, none⟩ (.int .i64 (c0))) = y0 at nh HK HR ⊢
    clear z zf
    have z : y0.cell? ⟨g, k * 16 + 1, none⟩ = some (.int .i64 P.epoch) := nh.out.cellMid (jr _).out 1 (by decide) _ (by rw [kk.out]; rfl)
    have zf := nh.out.frozen (jr _).out (k * 16 + 1)
    go_upto_region 7 with fail
    have jb := (show Hid (OwnR kFr 0 51 5 (y0.setCell ⟨g, k * 16 + 1, none⟩ (.int .i64 (c0 + 1))) (.slice (some ⟨g, 0, none⟩) len cap) (qs ++ (⟨(c0), (c0 + 1), ⟨P.record.kind, P.record.txn, P.record.prev, P.record.page, P.record.slot, ⟨P.record.before.used, P.record.before.data⟩, ⟨P.record.after.used, P.record.after.data⟩, P.record.uN, P.record.nT, P.record.txns, P.record.dirty, P.record.image⟩⟩ : StLogFrame) :: ps.drop (k + 1))) from nh.out.set (p' := (⟨(c0), (c0 + 1), ⟨P.record.kind, P.record.txn, P.record.prev, P.record.page, P.record.slot, ⟨P.record.before.used, P.record.before.data⟩, ⟨P.record.after.used, P.record.after.data⟩, P.record.uN, P.record.nT, P.record.txns, P.record.dirty, P.record.image⟩⟩ : StLogFrame)) (jr _).out 1 (.int .i64 (c0 + 1)) (by decide) rfl rfl rfl _ (by rw [kk.out]; rfl))
    have HK := (show Hid (Kept (footFr (.slice (some ⟨g, 0, none⟩) len cap) ps) w (y0.setCell ⟨g, k * 16 + 1, none⟩ (.int .i64 (c0 + 1)))) from HK.out.setCell (p := ⟨g, k * 16 + 1, none⟩) (.inr (.inl rfl)) _)
    have HR := (show Hid (OwnL (y0.setCell ⟨g, k * 16 + 1, none⟩ (.int .i64 (c0 + 1))) (P.record.before.data.rows ++ (P.record.after.data.rows ++ ((P.record.txns.rows 4) ++ ((P.record.dirty.rows 2) ++ (P.record.image.rows ++ (frRows (ps.drop (k + 1))))))))) from OwnL.kept (R := fun b => b = g) HR.out (Kept.setCell (R := fun b => b = g) (Kept.refl _ _) (p := ⟨g, k * 16 + 1, none⟩) (.inr rfl) _) (fun b hb => HG.out b (sZ.out b hb)))
    generalize (y0.setCell ⟨g, k * 16 + 1, none⟩ (.int .i64 (c0 + 1))) = y1 at jb HK HR ⊢
    clear z zf
    have z : y1.cell? ⟨g, k * 16 + 2, none⟩ = some (.int .i64 P.record.kind) := jb.out.cellMid (jr _).out 2 (by decide) _ (by rw [kk.out]; rfl)
    have zf := jb.out.frozen (jr _).out (k * 16 + 2)
    go_upto_region 9 with fail
    have pH := (show Hid (OwnR kFr 0 51 5 (y1.setCell ⟨g, k * 16 + 2, none⟩ (.int .i64 (c0 + 1 + 1))) (.slice (some ⟨g, 0, none⟩) len cap) (qs ++ (⟨(c0), (c0 + 1), ⟨(c0 + 1 + 1), P.record.txn, P.record.prev, P.record.page, P.record.slot, ⟨P.record.before.used, P.record.before.data⟩, ⟨P.record.after.used, P.record.after.data⟩, P.record.uN, P.record.nT, P.record.txns, P.record.dirty, P.record.image⟩⟩ : StLogFrame) :: ps.drop (k + 1))) from jb.out.set (p' := (⟨(c0), (c0 + 1), ⟨(c0 + 1 + 1), P.record.txn, P.record.prev, P.record.page, P.record.slot, ⟨P.record.before.used, P.record.before.data⟩, ⟨P.record.after.used, P.record.after.data⟩, P.record.uN, P.record.nT, P.record.txns, P.record.dirty, P.record.image⟩⟩ : StLogFrame)) (jr _).out 2 (.int .i64 (c0 + 1 + 1)) (by decide) rfl rfl rfl _ (by rw [kk.out]; rfl))
    have HK := (show Hid (Kept (footFr (.slice (some ⟨g, 0, none⟩) len cap) ps) w (y1.setCell ⟨g, k * 16 + 2, none⟩ (.int .i64 (c0 + 1 + 1)))) from HK.out.setCell (p := ⟨g, k * 16 + 2, none⟩) (.inr (.inl rfl)) _)
    have HR := (show Hid (OwnL (y1.setCell ⟨g, k * 16 + 2, none⟩ (.int .i64 (c0 + 1 + 1))) (P.record.before.data.rows ++ (P.record.after.data.rows ++ ((P.record.txns.rows 4) ++ ((P.record.dirty.rows 2) ++ (P.record.image.rows ++ (frRows (ps.drop (k + 1))))))))) from OwnL.kept (R := fun b => b = g) HR.out (Kept.setCell (R := fun b => b = g) (Kept.refl _ _) (p := ⟨g, k * 16 + 2, none⟩) (.inr rfl) _) (fun b hb => HG.out b (sZ.out b hb)))
    generalize (y1.setCell ⟨g, k * 16 + 2, none⟩ (.int .i64 (c0 + 1 + 1))) = y2 at pH HK HR ⊢
    clear z zf
    have z : y2.cell? ⟨g, k * 16 + 3, none⟩ = some (.int .i64 P.record.txn) := pH.out.cellMid (jr _).out 3 (by decide) _ (by rw [kk.out]; rfl)
    have zf := pH.out.frozen (jr _).out (k * 16 + 3)
    go_upto_region 11 with fail
    have AW := (show Hid (OwnR kFr 0 51 5 (y2.setCell ⟨g, k * 16 + 3, none⟩ (.int .i64 (c0 + 1 + 1 + 1))) (.slice (some ⟨g, 0, none⟩) len cap) (qs ++ (⟨(c0), (c0 + 1), ⟨(c0 + 1 + 1), (c0 + 1 + 1 + 1), P.record.prev, P.record.page, P.record.slot, ⟨P.record.before.used, P.record.before.data⟩, ⟨P.record.after.used, P.record.after.data⟩, P.record.uN, P.record.nT, P.record.txns, P.record.dirty, P.record.image⟩⟩ : StLogFrame) :: ps.drop (k + 1))) from pH.out.set (p' := (⟨(c0), (c0 + 1), ⟨(c0 + 1 + 1), (c0 + 1 + 1 + 1), P.record.prev, P.record.page, P.record.slot, ⟨P.record.before.used, P.record.before.data⟩, ⟨P.record.after.used, P.record.after.data⟩, P.record.uN, P.record.nT, P.record.txns, P.record.dirty, P.record.image⟩⟩ : StLogFrame)) (jr _).out 3 (.int .i64 (c0 + 1 + 1 + 1)) (by decide) rfl rfl rfl _ (by rw [kk.out]; rfl))
    have HK := (show Hid (Kept (footFr (.slice (some ⟨g, 0, none⟩) len cap) ps) w (y2.setCell ⟨g, k * 16 + 3, none⟩ (.int .i64 (c0 + 1 + 1 + 1)))) from HK.out.setCell (p := ⟨g, k * 16 + 3, none⟩) (.inr (.inl rfl)) _)
    have HR := (show Hid (OwnL (y2.setCell ⟨g, k * 16 + 3, none⟩ (.int .i64 (c0 + 1 + 1 + 1))) (P.record.before.data.rows ++ (P.record.after.data.rows ++ ((P.record.txns.rows 4) ++ ((P.record.dirty.rows 2) ++ (P.record.image.rows ++ (frRows (ps.drop (k + 1))))))))) from OwnL.kept (R := fun b => b = g) HR.out (Kept.setCell (R := fun b => b = g) (Kept.refl _ _) (p := ⟨g, k * 16 + 3, none⟩) (.inr rfl) _) (fun b hb => HG.out b (sZ.out b hb)))
    generalize (y2.setCell ⟨g, k * 16 + 3, none⟩ (.int .i64 (c0 + 1 + 1 + 1))) = y3 at AW HK HR ⊢
    clear z zf
    have z : y3.cell? ⟨g, k * 16 + 4, none⟩ = some (.int .i64 P.record.prev) := AW.out.cellMid (jr _).out 4 (by decide) _ (by rw [kk.out]; rfl)
    have zf := AW.out.frozen (jr _).out (k * 16 + 4)
    go_upto_region 13 with fail
    have uP := (show Hid (OwnR kFr 0 51 5 (y3.setCell ⟨g, k * 16 + 4, none⟩ (.int .i64 (c0 + 1 + 1 + 1 + 1))) (.slice (some ⟨g, 0, none⟩) len cap) (qs ++ (⟨(c0), (c0 + 1), ⟨(c0 + 1 + 1), (c0 + 1 + 1 + 1), (c0 + 1 + 1 + 1 + 1), P.record.page, P.record.slot, ⟨P.record.before.used, P.record.before.data⟩, ⟨P.record.after.used, P.record.after.data⟩, P.record.uN, P.record.nT, P.record.txns, P.record.dirty, P.record.image⟩⟩ : StLogFrame) :: ps.drop (k + 1))) from AW.out.set (p' := (⟨(c0), (c0 + 1), ⟨(c0 + 1 + 1), (c0 + 1 + 1 + 1), (c0 + 1 + 1 + 1 + 1), P.record.page, P.record.slot, ⟨P.record.before.used, P.record.before.data⟩, ⟨P.record.after.used, P.record.after.data⟩, P.record.uN, P.record.nT, P.record.txns, P.record.dirty, P.record.image⟩⟩ : StLogFrame)) (jr _).out 4 (.int .i64 (c0 + 1 + 1 + 1 + 1)) (by decide) rfl rfl rfl _ (by rw [kk.out]; rfl))
    have HK := (show Hid (Kept (footFr (.slice (some ⟨g, 0, none⟩) len cap) ps) w (y3.setCell ⟨g, k * 16 + 4, none⟩ (.int .i64 (c0 + 1 + 1 + 1 + 1)))) from HK.out.setCell (p := ⟨g, k * 16 + 4, none⟩) (.inr (.inl rfl)) _)
    have HR := (show Hid (OwnL (y3.setCell ⟨g, k * 16 + 4, none⟩ (.int .i64 (c0 + 1 + 1 + 1 + 1))) (P.record.before.data.rows ++ (P.record.after.data.rows ++ ((P.record.txns.rows 4) ++ ((P.record.dirty.rows 2) ++ (P.record.image.rows ++ (frRows (ps.drop (k + 1))))))))) from OwnL.kept (R := fun b => b = g) HR.out (Kept.setCell (R := fun b => b = g) (Kept.refl _ _) (p := ⟨g, k * 16 + 4, none⟩) (.inr rfl) _) (fun b hb => HG.out b (sZ.out b hb)))
    generalize (y3.setCell ⟨g, k * 16 + 4, none⟩ (.int .i64 (c0 + 1 + 1 + 1 + 1))) = y4 at uP HK HR ⊢
    clear z zf
    have z : y4.cell? ⟨g, k * 16 + 5, none⟩ = some (.int .i64 P.record.page) := uP.out.cellMid (jr _).out 5 (by decide) _ (by rw [kk.out]; rfl)
    have zf := uP.out.frozen (jr _).out (k * 16 + 5)
    go_upto_region 15 with fail
    have rP := (show Hid (OwnR kFr 0 51 5 (y4.setCell ⟨g, k * 16 + 5, none⟩ (.int .i64 (c0 + 1 + 1 + 1 + 1 + 1))) (.slice (some ⟨g, 0, none⟩) len cap) (qs ++ (⟨(c0), (c0 + 1), ⟨(c0 + 1 + 1), (c0 + 1 + 1 + 1), (c0 + 1 + 1 + 1 + 1), (c0 + 1 + 1 + 1 + 1 + 1), P.record.slot, ⟨P.record.before.used, P.record.before.data⟩, ⟨P.record.after.used, P.record.after.data⟩, P.record.uN, P.record.nT, P.record.txns, P.record.dirty, P.record.image⟩⟩ : StLogFrame) :: ps.drop (k + 1))) from uP.out.set (p' := (⟨(c0), (c0 + 1), ⟨(c0 + 1 + 1), (c0 + 1 + 1 + 1), (c0 + 1 + 1 + 1 + 1), (c0 + 1 + 1 + 1 + 1 + 1), P.record.slot, ⟨P.record.before.used, P.record.before.data⟩, ⟨P.record.after.used, P.record.after.data⟩, P.record.uN, P.record.nT, P.record.txns, P.record.dirty, P.record.image⟩⟩ : StLogFrame)) (jr _).out 5 (.int .i64 (c0 + 1 + 1 + 1 + 1 + 1)) (by decide) rfl rfl rfl _ (by rw [kk.out]; rfl))
    have HK := (show Hid (Kept (footFr (.slice (some ⟨g, 0, none⟩) len cap) ps) w (y4.setCell ⟨g, k * 16 + 5, none⟩ (.int .i64 (c0 + 1 + 1 + 1 + 1 + 1)))) from HK.out.setCell (p := ⟨g, k * 16 + 5, none⟩) (.inr (.inl rfl)) _)
    have HR := (show Hid (OwnL (y4.setCell ⟨g, k * 16 + 5, none⟩ (.int .i64 (c0 + 1 + 1 + 1 + 1 + 1))) (P.record.before.data.rows ++ (P.record.after.data.rows ++ ((P.record.txns.rows 4) ++ ((P.record.dirty.rows 2) ++ (P.record.image.rows ++ (frRows (ps.drop (k + 1))))))))) from OwnL.kept (R := fun b => b = g) HR.out (Kept.setCell (R := fun b => b = g) (Kept.refl _ _) (p := ⟨g, k * 16 + 5, none⟩) (.inr rfl) _) (fun b hb => HG.out b (sZ.out b hb)))
    generalize (y4.setCell ⟨g, k * 16 + 5, none⟩ (.int .i64 (c0 + 1 + 1 + 1 + 1 + 1))) = y5 at rP HK HR ⊢
    clear z zf
    have z : y5.cell? ⟨g, k * 16 + 6, none⟩ = some (.int .i64 P.record.slot) := rP.out.cellMid (jr _).out 6 (by decide) _ (by rw [kk.out]; rfl)
    have zf := rP.out.frozen (jr _).out (k * 16 + 6)
    go_upto_region 17 with fail
    have nI := (show Hid (OwnR kFr 0 51 5 (y5.setCell ⟨g, k * 16 + 6, none⟩ (.int .i64 (c0 + 1 + 1 + 1 + 1 + 1 + 1))) (.slice (some ⟨g, 0, none⟩) len cap) (qs ++ (⟨(c0), (c0 + 1), ⟨(c0 + 1 + 1), (c0 + 1 + 1 + 1), (c0 + 1 + 1 + 1 + 1), (c0 + 1 + 1 + 1 + 1 + 1), (c0 + 1 + 1 + 1 + 1 + 1 + 1), ⟨P.record.before.used, P.record.before.data⟩, ⟨P.record.after.used, P.record.after.data⟩, P.record.uN, P.record.nT, P.record.txns, P.record.dirty, P.record.image⟩⟩ : StLogFrame) :: ps.drop (k + 1))) from rP.out.set (p' := (⟨(c0), (c0 + 1), ⟨(c0 + 1 + 1), (c0 + 1 + 1 + 1), (c0 + 1 + 1 + 1 + 1), (c0 + 1 + 1 + 1 + 1 + 1), (c0 + 1 + 1 + 1 + 1 + 1 + 1), ⟨P.record.before.used, P.record.before.data⟩, ⟨P.record.after.used, P.record.after.data⟩, P.record.uN, P.record.nT, P.record.txns, P.record.dirty, P.record.image⟩⟩ : StLogFrame)) (jr _).out 6 (.int .i64 (c0 + 1 + 1 + 1 + 1 + 1 + 1)) (by decide) rfl rfl rfl _ (by rw [kk.out]; rfl))
    have HK := (show Hid (Kept (footFr (.slice (some ⟨g, 0, none⟩) len cap) ps) w (y5.setCell ⟨g, k * 16 + 6, none⟩ (.int .i64 (c0 + 1 + 1 + 1 + 1 + 1 + 1)))) from HK.out.setCell (p := ⟨g, k * 16 + 6, none⟩) (.inr (.inl rfl)) _)
    have HR := (show Hid (OwnL (y5.setCell ⟨g, k * 16 + 6, none⟩ (.int .i64 (c0 + 1 + 1 + 1 + 1 + 1 + 1))) (P.record.before.data.rows ++ (P.record.after.data.rows ++ ((P.record.txns.rows 4) ++ ((P.record.dirty.rows 2) ++ (P.record.image.rows ++ (frRows (ps.drop (k + 1))))))))) from OwnL.kept (R := fun b => b = g) HR.out (Kept.setCell (R := fun b => b = g) (Kept.refl _ _) (p := ⟨g, k * 16 + 6, none⟩) (.inr rfl) _) (fun b hb => HG.out b (sZ.out b hb)))
    generalize (y5.setCell ⟨g, k * 16 + 6, none⟩ (.int .i64 (c0 + 1 + 1 + 1 + 1 + 1 + 1))) = y6 at nI HK HR ⊢
    clear z zf
    have z : y6.cell? ⟨g, k * 16 + 7, none⟩ = some (.bool P.record.before.used) := nI.out.cellMid (jr _).out 7 (by decide) _ (by rw [kk.out]; rfl)
    have zf := nI.out.frozen (jr _).out (k * 16 + 7)
    go_upto_region 19 with fail
    have tS := (show Hid (OwnR kFr 0 51 5 (y6.setCell ⟨g, k * 16 + 7, none⟩ (.bool ((c0 + 1 + 1 + 1 + 1 + 1 + 1 + 1) % 3 == 0))) (.slice (some ⟨g, 0, none⟩) len cap) (qs ++ (⟨(c0), (c0 + 1), ⟨(c0 + 1 + 1), (c0 + 1 + 1 + 1), (c0 + 1 + 1 + 1 + 1), (c0 + 1 + 1 + 1 + 1 + 1), (c0 + 1 + 1 + 1 + 1 + 1 + 1), ⟨((c0 + 1 + 1 + 1 + 1 + 1 + 1 + 1) % 3 == 0), P.record.before.data⟩, ⟨P.record.after.used, P.record.after.data⟩, P.record.uN, P.record.nT, P.record.txns, P.record.dirty, P.record.image⟩⟩ : StLogFrame) :: ps.drop (k + 1))) from nI.out.set (p' := (⟨(c0), (c0 + 1), ⟨(c0 + 1 + 1), (c0 + 1 + 1 + 1), (c0 + 1 + 1 + 1 + 1), (c0 + 1 + 1 + 1 + 1 + 1), (c0 + 1 + 1 + 1 + 1 + 1 + 1), ⟨((c0 + 1 + 1 + 1 + 1 + 1 + 1 + 1) % 3 == 0), P.record.before.data⟩, ⟨P.record.after.used, P.record.after.data⟩, P.record.uN, P.record.nT, P.record.txns, P.record.dirty, P.record.image⟩⟩ : StLogFrame)) (jr _).out 7 (.bool ((c0 + 1 + 1 + 1 + 1 + 1 + 1 + 1) % 3 == 0)) (by decide) rfl rfl rfl _ (by rw [kk.out]; rfl))
    have HK := (show Hid (Kept (footFr (.slice (some ⟨g, 0, none⟩) len cap) ps) w (y6.setCell ⟨g, k * 16 + 7, none⟩ (.bool ((c0 + 1 + 1 + 1 + 1 + 1 + 1 + 1) % 3 == 0)))) from HK.out.setCell (p := ⟨g, k * 16 + 7, none⟩) (.inr (.inl rfl)) _)
    have HR := (show Hid (OwnL (y6.setCell ⟨g, k * 16 + 7, none⟩ (.bool ((c0 + 1 + 1 + 1 + 1 + 1 + 1 + 1) % 3 == 0))) (P.record.before.data.rows ++ (P.record.after.data.rows ++ ((P.record.txns.rows 4) ++ ((P.record.dirty.rows 2) ++ (P.record.image.rows ++ (frRows (ps.drop (k + 1))))))))) from OwnL.kept (R := fun b => b = g) HR.out (Kept.setCell (R := fun b => b = g) (Kept.refl _ _) (p := ⟨g, k * 16 + 7, none⟩) (.inr rfl) _) (fun b hb => HG.out b (sZ.out b hb)))
    generalize (y6.setCell ⟨g, k * 16 + 7, none⟩ (.bool ((c0 + 1 + 1 + 1 + 1 + 1 + 1 + 1) % 3 == 0))) = y7 at tS HK HR ⊢
    clear z zf
    have z : y7.cell? ⟨g, k * 16 + 8, none⟩ = some (P.record.before.data.v) := tS.out.cellMid (jr _).out 8 (by decide) _ (by rw [kk.out]; rfl)
    go_wp2_with fail
    refine (markByteS_own 0 P.record.before.data.v P.record.before.data.bs (c0 + 1 + 1 + 1 + 1 + 1 + 1 + 1 + 1) _ (by omega) (by omega) (by omega) (OwnL.of_one HR.out.left)).mono ?_
    rintro e x1 ⟨rfl, _, hk⟩
    have hk : Kept (FootL P.record.before.data.rows) _ x1 := hk.mono (fun b _ h => (footL_ints _ _ _ _ _).2 h)
    have pB := hid (tS.out.kept hk (fun b hb h => HG.out b (sZ.out b ((FootL_append _ _ _).2 (.inl h))) (by have h2 : g = b := (by simpa [Value.ownBlock] using footFr_head hb); exact h2.symm)))
    have HK := hid (HK.out.next hk (fun b _ h => .inr (sZ.out b ((FootL_append _ _ _).2 (.inl h)))))
    have HR := (show Hid (OwnL x1 (P.record.after.data.rows ++ ((P.record.txns.rows 4) ++ ((P.record.dirty.rows 2) ++ (P.record.image.rows ++ (frRows (ps.drop (k + 1)))))))) from HR.out.right.kept hk (fun b hb h => HR.out.cut b h hb))
    have E4 := (show Hid (∀ b, FootL (P.record.after.data.rows ++ ((P.record.txns.rows 4) ++ ((P.record.dirty.rows 2) ++ (P.record.image.rows ++ (frRows (ps.drop (k + 1))))))) b → FootL (frRows ps) b) from fun b hb => sZ.out b ((FootL_append _ _ _).2 (.inr hb)))
    obtain ⟨c1, mZ⟩ : ∃ z : Int, c0 + 1 + 1 + 1 + 1 + 1 + 1 + 1 + 1 + (P.record.before.data.bs.length : Int) = z := ⟨_, rfl⟩
    have RI : 0 ≤ c1 := by omega
    have Ry : c1 + 3 + (P.record.after.data.bs.length : Int) + (P.record.txns.bs.length : Int) + (P.record.dirty.bs.length : Int) + (P.record.image.bs.length : Int) ≤ 1125899906842624 := by omega
    have bG := hid mZ
    rw [mZ]
    clear mZ hk z SN Rx
    have z : x1.cell? ⟨g, k * 16 + 9, none⟩ = some (.bool P.record.after.used) := pB.out.cellMid (jr _).out 9 (by decide) _ (by rw [kk.out]; rfl)
    have zf := pB.out.frozen (jr _).out (k * 16 + 9)
    go_upto_region 22 with fail
    have yB := (show Hid (OwnR kFr 0 51 5 (x1.setCell ⟨g, k * 16 + 9, none⟩ (.bool (c1 % 3 == 0))) (.slice (some ⟨g, 0, none⟩) len cap) (qs ++ (⟨(c0), (c0 + 1), ⟨(c0 + 1 + 1), (c0 + 1 + 1 + 1), (c0 + 1 + 1 + 1 + 1), (c0 + 1 + 1 + 1 + 1 + 1), (c0 + 1 + 1 + 1 + 1 + 1 + 1), ⟨((c0 + 1 + 1 + 1 + 1 + 1 + 1 + 1) % 3 == 0), P.record.before.data⟩, ⟨(c1 % 3 == 0), P.record.after.data⟩, P.record.uN, P.record.nT, P.record.txns, P.record.dirty, P.record.image⟩⟩ : StLogFrame) :: ps.drop (k + 1))) from pB.out.set (p' := (⟨(c0), (c0 + 1), ⟨(c0 + 1 + 1), (c0 + 1 + 1 + 1), (c0 + 1 + 1 + 1 + 1), (c0 + 1 + 1 + 1 + 1 + 1), (c0 + 1 + 1 + 1 + 1 + 1 + 1), ⟨((c0 + 1 + 1 + 1 + 1 + 1 + 1 + 1) % 3 == 0), P.record.before.data⟩, ⟨(c1 % 3 == 0), P.record.after.data⟩, P.record.uN, P.record.nT, P.record.txns, P.record.dirty, P.record.image⟩⟩ : StLogFrame)) (jr _).out 9 (.bool (c1 % 3 == 0)) (by decide) rfl rfl rfl _ (by rw [kk.out]; rfl))
    have HK := (show Hid (Kept (footFr (.slice (some ⟨g, 0, none⟩) len cap) ps) w (x1.setCell ⟨g, k * 16 + 9, none⟩ (.bool (c1 % 3 == 0)))) from HK.out.setCell (p := ⟨g, k * 16 + 9, none⟩) (.inr (.inl rfl)) _)
    have HR := (show Hid (OwnL (x1.setCell ⟨g, k * 16 + 9, none⟩ (.bool (c1 % 3 == 0))) (P.record.after.data.rows ++ ((P.record.txns.rows 4) ++ ((P.record.dirty.rows 2) ++ (P.record.image.rows ++ (frRows (ps.drop (k + 1)))))))) from OwnL.kept (R := fun b => b = g) HR.out (Kept.setCell (R := fun b => b = g) (Kept.refl _ _) (p := ⟨g, k * 16 + 9, none⟩) (.inr rfl) _) (fun b hb => HG.out b (E4.out b hb)))
    generalize (x1.setCell ⟨g, k * 16 + 9, none⟩ (.bool (c1 % 3 == 0))) = y9 at yB HK HR ⊢
    clear z zf
    have z : y9.cell? ⟨g, k * 16 + 10, none⟩ = some (P.record.after.data.v) := yB.out.cellMid (jr _).out 10 (by decide) _ (by rw [kk.out]; rfl)
    go_wp2_with fail
    refine (markByteS_own 0 P.record.after.data.v P.record.after.data.bs (c1 + 1) _ (by omega) (by omega) (by omega) (OwnL.of_one HR.out.left)).mono ?_
    rintro e x2 ⟨rfl, _, hk⟩
    have hk : Kept (FootL P.record.after.data.rows) _ x2 := hk.mono (fun b _ h => (footL_ints _ _ _ _ _).2 h)
    have zj := hid (yB.out.kept hk (fun b hb h => HG.out b (E4.out b ((FootL_append _ _ _).2 (.inl h))) (by have h2 : g = b := (by simpa [Value.ownBlock] using footFr_head hb); exact h2.symm)))
    have HK := hid (HK.out.next hk (fun b _ h => .inr (E4.out b ((FootL_append _ _ _).2 (.inl h)))))
    have HR := (show Hid (OwnL x2 ((P.record.txns.rows 4) ++ ((P.record.dirty.rows 2) ++ (P.record.image.rows ++ (frRows (ps.drop (k + 1))))))) from HR.out.right.kept hk (fun b hb h => HR.out.cut b h hb))
    have DN := (show Hid (∀ b, FootL ((P.record.txns.rows 4) ++ ((P.record.dirty.rows 2) ++ (P.record.image.rows ++ (frRows (ps.drop (k + 1)))))) b → FootL (frRows ps) b) from fun b hb => E4.out b ((FootL_append _ _ _).2 (.inr hb)))
    obtain ⟨c2, mZ⟩ : ∃ z : Int, c1 + 1 + (P.record.after.data.bs.length : Int) = z := ⟨_, rfl⟩
    have RZ : 0 ≤ c2 := by omega
    have TL : c2 + 2 + (P.record.txns.bs.length : Int) + (P.record.dirty.bs.length : Int) + (P.record.image.bs.length : Int) ≤ 1125899906842624 := by omega
    have cx := hid mZ
    rw [mZ]
    clear mZ hk z RI Ry
    have z : x2.cell? ⟨g, k * 16 + 11, none⟩ = some (.int .i64 P.record.uN) := zj.out.cellMid (jr _).out 11 (by decide) _ (by rw [kk.out]; rfl)
    have zf := zj.out.frozen (jr _).out (k * 16 + 11)
    go_upto_region 25 with fail
    have uG := (show Hid (OwnR kFr 0 51 5 (x2.setCell ⟨g, k * 16 + 11, none⟩ (.int .i64 (c2))) (.slice (some ⟨g, 0, none⟩) len cap) (qs ++ (⟨(c0), (c0 + 1), ⟨(c0 + 1 + 1), (c0 + 1 + 1 + 1), (c0 + 1 + 1 + 1 + 1), (c0 + 1 + 1 + 1 + 1 + 1), (c0 + 1 + 1 + 1 + 1 + 1 + 1), ⟨((c0 + 1 + 1 + 1 + 1 + 1 + 1 + 1) % 3 == 0), P.record.before.data⟩, ⟨(c1 % 3 == 0), P.record.after.data⟩, (c2), P.record.nT, P.record.txns, P.record.dirty, P.record.image⟩⟩ : StLogFrame) :: ps.drop (k + 1))) from zj.out.set (p' := (⟨(c0), (c0 + 1), ⟨(c0 + 1 + 1), (c0 + 1 + 1 + 1), (c0 + 1 + 1 + 1 + 1), (c0 + 1 + 1 + 1 + 1 + 1), (c0 + 1 + 1 + 1 + 1 + 1 + 1), ⟨((c0 + 1 + 1 + 1 + 1 + 1 + 1 + 1) % 3 == 0), P.record.before.data⟩, ⟨(c1 % 3 == 0), P.record.after.data⟩, (c2), P.record.nT, P.record.txns, P.record.dirty, P.record.image⟩⟩ : StLogFrame)) (jr _).out 11 (.int .i64 (c2)) (by decide) rfl rfl rfl _ (by rw [kk.out]; rfl))
    have HK := (show Hid (Kept (footFr (.slice (some ⟨g, 0, none⟩) len cap) ps) w (x2.setCell ⟨g, k * 16 + 11, none⟩ (.int .i64 (c2)))) from HK.out.setCell (p := ⟨g, k * 16 + 11, none⟩) (.inr (.inl rfl)) _)
    have HR := (show Hid (OwnL (x2.setCell ⟨g, k * 16 + 11, none⟩ (.int .i64 (c2))) ((P.record.txns.rows 4) ++ ((P.record.dirty.rows 2) ++ (P.record.image.rows ++ (frRows (ps.drop (k + 1))))))) from OwnL.kept (R := fun b => b = g) HR.out (Kept.setCell (R := fun b => b = g) (Kept.refl _ _) (p := ⟨g, k * 16 + 11, none⟩) (.inr rfl) _) (fun b hb => HG.out b (DN.out b hb)))
    generalize (x2.setCell ⟨g, k * 16 + 11, none⟩ (.int .i64 (c2))) = m9 at uG HK HR ⊢
    clear z zf
    have z : m9.cell? ⟨g, k * 16 + 12, none⟩ = some (.int .i64 P.record.nT) := uG.out.cellMid (jr _).out 12 (by decide) _ (by rw [kk.out]; rfl)
    have zf := uG.out.frozen (jr _).out (k * 16 + 12)
    go_upto_region 27 with fail
    have zB := (show Hid (OwnR kFr 0 51 5 (m9.setCell ⟨g, k * 16 + 12, none⟩ (.int .i64 (c2 + 1))) (.slice (some ⟨g, 0, none⟩) len cap) (qs ++ (⟨(c0), (c0 + 1), ⟨(c0 + 1 + 1), (c0 + 1 + 1 + 1), (c0 + 1 + 1 + 1 + 1), (c0 + 1 + 1 + 1 + 1 + 1), (c0 + 1 + 1 + 1 + 1 + 1 + 1), ⟨((c0 + 1 + 1 + 1 + 1 + 1 + 1 + 1) % 3 == 0), P.record.before.data⟩, ⟨(c1 % 3 == 0), P.record.after.data⟩, (c2), (c2 + 1), P.record.txns, P.record.dirty, P.record.image⟩⟩ : StLogFrame) :: ps.drop (k + 1))) from uG.out.set (p' := (⟨(c0), (c0 + 1), ⟨(c0 + 1 + 1), (c0 + 1 + 1 + 1), (c0 + 1 + 1 + 1 + 1), (c0 + 1 + 1 + 1 + 1 + 1), (c0 + 1 + 1 + 1 + 1 + 1 + 1), ⟨((c0 + 1 + 1 + 1 + 1 + 1 + 1 + 1) % 3 == 0), P.record.before.data⟩, ⟨(c1 % 3 == 0), P.record.after.data⟩, (c2), (c2 + 1), P.record.txns, P.record.dirty, P.record.image⟩⟩ : StLogFrame)) (jr _).out 12 (.int .i64 (c2 + 1)) (by decide) rfl rfl rfl _ (by rw [kk.out]; rfl))
    have HK := (show Hid (Kept (footFr (.slice (some ⟨g, 0, none⟩) len cap) ps) w (m9.setCell ⟨g, k * 16 + 12, none⟩ (.int .i64 (c2 + 1)))) from HK.out.setCell (p := ⟨g, k * 16 + 12, none⟩) (.inr (.inl rfl)) _)
    have HR := (show Hid (OwnL (m9.setCell ⟨g, k * 16 + 12, none⟩ (.int .i64 (c2 + 1))) ((P.record.txns.rows 4) ++ ((P.record.dirty.rows 2) ++ (P.record.image.rows ++ (frRows (ps.drop (k + 1))))))) from OwnL.kept (R := fun b => b = g) HR.out (Kept.setCell (R := fun b => b = g) (Kept.refl _ _) (p := ⟨g, k * 16 + 12, none⟩) (.inr rfl) _) (fun b hb => HG.out b (DN.out b hb)))
    generalize (m9.setCell ⟨g, k * 16 + 12, none⟩ (.int .i64 (c2 + 1))) = ov at zB HK HR ⊢
    clear z zf
    have z : ov.cell? ⟨g, k * 16 + 13, none⟩ = some (P.record.txns.v) := zB.out.cellMid (jr _).out 13 (by decide) _ (by rw [kk.out]; rfl)
    go_wp2_with fail
    refine (markTxnEntryS_own P.record.txns (c2 + 1 + 1) _ (by omega) (by omega) HR.out.left).mono ?_
    rintro e x3 ⟨rfl, _, hk⟩
    have hk : Kept (FootL (P.record.txns.rows 4)) _ x3 := hk
    have BL := hid (zB.out.kept hk (fun b hb h => HG.out b (DN.out b ((FootL_append _ _ _).2 (.inl h))) (by have h2 : g = b := (by simpa [Value.ownBlock] using footFr_head hb); exact h2.symm)))
    have HK := hid (HK.out.next hk (fun b _ h => .inr (DN.out b ((FootL_append _ _ _).2 (.inl h)))))
    have HR := (show Hid (OwnL x3 ((P.record.dirty.rows 2) ++ (P.record.image.rows ++ (frRows (ps.drop (k + 1)))))) from HR.out.right.kept hk (fun b hb h => HR.out.cut b h hb))
    have Io := (show Hid (∀ b, FootL ((P.record.dirty.rows 2) ++ (P.record.image.rows ++ (frRows (ps.drop (k + 1))))) b → FootL (frRows ps) b) from fun b hb => DN.out b ((FootL_append _ _ _).2 (.inr hb)))
    obtain ⟨c3, mZ⟩ : ∃ z : Int, c2 + 1 + 1 + (P.record.txns.bs.length : Int) = z := ⟨_, rfl⟩
    have m5 : 0 ≤ c3 := by omega
    have Tc : c3 + 0 + (P.record.dirty.bs.length : Int) + (P.record.image.bs.length : Int) ≤ 1125899906842624 := by omega
    have gv := hid mZ
    rw [mZ]
    clear mZ hk z RZ TL
    have z : x3.cell? ⟨g, k * 16 + 14, none⟩ = some (P.record.dirty.v) := BL.out.cellMid (jr _).out 14 (by decide) _ (by rw [kk.out]; rfl)
    go_wp2_with fail
    refine (markDirtyEntryS_own P.record.dirty (c3) _ (by omega) (by omega) HR.out.left).mono ?_
    rintro e x4 ⟨rfl, _, hk⟩
    have hk : Kept (FootL (P.record.dirty.rows 2)) _ x4 := hk
    have Cn := hid (BL.out.kept hk (fun b hb h => HG.out b (Io.out b ((FootL_append _ _ _).2 (.inl h))) (by have h2 : g = b := (by simpa [Value.ownBlock] using footFr_head hb); exact h2.symm)))
    have HK := hid (HK.out.next hk (fun b _ h => .inr (Io.out b ((FootL_append _ _ _).2 (.inl h)))))
    have HR := (show Hid (OwnL x4 (P.record.image.rows ++ (frRows (ps.drop (k + 1))))) from HR.out.right.kept hk (fun b hb h => HR.out.cut b h hb))
    have Ho := (show Hid (∀ b, FootL (P.record.image.rows ++ (frRows (ps.drop (k + 1)))) b → FootL (frRows ps) b) from fun b hb => Io.out b ((FootL_append _ _ _).2 (.inr hb)))
    obtain ⟨c4, mZ⟩ : ∃ z : Int, c3 + (P.record.dirty.bs.length : Int) = z := ⟨_, rfl⟩
    have SF : 0 ≤ c4 := by omega
    have Ro : c4 + 0 + (P.record.image.bs.length : Int) ≤ 1125899906842624 := by omega
    have i5 := hid mZ
    rw [mZ]
    clear mZ hk z m5 Tc
    have z : x4.cell? ⟨g, k * 16 + 15, none⟩ = some (P.record.image.v) := Cn.out.cellMid (jr _).out 15 (by decide) _ (by rw [kk.out]; rfl)
    go_wp2_with fail
    refine (markByteS_own 0 P.record.image.v P.record.image.bs (c4) _ (by omega) (by omega) (by omega) (OwnL.of_one HR.out.left)).mono ?_
    rintro e x5 ⟨rfl, _, hk⟩
    have hk : Kept (FootL P.record.image.rows) _ x5 := hk.mono (fun b _ h => (footL_ints _ _ _ _ _).2 h)
    have G0 := hid (Cn.out.kept hk (fun b hb h => HG.out b (Ho.out b ((FootL_append _ _ _).2 (.inl h))) (by have h2 : g = b := (by simpa [Value.ownBlock] using footFr_head hb); exact h2.symm)))
    have HK := hid (HK.out.next hk (fun b _ h => .inr (Ho.out b ((FootL_append _ _ _).2 (.inl h)))))
    have HR := (show Hid (OwnL x5 (frRows (ps.drop (k + 1)))) from HR.out.right.kept hk (fun b hb h => HR.out.cut b h hb))
    have UN := (show Hid (∀ b, FootL (frRows (ps.drop (k + 1))) b → FootL (frRows ps) b) from fun b hb => Ho.out b ((FootL_append _ _ _).2 (.inr hb)))
    obtain ⟨c5, mZ⟩ : ∃ z : Int, c4 + (P.record.image.bs.length : Int) = z := ⟨_, rfl⟩
    have Va : 0 ≤ c5 := by omega
    have Vr : c5 + 0 ≤ 1125899906842624 := by omega
    have jQ := hid mZ
    rw [mZ]
    clear mZ hk z SF Ro
    go_wp2
    go_roundw
    case rel =>
     refine ⟨k + 1, c5, qs ++ [(⟨(c0), (c0 + 1), ⟨(c0 + 1 + 1), (c0 + 1 + 1 + 1), (c0 + 1 + 1 + 1 + 1), (c0 + 1 + 1 + 1 + 1 + 1), (c0 + 1 + 1 + 1 + 1 + 1 + 1), ⟨((c0 + 1 + 1 + 1 + 1 + 1 + 1 + 1) % 3 == 0), P.record.before.data⟩, ⟨(c1 % 3 == 0), P.record.after.data⟩, (c2), (c2 + 1), P.record.txns, P.record.dirty, P.record.image⟩⟩ : StLogFrame)], by omega, by go_num, rfl, by have e1 := bG.out; have e2 := cx.out; have e3 := gv.out; have e4 := i5.out; have e5 := jQ.out; unfold Hid; rw [pV.out]; omega, by have := kk.out; simp [Hid]; exact this, by rw [List.append_assoc]; exact G0, HR, HK⟩
    case measure => simp [intOf]; omega
   ·go_wp2
    go_ret
    obtain rfl : k = len := by omega
    have h2 := HL.out
    have h3 := HC.out
    rw [← h2, List.take_length] at h3
    subst h3
    exact ⟨by first | rfl | trivial, trivial, bk.out⟩
structure FrOK (qs : List StLogFrame) : Prop where
 len : qs.length ≤ 1048576
 each : ∀ p ∈ qs, p.szs ≤ 1048576
 sum : sizeFr qs ≤ 1048576
 isB : ∀ p ∈ qs, p.isB
theorem isB_fr {x y : StLogFrame} (h : y.dat = x.dat) (hx : x.isB) : y.isB := by
 simp only [StLogFrame.dat, StLogRecord.dat, StPageRecord.dat, Prod.mk.injEq] at h
 obtain ⟨_, _, _, _, _, _, _, ⟨_, h1⟩, ⟨_, h2⟩, _, _, _, _, h3⟩ := h
 unfold StLogFrame.isB at *
 rw [h1, h2, h3]
 exact hx
theorem FrOK.of {qs ps : List StLogFrame} (h : datFr qs = datFr ps) (hz : szsFr qs = szsFr ps) (hB : ∀ p ∈ ps, p.isB) (hl : ps.length ≤ 1048576) (hs : sizeFr ps ≤ 1048576) : FrOK qs := by
 have gN : qs.length = ps.length := by rw [← datFr_length, ← datFr_length, h]
 have Tn := sizeFr_szs hz
 refine ⟨by omega, fun p hp => by have := sizeFr_mem qs p hp; omega, by omega, fun p hp => ?_⟩
 obtain ⟨k, hk, rfl⟩ := List.mem_iff_getElem.1 hp
 exact isB_fr (datFr_at h k hk (by omega)) (hB _ (List.getElem_mem (by omega)))
theorem szScan_any (v : Value) (ps : List StLogFrame) (en left : Int) (w : World) (h0 : 0 ≤ left) (h1 : left ≤ 1048576) (hp : RdFr w v ps) :
  Calls Tryz.prog 4 #[.agg #[v, .int .i64 en], .int .i64 left] w fun e w' => ∃ r : Int, e = .returned (.int .i64 r) ∧ (r = -1 ∨ (r = left - ps.length - sizeFr ps ∧ 0 ≤ r)) ∧ Same w w' := by
 have kz := fun wx hk => szLogFrameS_any v ps left wx h0 h1 (hp.same hk)
 obtain ⟨a, c, rfl⟩ := hp.row.form
 have bk := hid (sameA w [.slice a ps.length c, .int .i64 en] 24)
 obtain ⟨g0, g1⟩ := (Blk.newL w [.slice a ps.length c, .int .i64 en] 24).all2
 have hm := hp.row.max
 clear hp
 generalize hL : ps.length = L at *
 clear hL
 go_enter Tryz.func4, Tryz.ntmps4
 go_wp2_with fail
 refine (kz _ bk.out).mono ?_
 rintro e w1 ⟨r, rfl, hr, hk⟩
 have bq := hid (bk.out.trans hk)
 clear hk kz
 have S5 := hid hr
 rcases hr with rfl | ⟨hr, EW⟩
 ·go_wp2
  go_ret
  exact ⟨_, rfl, .inl rfl, bq.out⟩
 ·clear hr
  have pR : ¬ r < 0 := by omega
  go_wp2
  go_ret
  exact ⟨_, rfl, S5.out, bq.out⟩
theorem eqScan_own (va vb : Value) (ps qs : List StLogFrame) (en : Int) (w : World) (hn : ps.length ≤ 1125899906842624) (hs : datFr ps = datFr qs) (Et : ∀ p ∈ ps, p.size ≤ 1125899906842624) (ha : OwnFr w va ps) (hb : OwnFr w vb qs) :
  Calls Tryz.prog 9 #[.agg #[va, .int .i64 en], .agg #[vb, .int .i64 en]] w fun e w' => e = .returned (.bool true) ∧ Same w w' := by
 have ke := fun wx hk => eqLogFrameS_own va vb ps qs wx hn hs Et (ha.same hk) (hb.same hk)
 obtain ⟨a1, c1, rfl⟩ := ha.rd.row.form
 obtain ⟨a2, c2, rfl⟩ := hb.rd.row.form
 have bk := hid ((sameA w [.slice a1 ps.length c1, .int .i64 en] 34).trans (sameA _ [.slice a2 qs.length c2, .int .i64 en] 34))
 have ji := hid (Blk.newA w [.slice a1 ps.length c1, .int .i64 en] 34 [.slice a2 qs.length c2, .int .i64 en] 34)
 have cv := hid (Blk.newB w [.slice a1 ps.length c1, .int .i64 en] 34 [.slice a2 qs.length c2, .int .i64 en] 34)
 obtain ⟨g0, g1⟩ := ji.out.all2
 obtain ⟨g2, g3⟩ := cv.out.all2
 clear ha hb Et hs
 generalize ps.length = L at *
 generalize qs.length = M at *
 go_enter Tryz.func9, Tryz.ntmps9
 go_wp2_with fail
 refine (ke _ bk.out).mono ?_
 rintro e w1 ⟨rfl, hk⟩
 have bq := hid (bk.out.trans hk)
 have fz := hid (ji.out.same hk)
 have bG := hid (cv.out.same hk)
 clear hk ke g0 g1 g2 g3
 obtain ⟨g0, g1⟩ := fz.out.all2
 obtain ⟨g2, g3⟩ := bG.out.all2
 go_wp2
 go_ret
 exact ⟨rfl, bq.out⟩
theorem toScan_any (v : Value) (ps : List StLogFrame) (en : Int) (w : World) (hn : ps.length ≤ 1048576) (hs : ∀ p ∈ ps, p.szs ≤ 1073741824) (hv : RdFr w v ps) :
  Calls Tryz.prog 6 #[.agg #[v, .int .i64 en]] w fun e w' => ∃ g qs, e = .returned (.agg #[.slice (some ⟨g, 0, none⟩) ps.length ps.length, .int .i64 en]) ∧ datFr qs = datFr ps ∧ szsFr qs = szsFr ps ∧ (∀ b, footFr (.slice (some ⟨g, 0, none⟩) ps.length ps.length) qs b → w.heap.size ≤ b) ∧
   OwnFr w' (.slice (some ⟨g, 0, none⟩) ps.length ps.length) qs ∧ Same w w' := by
 have kt := fun wx hk => toLogFrameS_any v ps wx hn hs (hv.same hk)
 obtain ⟨a, c, rfl⟩ := hv.row.form
 clear hv hs
 generalize hL : ps.length = L at *
 clear hL
 have ep : Same w (((w.alloc (.cells #[.slice a L c, .int .i64 en] 24)).alloc (.cells #[.slice none 0 0, .int .i64 0] 34)).alloc (.cells #[.slice none 0 0, .int .i64 0] 34)) := ((sameA w [.slice a L c, .int .i64 en] 24).alloc _).alloc _
 have b0 : Blk (((w.alloc (.cells #[.slice a L c, .int .i64 en] 24)).alloc (.cells #[.slice none 0 0, .int .i64 0] 34)).alloc (.cells #[.slice none 0 0, .int .i64 0] 34)) w.heap.size 24 [.slice a L c, .int .i64 en] := ((Blk.newL w [.slice a L c, .int .i64 en] 24).same ((Kept.refl _ _).alloc _)).same ((Kept.refl _ _).alloc _)
 have b1 : Blk (((w.alloc (.cells #[.slice a L c, .int .i64 en] 24)).alloc (.cells #[.slice none 0 0, .int .i64 0] 34)).alloc (.cells #[.slice none 0 0, .int .i64 0] 34)) (w.heap.size + 1) 34 [.slice none 0 0, .int .i64 0] := by
  have h := (Blk.newL (w.alloc (.cells #[.slice a L c, .int .i64 en] 24)) [.slice none 0 0, .int .i64 0] 34).same ((Kept.refl _ _).alloc (.cells #[.slice none 0 0, .int .i64 0] 34))
  rw [World.size_alloc] at h
  exact h
 have b2 : Blk (((w.alloc (.cells #[.slice a L c, .int .i64 en] 24)).alloc (.cells #[.slice none 0 0, .int .i64 0] 34)).alloc (.cells #[.slice none 0 0, .int .i64 0] 34)) (w.heap.size + 1 + 1) 34 [.slice none 0 0, .int .i64 0] := by
  have h := Blk.newL ((w.alloc (.cells #[.slice a L c, .int .i64 en] 24)).alloc (.cells #[.slice none 0 0, .int .i64 0] 34)) [.slice none 0 0, .int .i64 0] 34
  rw [World.size_alloc, World.size_alloc] at h
  exact h
 have i1 : (((w.alloc (.cells #[.slice a L c, .int .i64 en] 24)).alloc (.cells #[.slice none 0 0, .int .i64 0] 34)).alloc (.cells #[.slice none 0 0, .int .i64 0] 34)).heap.size = w.heap.size + 1 + 1 + 1 := by simp only [World.size_alloc]
 have k0 := kt _ ep
 rw [i1] at k0
 have bk := hid ep
 have cv := hid b0
 have bG := hid b1
 have cx := hid b2
 clear ep b0 b1 b2 kt
 go_enter Tryz.func6, Tryz.ntmps6
 go_wp2_with fail
 refine k0.mono ?_
 rintro e w1 ⟨g, qs, rfl, hd, hz, hf, ho, hk⟩
 have j0 : w.heap.size + 1 + 1 + 1 ≤ w1.heap.size := by rw [← i1]; exact hk.size
 have HD := hid hd
 have HZ := hid hz
 have HF := (show Hid (∀ b, footFr (.slice (some ⟨g, 0, none⟩) L L) qs b → w.heap.size + 1 + 1 < b) from fun b hb => by have := hf b hb; omega)
 have HO := hid ho
 have bq := hid (bk.out.trans hk)
 obtain ⟨a0, a1⟩ := (cv.out.same hk).all2
 obtain ⟨r0, r1⟩ := (bG.out.same hk).all2
 obtain ⟨o0, o1⟩ := (cx.out.same hk).all2
 have fr := (bG.out.same hk).frozen
 have fo := (cx.out.same hk).frozen
 clear hd hz hf ho hk k0 cv bG cx i1 bk
 go_wp2
 refine bodyPost_ret (v := .agg #[.slice (some ⟨g, 0, none⟩) L L, .int .i64 en]) (by simp [results, Tryz.results6, go_sem, r0, r1, o0, o1]) rfl ⟨g, qs, rfl, HD.out, HZ.out, fun b hb => (by have := HF.out b hb; omega), ?_, ?_⟩
 ·have Tl : Kept (fun b => b = w.heap.size + 1 ∨ b = w.heap.size + 1 + 1) w1 ((((w1.setCell ⟨w.heap.size + 1 + 1, 0, none⟩ (.slice (some ⟨g, 0, none⟩) L L)).setCell ⟨w.heap.size + 1 + 1, 1, none⟩ (.int .i64 en)).setCell ⟨w.heap.size + 1, 0, none⟩ (.slice (some ⟨g, 0, none⟩) L L)).setCell ⟨w.heap.size + 1, 1, none⟩ (.int .i64 en)) := by
   iterate 2 refine Kept.setCell ?_ (.inr (.inl rfl)) _
   iterate 2 refine Kept.setCell ?_ (.inr (.inr rfl)) _
   exact Kept.refl _ _
  exact HO.out.kept Tl (fun b hb e => by have := HF.out b hb; omega)
 ·iterate 4 refine Kept.setCell ?_ (.inl (by simp only []; omega)) _
  exact bq.out
theorem markScan_own (va : Value) (ps : List StLogFrame) (en k0 : Int) (w : World) (h0 : 0 ≤ k0) (h1 : k0 + mzFr ps ≤ 1125899906842624) (hn : ps.length ≤ 1125899906842624) (ha : OwnFr w va ps) :
  Calls Tryz.prog 10 #[.agg #[va, .int .i64 en], .int .i64 k0] w fun e w' => e = .returned (.int .i64 (k0 + mzFr ps)) ∧ True ∧ Kept (footFr va ps) w w' := by
 have km := fun wx hk => markLogFrameS_own va ps k0 wx h0 h1 hn (ha.same hk)
 obtain ⟨a, c, rfl⟩ := ha.rd.row.form
 have bk := hid (sameA w [.slice a ps.length c, .int .i64 en] 34)
 obtain ⟨g0, g1⟩ := (Blk.newL w [.slice a ps.length c, .int .i64 en] 34).all2
 clear ha
 generalize hL : ps.length = L at *
 clear hL
 go_enter Tryz.func10, Tryz.ntmps10
 go_wp2_with fail
 refine (km _ bk.out).mono ?_
 rintro e w1 ⟨rfl, _, hk⟩
 have bq := hid ((bk.out.mono (fun _ _ e => absurd e id)).trans hk)
 clear hk km
 go_wp2
 go_ret
 exact ⟨rfl, trivial, bq.out⟩
theorem marksZ_at (k : Int) (n j : Nat) (h : j < n) : (marksZ k n).getD j 0 = k + j := by simp [marksZ, h, List.getD]
def LenE (w w' : World) (bs : List Int) (e : Ending) : Prop := ∃ a n c, e = .returned (.slice a n c) ∧ Own 0 2 .i64 w' (.slice a n c) bs ∧ (∀ b, (Value.slice a n c).ownBlock = some b → w.heap.size ≤ b) ∧ Same w w'
theorem LenE.of {w w' : World} {bs : List Int} {e : Ending} (h : LenE w w' bs e) : ∃ a c, e = .returned (.slice a bs.length c) ∧ (∀ b, (Value.slice a bs.length c).ownBlock = some b → w.heap.size ≤ b) ∧ Own 0 2 .i64 w' (.slice a bs.length c) bs ∧ Same w w' := by
 obtain ⟨a, n, c, rfl, ho, hf, hk⟩ := h
 obtain rfl : n = bs.length := by
  rcases ho.form with ⟨h, h'⟩ | ⟨g', cap, h, _⟩
  ·cases h; rw [h']; rfl
  ·cases h; rfl
 exact ⟨a, c, rfl, hf, ho, hk⟩
theorem markInt64S_te {te : TypeId} (base : Nat) (va : Value) (bs : List Int) (k0 : Int) (w : World) (hn : bs.length ≤ 1125899906842624) (h0 : 0 ≤ k0) (h1 : k0 ≤ 1125899906842624)
  (ha : Own base te .i64 w va bs) :
  Calls Tryz.prog 39 #[va, .int .i64 k0] w fun e w' => e = .returned (.int .i64 (k0 + bs.length)) ∧ Own base te .i64 w' va (marksZ k0 bs.length) ∧ Kept (fun b => va.ownBlock = some b) w w' := by
 by_cases hz : bs.length = 0
 ·obtain rfl : bs = [] := List.length_eq_zero_iff.1 hz
  obtain ⟨aa, ca, rfl⟩ : ∃ aa ca, va = .slice aa 0 ca := by rcases ha.form with ⟨rfl, _⟩ | ⟨g, cap, rfl, _⟩ <;> exact ⟨_, _, rfl⟩
  have HA : Hid (Own base te .i64 w (.slice aa 0 ca) []) := ha
  clear ha hn hz
  go_enter Tryz.func39, Tryz.ntmps39
  go_wp2
  refine wp_loop_rounds 1 ?_
  rw [rounds_succ]
  go_wp2
  go_ret
  exact ⟨by simp, by simpa [marksZ] using HA.out, Kept.refl _ _⟩
 ·obtain ⟨g, cap, rfl, hb, dh, _, _⟩ : ∃ g cap, va = .slice (some ⟨g, 0, none⟩) bs.length cap ∧ base ≤ g ∧ g < w.heap.size ∧ bs.length ≤ cap ∧ cap ≤ maxLen := by
   rcases ha.form with ⟨_, rfl⟩ | h
   ·simp at hz
   ·exact h
  generalize hl : bs.length = len at *
  have HL : Hid (bs.length = len) := hl
  clear hl
  go_enter Tryz.func39, Tryz.ntmps39
  go_wp2
  go_loopw [1, 5] (fun v i wr => ∃ k : Nat, k ≤ len ∧ i = .int .i64 k ∧ v = .int .i64 (k0 + k) ∧ Hid (Own base te .i64 wr (.slice (some ⟨g, 0, none⟩) len cap) (partZ k0 bs k)) ∧ Hid (Kept (fun b => b = g) w wr)) (fun _ i _ => len - (intOf i).toNat)
  case atStart => exact ⟨0, Nat.zero_le _, rfl, by simp, by rw [partZ_zero]; exact ha, Kept.refl _ _⟩
  case round =>
   obtain ⟨k, hk, rfl, rfl, HO, HK⟩ := hrel
   by_cases dh : k < len
   ·have hf := HO.out.frozen (by rw [partZ_length _ _ _ (by have := HL.out; omega)]; exact HL.out.symm) k
    have hc := HO.out.cell (by rw [partZ_length _ _ _ (by have := HL.out; omega)]; exact HL.out.symm) k dh
    clear ha
    go_wp2
    go_roundw
    case rel =>
     have hl := HL.out
     refine ⟨k + 1, by omega, by go_num, by go_num, ?_, HK.out.setCell (.inr rfl) _⟩
     have := HO.out.stored (by rw [partZ_length _ _ _ (by omega)]; omega) k (k0 + k)
     rwa [partZ_step _ _ _ (by omega)] at this
    case measure => simp [intOf]; omega
   ·go_wp2
    go_ret
    obtain rfl : k = len := by omega
    have hl := HL.out
    refine ⟨rfl, ?_, HK.out.mono (fun b _ e => by simp [Value.ownBlock, e])⟩
    have := HO.out
    rw [← hl, partZ_all, hl] at this
    exact this
theorem heldInt64S_te {te : TypeId} (base : Nat) (va : Value) (n : Nat) (k0 : Int) (w : World) (hn : n ≤ 1125899906842624) (h0 : 0 ≤ k0) (h1 : k0 ≤ 1125899906842624)
  (ha : Own base te .i64 w va (marksZ k0 n)) :
  Calls Tryz.prog 42 #[va, .int .i64 k0] w fun e w' => e = .returned (.int .i64 (k0 + n)) ∧ w' = w := by
 by_cases hz : n = 0
 ·subst hz
  obtain ⟨aa, ca, rfl⟩ : ∃ aa ca, va = .slice aa 0 ca := by rcases ha.form with ⟨rfl, _⟩ | ⟨g, cap, rfl, _⟩ <;> exact ⟨_, _, rfl⟩
  clear ha hn
  go_enter Tryz.func42, Tryz.ntmps42
  go_wp2
  refine wp_loop_rounds 1 ?_
  rw [rounds_succ]
  go_wp2
  go_ret
  exact ⟨by simp, rfl⟩
 ·obtain ⟨g, cap, rfl⟩ : ∃ g cap, va = .slice (some ⟨g, 0, none⟩) n cap := by
   rcases ha.form with ⟨_, h⟩ | ⟨g, cap, h, _⟩
   ·have := congrArg List.length h; simp [marksZ_length] at this; omega
   ·exact ⟨g, cap, by rw [h, marksZ_length]⟩
  have hc : ∀ j, j < n → w.cell? ⟨g, j, none⟩ = some (.int .i64 (k0 + j)) := fun j hj => by
   rw [ha.cell (marksZ_length _ _).symm j hj, marksZ_at _ _ _ hj]
  clear ha
  go_enter Tryz.func42, Tryz.ntmps42
  go_wp2
  go_loop [1, 5] (fun v i => ∃ k : Nat, k ≤ n ∧ i = .int .i64 k ∧ v = .int .i64 (k0 + k)) (fun _ i => n - (intOf i).toNat)
  case atStart => exact ⟨0, Nat.zero_le _, rfl, by simp⟩
  case round =>
   obtain ⟨k, hk, rfl, rfl⟩ := hrel
   by_cases dh : k < n
   ·have h2 := hc k dh
    clear hc
    go_wp2
    go_round
    case rel => exact ⟨k + 1, by omega, by go_num, by go_num⟩
    case measure => simp [intOf]; omega
   ·go_wp2
    go_ret
    obtain rfl : k = n := by omega
    exact ⟨rfl, rfl⟩
theorem rows_ints {w : World} {x : FR} (hn : x.n = x.bs.length) (h : Own 0 x.e .i64 w x.v x.bs) : OwnL w (x.rows 1) := by
 have h : w.ownsRow 0 x.e 1 x.v x.n (vals .i64 x.bs) := by rw [hn]; exact h
 exact ⟨fun r hr => by rw [List.mem_singleton.1 hr]; exact h, List.pairwise_singleton _ _⟩
theorem markInt64SF_own (x : FR) (k0 : Int) (w : World) (h0 : 0 ≤ k0) (h1 : k0 + (x.bs.length : Int) ≤ 1125899906842624) (ha : OwnL w (x.rows 1)) :
  Calls Tryz.prog 39 #[x.v, .int .i64 k0] w fun e w' => e = .returned (.int .i64 (k0 + (x.bs.length : Int))) ∧ OwnL w' ((x.marked k0).rows 1) ∧ Kept (FootL (x.rows 1)) w w' := by
 have hl : x.n = x.bs.length := by have := FR.own_len ha; omega
 refine (markInt64S_te 0 x.v x.bs k0 w (by omega) h0 (by omega) (FR.own_ints ha)).mono ?_
 rintro e w' ⟨rfl, h2, h3⟩
 refine ⟨rfl, ?_, h3.mono (fun b _ hb => (FootL_one _ _).2 hb)⟩
 refine rows_ints (x := x.marked k0) ?_ ?_
 ·simp [FR.marked, marksI, hl]
 ·exact h2
theorem heldInt64SF_own (x : FR) (k0 : Int) (w : World) (h0 : 0 ≤ k0) (h1 : k0 + (x.bs.length : Int) ≤ 1125899906842624) (ha : OwnL w ((x.marked k0).rows 1)) :
  Calls Tryz.prog 42 #[x.v, .int .i64 k0] w fun e w' => e = .returned (.int .i64 (k0 + (x.bs.length : Int))) ∧ Same w w' := by
 refine (heldInt64S_te 0 x.v x.bs.length k0 w (by omega) h0 (by omega) (FR.own_ints ha)).mono ?_
 rintro e w' ⟨rfl, rfl⟩
 exact ⟨rfl, Kept.refl _ _⟩
end Go.Proofs.YtepdakgfioffgaaGreat
