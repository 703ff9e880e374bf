import Derived.Test.YtknmledgpgkhpaaG04
import Derived.Test.YtknmledgpgkhpaaG09
import Derived.Test.YtknmledgpgkhpaaFrEq
import Derived.Test.YtknmledgpgkhpaaG01
import Derived.Test.YtknmledgpgkhpaaG00
import Derived.Test.YtknmledgpgkhpaaG07
import Derived.Test.YtknmledgpgkhpaaG05
import Derived.Deep.DeepCutAuto
namespace Go.Proofs.Ytknmledgpgkhpaa
set_option maxRecDepth 100000
set_option maxHeartbeats 8000000
open Go Go.RowKit
set_option linter.unusedVariables false
set_option linter.unusedSimpArgs false
theorem markLogFrameS_own (va : Value) (ps : List StLogFrame) (k0 : Int) (w : World) (h0 : 0 ≤ k0) (h1 : k0 + mzFr ps ≤ 1125899906842624) (hn : ps.length ≤ 1125899906842624) (ha : OwnFr w va ps) :
    Calls Try.prog 20 #[va, .int .i64 k0] w fun e w' => e = .returned (.int .i64 (k0 + mzFr ps)) ∧ True ∧ Kept (footFr va ps) w w' := by
  by_cases hz : ps.length = 0
  · obtain rfl : ps = [] := List.length_eq_zero_iff.1 hz
    obtain ⟨aa, ca, rfl⟩ : ∃ aa ca, va = .slice aa 0 ca := by rcases ha.own.form with ⟨rfl, _⟩ | ⟨g, cap, rfl, _⟩ <;> exact ⟨_, _, rfl⟩
    clear ha hn hz h1
    go_enter Try.func20, Try.ntmps20
    go_wp2
    refine wp_loop_rounds 1 ?_
    rw [rounds_succ]
    go_wp2
    go_ret
    exact ⟨by simp [mzFr], trivial, Kept.refl _ _⟩
  · obtain ⟨g, cap, rfl, hg⟩ : ∃ g cap, va = .slice (some ⟨g, 0, none⟩) ps.length cap ∧ g < w.heap.size := by
      rcases ha.own.form with ⟨_, rfl⟩ | ⟨g, cap, h, _, h2, _⟩
      · simp at hz
      · exact ⟨g, cap, h, h2⟩
    have HG := (show Hid (∀ b, FootL (frRows ps) b → ¬ b = g) from fun b hb e => ha.out b (by rw [e]; rfl) hb)
    have HA0 := hid ha
    have H1 := hid h1
    clear ha h1
    generalize hl : ps.length = len at *
    have HL : Hid (ps.length = len) := hl
    clear hl
    go_enter Try.func20, Try.ntmps20
    go_wp2
    go_loopw [1, 5] (fun v i wr => ∃ (k : Nat) (c : Int) (qs : List StLogFrame), k ≤ len ∧ i = .int .i64 k ∧ v = .int .i64 c ∧ Hid (c = k0 + mzFr (ps.take k)) ∧ Hid (qs.length = k) ∧ Hid (OwnR kFr 0 74 5 wr (.slice (some ⟨g, 0, none⟩) len cap) (qs ++ ps.drop k)) ∧ Hid (OwnL wr (frRows (ps.drop k))) ∧ Hid (Kept (footFr (.slice (some ⟨g, 0, none⟩) len cap) ps) w wr)) (fun _ i _ => len - (intOf i).toNat)
    case atStart => exact ⟨0, k0, [], Nat.zero_le _, rfl, rfl, by simp [Hid, mzFr], rfl, by simpa [Hid] using HA0.out.own, by simpa [Hid] using HA0.out.rows, Kept.refl _ _⟩
    case round =>
      obtain ⟨k, c0, qs, hk, rfl, rfl, HC, HQL, HO, HR, HK0⟩ := hrel
      by_cases hlt : k < len
      · have hlp : k < ps.length := by rw [HL.out]; exact hlt
        have hst := mzFr_step ps k hlp
        have hle := mzFr_take_le ps (k + 1)
        have hge := mzFr_nonneg (ps.take k)
        have hdr := List.drop_eq_getElem_cons hlp
        obtain ⟨P, hP⟩ : ∃ P, ps[k] = P := ⟨_, rfl⟩
        rw [hP] at hst hdr
        have hc0 : 0 ≤ c0 := by have := HC.out; omega
        have hsz : P.size = (P.record.before.data.bs.length : Int) + (P.record.after.data.bs.length : Int) + (P.record.txns.bs.length : Int) + (P.record.dirty.bs.length : Int) + (P.record.image.bs.length : Int) := rfl
        have hc9 : c0 + 11 + P.size ≤ 1125899906842624 := by have := HC.out; have := H1.out; omega
        rw [hsz] at hc9
        have hl0 := hc0
        have hu0 : c0 + 11 + (P.record.before.data.bs.length : Int) + (P.record.after.data.bs.length : Int) + (P.record.txns.bs.length : Int) + (P.record.dirty.bs.length : Int) + (P.record.image.bs.length : Int) ≤ 1125899906842624 := by omega
        have HST := (show Hid (k0 + mzFr (ps.take (k + 1)) = c0 + 11 + ((P.record.before.data.bs.length : Int) + (P.record.after.data.bs.length : Int) + (P.record.txns.bs.length : Int) + (P.record.dirty.bs.length : Int) + (P.record.image.bs.length : Int))) from by have := HC.out; rw [← hsz]; show k0 + mzFr (ps.take (k + 1)) = c0 + 11 + P.size; omega)
        have HU0 := (show Hid (∀ b, FootL (P.record.before.data.rows ++ (P.record.after.data.rows ++ ((P.record.txns.rows 4) ++ ((P.record.dirty.rows 2) ++ (P.record.image.rows ++ (frRows (ps.drop (k + 1)))))))) b → FootL (frRows ps) b) from fun b hb => by
          have hx : FootL (frRows (ps.drop k)) b := by
            rw [hdr, frRows_cons]
            simp only [StLogFrame.rows, StLogRecord.rows, StPageRecord.rows, List.append_assoc]
            exact hb
          obtain ⟨p, hp, hf⟩ := footRows_mem.1 hx
          exact footRows_mem.2 ⟨p, List.mem_of_mem_drop hp, hf⟩)
        have HR0 := (show Hid (OwnL wr (P.record.before.data.rows ++ (P.record.after.data.rows ++ ((P.record.txns.rows 4) ++ ((P.record.dirty.rows 2) ++ (P.record.image.rows ++ (frRows (ps.drop (k + 1))))))))) from by
          have h := HR.out
          rw [hdr, frRows_cons] at h
          simp only [StLogFrame.rows, StLogRecord.rows, StPageRecord.rows, List.append_assoc] at h
          exact h)
        have HO0 := (show Hid (OwnR kFr 0 74 5 wr (.slice (some ⟨g, 0, none⟩) len cap) (qs ++ (⟨P.lsn, P.epoch, ⟨P.record.kind, P.record.txn, P.record.prev, P.record.page, P.record.slot, ⟨P.record.before.used, P.record.before.data⟩, ⟨P.record.after.used, P.record.after.data⟩, P.record.uN, P.record.nT, P.record.txns, P.record.dirty, P.record.image⟩⟩ : StLogFrame) :: ps.drop (k + 1))) from by have h := HO.out; rw [hdr] at h; exact h)
        have HLN : ∀ e : StLogFrame, Hid (len = (qs ++ e :: ps.drop (k + 1)).length) := fun e => by have hl := HL.out; have h2 := HQL.out; simp [Hid]; omega
        clear hst hle hge hdr hP hsz HO hc0 hc9
        have HR := HR0
        have HK := HK0
        clear HR0
        have z : wr.cell? ⟨g, k * 16, none⟩ = some (.int .i64 P.lsn) := HO0.out.cellMid (HLN _).out 0 (by decide) _ (by rw [HQL.out]; rfl)
        have zf := HO0.out.frozen (HLN _).out (k * 16)
        go_upto_region 5 with fail
        have HO1 := (show Hid (OwnR kFr 0 74 5 (wr.setCell ⟨g, k * 16, none⟩ (.int .i64 (c0))) (.slice (some ⟨g, 0, none⟩) len cap) (qs ++ (⟨(c0), P.epoch, ⟨P.record.kind, P.record.txn, P.record.prev, P.record.page, P.record.slot, ⟨P.record.before.used, P.record.before.data⟩, ⟨P.record.after.used, P.record.after.data⟩, P.record.uN, P.record.nT, P.record.txns, P.record.dirty, P.record.image⟩⟩ : StLogFrame) :: ps.drop (k + 1))) from HO0.out.set (p' := (⟨(c0), P.epoch, ⟨P.record.kind, P.record.txn, P.record.prev, P.record.page, P.record.slot, ⟨P.record.before.used, P.record.before.data⟩, ⟨P.record.after.used, P.record.after.data⟩, P.record.uN, P.record.nT, P.record.txns, P.record.dirty, P.record.image⟩⟩ : StLogFrame)) (HLN _).out 0 (.int .i64 (c0)) (by decide) rfl rfl rfl _ (by rw [HQL.out]; rfl))
        have HK := (show Hid (Kept (footFr (.slice (some ⟨g, 0, none⟩) len cap) ps) w (wr.setCell ⟨g, k * 16, none⟩ (.int .i64 (c0)))) from HK.out.setCell (p := ⟨g, k * 16, none⟩) (.inr (.inl rfl)) _)
        have HR := (show Hid (OwnL (wr.setCell ⟨g, k * 16, none⟩ (.int .i64 (c0))) (P.record.before.data.rows ++ (P.record.after.data.rows ++ ((P.record.txns.rows 4) ++ ((P.record.dirty.rows 2) ++ (P.record.image.rows ++ (frRows (ps.drop (k + 1))))))))) from OwnL.kept (R := fun b => b = g) HR.out (Kept.setCell (R := fun b => b = g) (Kept.refl _ _) (p := ⟨g, k * 16, none⟩) (.inr rfl) _) (fun b hb => HG.out b (HU0.out b hb)))
        generalize (wr.setCell ⟨g, k * 16, none⟩ (.int .i64 (c0))) = y0 at HO1 HK HR ⊢
        clear z zf
        have z : y0.cell? ⟨g, k * 16 + 1, none⟩ = some (.int .i64 P.epoch) := HO1.out.cellMid (HLN _).out 1 (by decide) _ (by rw [HQL.out]; rfl)
        have zf := HO1.out.frozen (HLN _).out (k * 16 + 1)
        go_upto_region 7 with fail
        have HO2 := (show Hid (OwnR kFr 0 74 5 (y0.setCell ⟨g, k * 16 + 1, none⟩ (.int .i64 (c0 + 1))) (.slice (some ⟨g, 0, none⟩) len cap) (qs ++ (⟨(c0), (c0 + 1), ⟨P.record.kind, P.record.txn, P.record.prev, P.record.page, P.record.slot, ⟨P.record.before.used, P.record.before.data⟩, ⟨P.record.after.used, P.record.after.data⟩, P.record.uN, P.record.nT, P.record.txns, P.record.dirty, P.record.image⟩⟩ : StLogFrame) :: ps.drop (k + 1))) from HO1.out.set (p' := (⟨(c0), (c0 + 1), ⟨P.record.kind, P.record.txn, P.record.prev, P.record.page, P.record.slot, ⟨P.record.before.used, P.record.before.data⟩, ⟨P.record.after.used, P.record.after.data⟩, P.record.uN, P.record.nT, P.record.txns, P.record.dirty, P.record.image⟩⟩ : StLogFrame)) (HLN _).out 1 (.int .i64 (c0 + 1)) (by decide) rfl rfl rfl _ (by rw [HQL.out]; rfl))
        have HK := (show Hid (Kept (footFr (.slice (some ⟨g, 0, none⟩) len cap) ps) w (y0.setCell ⟨g, k * 16 + 1, none⟩ (.int .i64 (c0 + 1)))) from HK.out.setCell (p := ⟨g, k * 16 + 1, none⟩) (.inr (.inl rfl)) _)
        have HR := (show Hid (OwnL (y0.setCell ⟨g, k * 16 + 1, none⟩ (.int .i64 (c0 + 1))) (P.record.before.data.rows ++ (P.record.after.data.rows ++ ((P.record.txns.rows 4) ++ ((P.record.dirty.rows 2) ++ (P.record.image.rows ++ (frRows (ps.drop (k + 1))))))))) from OwnL.kept (R := fun b => b = g) HR.out (Kept.setCell (R := fun b => b = g) (Kept.refl _ _) (p := ⟨g, k * 16 + 1, none⟩) (.inr rfl) _) (fun b hb => HG.out b (HU0.out b hb)))
        generalize (y0.setCell ⟨g, k * 16 + 1, none⟩ (.int .i64 (c0 + 1))) = y1 at HO2 HK HR ⊢
        clear z zf
        have z : y1.cell? ⟨g, k * 16 + 2, none⟩ = some (.int .i64 P.record.kind) := HO2.out.cellMid (HLN _).out 2 (by decide) _ (by rw [HQL.out]; rfl)
        have zf := HO2.out.frozen (HLN _).out (k * 16 + 2)
        go_upto_region 9 with fail
        have HO3 := (show Hid (OwnR kFr 0 74 5 (y1.setCell ⟨g, k * 16 + 2, none⟩ (.int .i64 (c0 + 1 + 1))) (.slice (some ⟨g, 0, none⟩) len cap) (qs ++ (⟨(c0), (c0 + 1), ⟨(c0 + 1 + 1), P.record.txn, P.record.prev, P.record.page, P.record.slot, ⟨P.record.before.used, P.record.before.data⟩, ⟨P.record.after.used, P.record.after.data⟩, P.record.uN, P.record.nT, P.record.txns, P.record.dirty, P.record.image⟩⟩ : StLogFrame) :: ps.drop (k + 1))) from HO2.out.set (p' := (⟨(c0), (c0 + 1), ⟨(c0 + 1 + 1), P.record.txn, P.record.prev, P.record.page, P.record.slot, ⟨P.record.before.used, P.record.before.data⟩, ⟨P.record.after.used, P.record.after.data⟩, P.record.uN, P.record.nT, P.record.txns, P.record.dirty, P.record.image⟩⟩ : StLogFrame)) (HLN _).out 2 (.int .i64 (c0 + 1 + 1)) (by decide) rfl rfl rfl _ (by rw [HQL.out]; rfl))
        have HK := (show Hid (Kept (footFr (.slice (some ⟨g, 0, none⟩) len cap) ps) w (y1.setCell ⟨g, k * 16 + 2, none⟩ (.int .i64 (c0 + 1 + 1)))) from HK.out.setCell (p := ⟨g, k * 16 + 2, none⟩) (.inr (.inl rfl)) _)
        have HR := (show Hid (OwnL (y1.setCell ⟨g, k * 16 + 2, none⟩ (.int .i64 (c0 + 1 + 1))) (P.record.before.data.rows ++ (P.record.after.data.rows ++ ((P.record.txns.rows 4) ++ ((P.record.dirty.rows 2) ++ (P.record.image.rows ++ (frRows (ps.drop (k + 1))))))))) from OwnL.kept (R := fun b => b = g) HR.out (Kept.setCell (R := fun b => b = g) (Kept.refl _ _) (p := ⟨g, k * 16 + 2, none⟩) (.inr rfl) _) (fun b hb => HG.out b (HU0.out b hb)))
        generalize (y1.setCell ⟨g, k * 16 + 2, none⟩ (.int .i64 (c0 + 1 + 1))) = y2 at HO3 HK HR ⊢
        clear z zf
        have z : y2.cell? ⟨g, k * 16 + 3, none⟩ = some (.int .i64 P.record.txn) := HO3.out.cellMid (HLN _).out 3 (by decide) _ (by rw [HQL.out]; rfl)
        have zf := HO3.out.frozen (HLN _).out (k * 16 + 3)
        go_upto_region 11 with fail
        have HO4 := (show Hid (OwnR kFr 0 74 5 (y2.setCell ⟨g, k * 16 + 3, none⟩ (.int .i64 (c0 + 1 + 1 + 1))) (.slice (some ⟨g, 0, none⟩) len cap) (qs ++ (⟨(c0), (c0 + 1), ⟨(c0 + 1 + 1), (c0 + 1 + 1 + 1), P.record.prev, P.record.page, P.record.slot, ⟨P.record.before.used, P.record.before.data⟩, ⟨P.record.after.used, P.record.after.data⟩, P.record.uN, P.record.nT, P.record.txns, P.record.dirty, P.record.image⟩⟩ : StLogFrame) :: ps.drop (k + 1))) from HO3.out.set (p' := (⟨(c0), (c0 + 1), ⟨(c0 + 1 + 1), (c0 + 1 + 1 + 1), P.record.prev, P.record.page, P.record.slot, ⟨P.record.before.used, P.record.before.data⟩, ⟨P.record.after.used, P.record.after.data⟩, P.record.uN, P.record.nT, P.record.txns, P.record.dirty, P.record.image⟩⟩ : StLogFrame)) (HLN _).out 3 (.int .i64 (c0 + 1 + 1 + 1)) (by decide) rfl rfl rfl _ (by rw [HQL.out]; rfl))
        have HK := (show Hid (Kept (footFr (.slice (some ⟨g, 0, none⟩) len cap) ps) w (y2.setCell ⟨g, k * 16 + 3, none⟩ (.int .i64 (c0 + 1 + 1 + 1)))) from HK.out.setCell (p := ⟨g, k * 16 + 3, none⟩) (.inr (.inl rfl)) _)
        have HR := (show Hid (OwnL (y2.setCell ⟨g, k * 16 + 3, none⟩ (.int .i64 (c0 + 1 + 1 + 1))) (P.record.before.data.rows ++ (P.record.after.data.rows ++ ((P.record.txns.rows 4) ++ ((P.record.dirty.rows 2) ++ (P.record.image.rows ++ (frRows (ps.drop (k + 1))))))))) from OwnL.kept (R := fun b => b = g) HR.out (Kept.setCell (R := fun b => b = g) (Kept.refl _ _) (p := ⟨g, k * 16 + 3, none⟩) (.inr rfl) _) (fun b hb => HG.out b (HU0.out b hb)))
        generalize (y2.setCell ⟨g, k * 16 + 3, none⟩ (.int .i64 (c0 + 1 + 1 + 1))) = y3 at HO4 HK HR ⊢
        clear z zf
        have z : y3.cell? ⟨g, k * 16 + 4, none⟩ = some (.int .i64 P.record.prev) := HO4.out.cellMid (HLN _).out 4 (by decide) _ (by rw [HQL.out]; rfl)
        have zf := HO4.out.frozen (HLN _).out (k * 16 + 4)
        go_upto_region 13 with fail
        have HO5 := (show Hid (OwnR kFr 0 74 5 (y3.setCell ⟨g, k * 16 + 4, none⟩ (.int .i64 (c0 + 1 + 1 + 1 + 1))) (.slice (some ⟨g, 0, none⟩) len cap) (qs ++ (⟨(c0), (c0 + 1), ⟨(c0 + 1 + 1), (c0 + 1 + 1 + 1), (c0 + 1 + 1 + 1 + 1), P.record.page, P.record.slot, ⟨P.record.before.used, P.record.before.data⟩, ⟨P.record.after.used, P.record.after.data⟩, P.record.uN, P.record.nT, P.record.txns, P.record.dirty, P.record.image⟩⟩ : StLogFrame) :: ps.drop (k + 1))) from HO4.out.set (p' := (⟨(c0), (c0 + 1), ⟨(c0 + 1 + 1), (c0 + 1 + 1 + 1), (c0 + 1 + 1 + 1 + 1), P.record.page, P.record.slot, ⟨P.record.before.used, P.record.before.data⟩, ⟨P.record.after.used, P.record.after.data⟩, P.record.uN, P.record.nT, P.record.txns, P.record.dirty, P.record.image⟩⟩ : StLogFrame)) (HLN _).out 4 (.int .i64 (c0 + 1 + 1 + 1 + 1)) (by decide) rfl rfl rfl _ (by rw [HQL.out]; rfl))
        have HK := (show Hid (Kept (footFr (.slice (some ⟨g, 0, none⟩) len cap) ps) w (y3.setCell ⟨g, k * 16 + 4, none⟩ (.int .i64 (c0 + 1 + 1 + 1 + 1)))) from HK.out.setCell (p := ⟨g, k * 16 + 4, none⟩) (.inr (.inl rfl)) _)
        have HR := (show Hid (OwnL (y3.setCell ⟨g, k * 16 + 4, none⟩ (.int .i64 (c0 + 1 + 1 + 1 + 1))) (P.record.before.data.rows ++ (P.record.after.data.rows ++ ((P.record.txns.rows 4) ++ ((P.record.dirty.rows 2) ++ (P.record.image.rows ++ (frRows (ps.drop (k + 1))))))))) from OwnL.kept (R := fun b => b = g) HR.out (Kept.setCell (R := fun b => b = g) (Kept.refl _ _) (p := ⟨g, k * 16 + 4, none⟩) (.inr rfl) _) (fun b hb => HG.out b (HU0.out b hb)))
        generalize (y3.setCell ⟨g, k * 16 + 4, none⟩ (.int .i64 (c0 + 1 + 1 + 1 + 1))) = y4 at HO5 HK HR ⊢
        clear z zf
        have z : y4.cell? ⟨g, k * 16 + 5, none⟩ = some (.int .i64 P.record.page) := HO5.out.cellMid (HLN _).out 5 (by decide) _ (by rw [HQL.out]; rfl)
        have zf := HO5.out.frozen (HLN _).out (k * 16 + 5)
        go_upto_region 15 with fail
        have HO6 := (show Hid (OwnR kFr 0 74 5 (y4.setCell ⟨g, k * 16 + 5, none⟩ (.int .i64 (c0 + 1 + 1 + 1 + 1 + 1))) (.slice (some ⟨g, 0, none⟩) len cap) (qs ++ (⟨(c0), (c0 + 1), ⟨(c0 + 1 + 1), (c0 + 1 + 1 + 1), (c0 + 1 + 1 + 1 + 1), (c0 + 1 + 1 + 1 + 1 + 1), P.record.slot, ⟨P.record.before.used, P.record.before.data⟩, ⟨P.record.after.used, P.record.after.data⟩, P.record.uN, P.record.nT, P.record.txns, P.record.dirty, P.record.image⟩⟩ : StLogFrame) :: ps.drop (k + 1))) from HO5.out.set (p' := (⟨(c0), (c0 + 1), ⟨(c0 + 1 + 1), (c0 + 1 + 1 + 1), (c0 + 1 + 1 + 1 + 1), (c0 + 1 + 1 + 1 + 1 + 1), P.record.slot, ⟨P.record.before.used, P.record.before.data⟩, ⟨P.record.after.used, P.record.after.data⟩, P.record.uN, P.record.nT, P.record.txns, P.record.dirty, P.record.image⟩⟩ : StLogFrame)) (HLN _).out 5 (.int .i64 (c0 + 1 + 1 + 1 + 1 + 1)) (by decide) rfl rfl rfl _ (by rw [HQL.out]; rfl))
        have HK := (show Hid (Kept (footFr (.slice (some ⟨g, 0, none⟩) len cap) ps) w (y4.setCell ⟨g, k * 16 + 5, none⟩ (.int .i64 (c0 + 1 + 1 + 1 + 1 + 1)))) from HK.out.setCell (p := ⟨g, k * 16 + 5, none⟩) (.inr (.inl rfl)) _)
        have HR := (show Hid (OwnL (y4.setCell ⟨g, k * 16 + 5, none⟩ (.int .i64 (c0 + 1 + 1 + 1 + 1 + 1))) (P.record.before.data.rows ++ (P.record.after.data.rows ++ ((P.record.txns.rows 4) ++ ((P.record.dirty.rows 2) ++ (P.record.image.rows ++ (frRows (ps.drop (k + 1))))))))) from OwnL.kept (R := fun b => b = g) HR.out (Kept.setCell (R := fun b => b = g) (Kept.refl _ _) (p := ⟨g, k * 16 + 5, none⟩) (.inr rfl) _) (fun b hb => HG.out b (HU0.out b hb)))
        generalize (y4.setCell ⟨g, k * 16 + 5, none⟩ (.int .i64 (c0 + 1 + 1 + 1 + 1 + 1))) = y5 at HO6 HK HR ⊢
        clear z zf
        have z : y5.cell? ⟨g, k * 16 + 6, none⟩ = some (.int .i64 P.record.slot) := HO6.out.cellMid (HLN _).out 6 (by decide) _ (by rw [HQL.out]; rfl)
        have zf := HO6.out.frozen (HLN _).out (k * 16 + 6)
        go_upto_region 17 with fail
        have HO7 := (show Hid (OwnR kFr 0 74 5 (y5.setCell ⟨g, k * 16 + 6, none⟩ (.int .i64 (c0 + 1 + 1 + 1 + 1 + 1 + 1))) (.slice (some ⟨g, 0, none⟩) len cap) (qs ++ (⟨(c0), (c0 + 1), ⟨(c0 + 1 + 1), (c0 + 1 + 1 + 1), (c0 + 1 + 1 + 1 + 1), (c0 + 1 + 1 + 1 + 1 + 1), (c0 + 1 + 1 + 1 + 1 + 1 + 1), ⟨P.record.before.used, P.record.before.data⟩, ⟨P.record.after.used, P.record.after.data⟩, P.record.uN, P.record.nT, P.record.txns, P.record.dirty, P.record.image⟩⟩ : StLogFrame) :: ps.drop (k + 1))) from HO6.out.set (p' := (⟨(c0), (c0 + 1), ⟨(c0 + 1 + 1), (c0 + 1 + 1 + 1), (c0 + 1 + 1 + 1 + 1), (c0 + 1 + 1 + 1 + 1 + 1), (c0 + 1 + 1 + 1 + 1 + 1 + 1), ⟨P.record.before.used, P.record.before.data⟩, ⟨P.record.after.used, P.record.after.data⟩, P.record.uN, P.record.nT, P.record.txns, P.record.dirty, P.record.image⟩⟩ : StLogFrame)) (HLN _).out 6 (.int .i64 (c0 + 1 + 1 + 1 + 1 + 1 + 1)) (by decide) rfl rfl rfl _ (by rw [HQL.out]; rfl))
        have HK := (show Hid (Kept (footFr (.slice (some ⟨g, 0, none⟩) len cap) ps) w (y5.setCell ⟨g, k * 16 + 6, none⟩ (.int .i64 (c0 + 1 + 1 + 1 + 1 + 1 + 1)))) from HK.out.setCell (p := ⟨g, k * 16 + 6, none⟩) (.inr (.inl rfl)) _)
        have HR := (show Hid (OwnL (y5.setCell ⟨g, k * 16 + 6, none⟩ (.int .i64 (c0 + 1 + 1 + 1 + 1 + 1 + 1))) (P.record.before.data.rows ++ (P.record.after.data.rows ++ ((P.record.txns.rows 4) ++ ((P.record.dirty.rows 2) ++ (P.record.image.rows ++ (frRows (ps.drop (k + 1))))))))) from OwnL.kept (R := fun b => b = g) HR.out (Kept.setCell (R := fun b => b = g) (Kept.refl _ _) (p := ⟨g, k * 16 + 6, none⟩) (.inr rfl) _) (fun b hb => HG.out b (HU0.out b hb)))
        generalize (y5.setCell ⟨g, k * 16 + 6, none⟩ (.int .i64 (c0 + 1 + 1 + 1 + 1 + 1 + 1))) = y6 at HO7 HK HR ⊢
        clear z zf
        have z : y6.cell? ⟨g, k * 16 + 7, none⟩ = some (.bool P.record.before.used) := HO7.out.cellMid (HLN _).out 7 (by decide) _ (by rw [HQL.out]; rfl)
        have zf := HO7.out.frozen (HLN _).out (k * 16 + 7)
        go_upto_region 19 with fail
        have HO8 := (show Hid (OwnR kFr 0 74 5 (y6.setCell ⟨g, k * 16 + 7, none⟩ (.bool ((c0 + 1 + 1 + 1 + 1 + 1 + 1 + 1) % 3 == 0))) (.slice (some ⟨g, 0, none⟩) len cap) (qs ++ (⟨(c0), (c0 + 1), ⟨(c0 + 1 + 1), (c0 + 1 + 1 + 1), (c0 + 1 + 1 + 1 + 1), (c0 + 1 + 1 + 1 + 1 + 1), (c0 + 1 + 1 + 1 + 1 + 1 + 1), ⟨((c0 + 1 + 1 + 1 + 1 + 1 + 1 + 1) % 3 == 0), P.record.before.data⟩, ⟨P.record.after.used, P.record.after.data⟩, P.record.uN, P.record.nT, P.record.txns, P.record.dirty, P.record.image⟩⟩ : StLogFrame) :: ps.drop (k + 1))) from HO7.out.set (p' := (⟨(c0), (c0 + 1), ⟨(c0 + 1 + 1), (c0 + 1 + 1 + 1), (c0 + 1 + 1 + 1 + 1), (c0 + 1 + 1 + 1 + 1 + 1), (c0 + 1 + 1 + 1 + 1 + 1 + 1), ⟨((c0 + 1 + 1 + 1 + 1 + 1 + 1 + 1) % 3 == 0), P.record.before.data⟩, ⟨P.record.after.used, P.record.after.data⟩, P.record.uN, P.record.nT, P.record.txns, P.record.dirty, P.record.image⟩⟩ : StLogFrame)) (HLN _).out 7 (.bool ((c0 + 1 + 1 + 1 + 1 + 1 + 1 + 1) % 3 == 0)) (by decide) rfl rfl rfl _ (by rw [HQL.out]; rfl))
        have HK := (show Hid (Kept (footFr (.slice (some ⟨g, 0, none⟩) len cap) ps) w (y6.setCell ⟨g, k * 16 + 7, none⟩ (.bool ((c0 + 1 + 1 + 1 + 1 + 1 + 1 + 1) % 3 == 0)))) from HK.out.setCell (p := ⟨g, k * 16 + 7, none⟩) (.inr (.inl rfl)) _)
        have HR := (show Hid (OwnL (y6.setCell ⟨g, k * 16 + 7, none⟩ (.bool ((c0 + 1 + 1 + 1 + 1 + 1 + 1 + 1) % 3 == 0))) (P.record.before.data.rows ++ (P.record.after.data.rows ++ ((P.record.txns.rows 4) ++ ((P.record.dirty.rows 2) ++ (P.record.image.rows ++ (frRows (ps.drop (k + 1))))))))) from OwnL.kept (R := fun b => b = g) HR.out (Kept.setCell (R := fun b => b = g) (Kept.refl _ _) (p := ⟨g, k * 16 + 7, none⟩) (.inr rfl) _) (fun b hb => HG.out b (HU0.out b hb)))
        generalize (y6.setCell ⟨g, k * 16 + 7, none⟩ (.bool ((c0 + 1 + 1 + 1 + 1 + 1 + 1 + 1) % 3 == 0))) = y7 at HO8 HK HR ⊢
        clear z zf
        have z : y7.cell? ⟨g, k * 16 + 8, none⟩ = some (P.record.before.data.v) := HO8.out.cellMid (HLN _).out 8 (by decide) _ (by rw [HQL.out]; rfl)
        go_wp2_with fail
        refine (markByteS_own 0 P.record.before.data.v P.record.before.data.bs (c0 + 1 + 1 + 1 + 1 + 1 + 1 + 1 + 1) _ (by omega) (by omega) (by omega) (OwnL.of_one HR.out.left)).mono ?_
        rintro e x1 ⟨rfl, _, hk⟩
        have hk : Kept (FootL P.record.before.data.rows) _ x1 := hk.mono (fun b _ h => (footL_ints _ _ _ _ _).2 h)
        have HO9 := (show Hid (OwnR kFr 0 74 5 x1 (.slice (some ⟨g, 0, none⟩) len cap) (qs ++ (⟨(c0), (c0 + 1), ⟨(c0 + 1 + 1), (c0 + 1 + 1 + 1), (c0 + 1 + 1 + 1 + 1), (c0 + 1 + 1 + 1 + 1 + 1), (c0 + 1 + 1 + 1 + 1 + 1 + 1), ⟨((c0 + 1 + 1 + 1 + 1 + 1 + 1 + 1) % 3 == 0), P.record.before.data⟩, ⟨P.record.after.used, P.record.after.data⟩, P.record.uN, P.record.nT, P.record.txns, P.record.dirty, P.record.image⟩⟩ : StLogFrame) :: ps.drop (k + 1))) from HO8.out.kept hk (fun b hb h => HG.out b (HU0.out b ((FootL_append _ _ _).2 (.inl h))) (by have h2 : g = b := (by simpa [Value.ownBlock] using footFr_head hb); exact h2.symm)))
        have HK := (show Hid (Kept (footFr (.slice (some ⟨g, 0, none⟩) len cap) ps) w x1) from HK.out.next hk (fun b _ h => .inr (HU0.out b ((FootL_append _ _ _).2 (.inl h)))))
        have HR := (show Hid (OwnL x1 (P.record.after.data.rows ++ ((P.record.txns.rows 4) ++ ((P.record.dirty.rows 2) ++ (P.record.image.rows ++ (frRows (ps.drop (k + 1)))))))) from HR.out.right.kept hk (fun b hb h => HR.out.cut b h hb))
        have HU1 := (show Hid (∀ b, FootL (P.record.after.data.rows ++ ((P.record.txns.rows 4) ++ ((P.record.dirty.rows 2) ++ (P.record.image.rows ++ (frRows (ps.drop (k + 1))))))) b → FootL (frRows ps) b) from fun b hb => HU0.out b ((FootL_append _ _ _).2 (.inr hb)))
        obtain ⟨c1, hcc⟩ : ∃ z : Int, c0 + 1 + 1 + 1 + 1 + 1 + 1 + 1 + 1 + (P.record.before.data.bs.length : Int) = z := ⟨_, rfl⟩
        have hl1 : 0 ≤ c1 := by omega
        have hu1 : c1 + 3 + (P.record.after.data.bs.length : Int) + (P.record.txns.bs.length : Int) + (P.record.dirty.bs.length : Int) + (P.record.image.bs.length : Int) ≤ 1125899906842624 := by omega
        have HB1 := hid hcc
        rw [hcc]
        clear hcc hk z hl0 hu0
        have z : x1.cell? ⟨g, k * 16 + 9, none⟩ = some (.bool P.record.after.used) := HO9.out.cellMid (HLN _).out 9 (by decide) _ (by rw [HQL.out]; rfl)
        have zf := HO9.out.frozen (HLN _).out (k * 16 + 9)
        go_upto_region 22 with fail
        have HO10 := (show Hid (OwnR kFr 0 74 5 (x1.setCell ⟨g, k * 16 + 9, none⟩ (.bool (c1 % 3 == 0))) (.slice (some ⟨g, 0, none⟩) len cap) (qs ++ (⟨(c0), (c0 + 1), ⟨(c0 + 1 + 1), (c0 + 1 + 1 + 1), (c0 + 1 + 1 + 1 + 1), (c0 + 1 + 1 + 1 + 1 + 1), (c0 + 1 + 1 + 1 + 1 + 1 + 1), ⟨((c0 + 1 + 1 + 1 + 1 + 1 + 1 + 1) % 3 == 0), P.record.before.data⟩, ⟨(c1 % 3 == 0), P.record.after.data⟩, P.record.uN, P.record.nT, P.record.txns, P.record.dirty, P.record.image⟩⟩ : StLogFrame) :: ps.drop (k + 1))) from HO9.out.set (p' := (⟨(c0), (c0 + 1), ⟨(c0 + 1 + 1), (c0 + 1 + 1 + 1), (c0 + 1 + 1 + 1 + 1), (c0 + 1 + 1 + 1 + 1 + 1), (c0 + 1 + 1 + 1 + 1 + 1 + 1), ⟨((c0 + 1 + 1 + 1 + 1 + 1 + 1 + 1) % 3 == 0), P.record.before.data⟩, ⟨(c1 % 3 == 0), P.record.after.data⟩, P.record.uN, P.record.nT, P.record.txns, P.record.dirty, P.record.image⟩⟩ : StLogFrame)) (HLN _).out 9 (.bool (c1 % 3 == 0)) (by decide) rfl rfl rfl _ (by rw [HQL.out]; rfl))
        have HK := (show Hid (Kept (footFr (.slice (some ⟨g, 0, none⟩) len cap) ps) w (x1.setCell ⟨g, k * 16 + 9, none⟩ (.bool (c1 % 3 == 0)))) from HK.out.setCell (p := ⟨g, k * 16 + 9, none⟩) (.inr (.inl rfl)) _)
        have HR := (show Hid (OwnL (x1.setCell ⟨g, k * 16 + 9, none⟩ (.bool (c1 % 3 == 0))) (P.record.after.data.rows ++ ((P.record.txns.rows 4) ++ ((P.record.dirty.rows 2) ++ (P.record.image.rows ++ (frRows (ps.drop (k + 1)))))))) from OwnL.kept (R := fun b => b = g) HR.out (Kept.setCell (R := fun b => b = g) (Kept.refl _ _) (p := ⟨g, k * 16 + 9, none⟩) (.inr rfl) _) (fun b hb => HG.out b (HU1.out b hb)))
        generalize (x1.setCell ⟨g, k * 16 + 9, none⟩ (.bool (c1 % 3 == 0))) = y9 at HO10 HK HR ⊢
        clear z zf
        have z : y9.cell? ⟨g, k * 16 + 10, none⟩ = some (P.record.after.data.v) := HO10.out.cellMid (HLN _).out 10 (by decide) _ (by rw [HQL.out]; rfl)
        go_wp2_with fail
        refine (markByteS_own 0 P.record.after.data.v P.record.after.data.bs (c1 + 1) _ (by omega) (by omega) (by omega) (OwnL.of_one HR.out.left)).mono ?_
        rintro e x2 ⟨rfl, _, hk⟩
        have hk : Kept (FootL P.record.after.data.rows) _ x2 := hk.mono (fun b _ h => (footL_ints _ _ _ _ _).2 h)
        have HO11 := (show Hid (OwnR kFr 0 74 5 x2 (.slice (some ⟨g, 0, none⟩) len cap) (qs ++ (⟨(c0), (c0 + 1), ⟨(c0 + 1 + 1), (c0 + 1 + 1 + 1), (c0 + 1 + 1 + 1 + 1), (c0 + 1 + 1 + 1 + 1 + 1), (c0 + 1 + 1 + 1 + 1 + 1 + 1), ⟨((c0 + 1 + 1 + 1 + 1 + 1 + 1 + 1) % 3 == 0), P.record.before.data⟩, ⟨(c1 % 3 == 0), P.record.after.data⟩, P.record.uN, P.record.nT, P.record.txns, P.record.dirty, P.record.image⟩⟩ : StLogFrame) :: ps.drop (k + 1))) from HO10.out.kept hk (fun b hb h => HG.out b (HU1.out b ((FootL_append _ _ _).2 (.inl h))) (by have h2 : g = b := (by simpa [Value.ownBlock] using footFr_head hb); exact h2.symm)))
        have HK := (show Hid (Kept (footFr (.slice (some ⟨g, 0, none⟩) len cap) ps) w x2) from HK.out.next hk (fun b _ h => .inr (HU1.out b ((FootL_append _ _ _).2 (.inl h)))))
        have HR := (show Hid (OwnL x2 ((P.record.txns.rows 4) ++ ((P.record.dirty.rows 2) ++ (P.record.image.rows ++ (frRows (ps.drop (k + 1))))))) from HR.out.right.kept hk (fun b hb h => HR.out.cut b h hb))
        have HU2 := (show Hid (∀ b, FootL ((P.record.txns.rows 4) ++ ((P.record.dirty.rows 2) ++ (P.record.image.rows ++ (frRows (ps.drop (k + 1)))))) b → FootL (frRows ps) b) from fun b hb => HU1.out b ((FootL_append _ _ _).2 (.inr hb)))
        obtain ⟨c2, hcc⟩ : ∃ z : Int, c1 + 1 + (P.record.after.data.bs.length : Int) = z := ⟨_, rfl⟩
        have hl2 : 0 ≤ c2 := by omega
        have hu2 : c2 + 2 + (P.record.txns.bs.length : Int) + (P.record.dirty.bs.length : Int) + (P.record.image.bs.length : Int) ≤ 1125899906842624 := by omega
        have HB2 := hid hcc
        rw [hcc]
        clear hcc hk z hl1 hu1
        have z : x2.cell? ⟨g, k * 16 + 11, none⟩ = some (.int .i64 P.record.uN) := HO11.out.cellMid (HLN _).out 11 (by decide) _ (by rw [HQL.out]; rfl)
        have zf := HO11.out.frozen (HLN _).out (k * 16 + 11)
        go_upto_region 25 with fail
        have HO12 := (show Hid (OwnR kFr 0 74 5 (x2.setCell ⟨g, k * 16 + 11, none⟩ (.int .i64 (c2))) (.slice (some ⟨g, 0, none⟩) len cap) (qs ++ (⟨(c0), (c0 + 1), ⟨(c0 + 1 + 1), (c0 + 1 + 1 + 1), (c0 + 1 + 1 + 1 + 1), (c0 + 1 + 1 + 1 + 1 + 1), (c0 + 1 + 1 + 1 + 1 + 1 + 1), ⟨((c0 + 1 + 1 + 1 + 1 + 1 + 1 + 1) % 3 == 0), P.record.before.data⟩, ⟨(c1 % 3 == 0), P.record.after.data⟩, (c2), P.record.nT, P.record.txns, P.record.dirty, P.record.image⟩⟩ : StLogFrame) :: ps.drop (k + 1))) from HO11.out.set (p' := (⟨(c0), (c0 + 1), ⟨(c0 + 1 + 1), (c0 + 1 + 1 + 1), (c0 + 1 + 1 + 1 + 1), (c0 + 1 + 1 + 1 + 1 + 1), (c0 + 1 + 1 + 1 + 1 + 1 + 1), ⟨((c0 + 1 + 1 + 1 + 1 + 1 + 1 + 1) % 3 == 0), P.record.before.data⟩, ⟨(c1 % 3 == 0), P.record.after.data⟩, (c2), P.record.nT, P.record.txns, P.record.dirty, P.record.image⟩⟩ : StLogFrame)) (HLN _).out 11 (.int .i64 (c2)) (by decide) rfl rfl rfl _ (by rw [HQL.out]; rfl))
        have HK := (show Hid (Kept (footFr (.slice (some ⟨g, 0, none⟩) len cap) ps) w (x2.setCell ⟨g, k * 16 + 11, none⟩ (.int .i64 (c2)))) from HK.out.setCell (p := ⟨g, k * 16 + 11, none⟩) (.inr (.inl rfl)) _)
        have HR := (show Hid (OwnL (x2.setCell ⟨g, k * 16 + 11, none⟩ (.int .i64 (c2))) ((P.record.txns.rows 4) ++ ((P.record.dirty.rows 2) ++ (P.record.image.rows ++ (frRows (ps.drop (k + 1))))))) from OwnL.kept (R := fun b => b = g) HR.out (Kept.setCell (R := fun b => b = g) (Kept.refl _ _) (p := ⟨g, k * 16 + 11, none⟩) (.inr rfl) _) (fun b hb => HG.out b (HU2.out b hb)))
        generalize (x2.setCell ⟨g, k * 16 + 11, none⟩ (.int .i64 (c2))) = y11 at HO12 HK HR ⊢
        clear z zf
        have z : y11.cell? ⟨g, k * 16 + 12, none⟩ = some (.int .i64 P.record.nT) := HO12.out.cellMid (HLN _).out 12 (by decide) _ (by rw [HQL.out]; rfl)
        have zf := HO12.out.frozen (HLN _).out (k * 16 + 12)
        go_upto_region 27 with fail
        have HO13 := (show Hid (OwnR kFr 0 74 5 (y11.setCell ⟨g, k * 16 + 12, none⟩ (.int .i64 (c2 + 1))) (.slice (some ⟨g, 0, none⟩) len cap) (qs ++ (⟨(c0), (c0 + 1), ⟨(c0 + 1 + 1), (c0 + 1 + 1 + 1), (c0 + 1 + 1 + 1 + 1), (c0 + 1 + 1 + 1 + 1 + 1), (c0 + 1 + 1 + 1 + 1 + 1 + 1), ⟨((c0 + 1 + 1 + 1 + 1 + 1 + 1 + 1) % 3 == 0), P.record.before.data⟩, ⟨(c1 % 3 == 0), P.record.after.data⟩, (c2), (c2 + 1), P.record.txns, P.record.dirty, P.record.image⟩⟩ : StLogFrame) :: ps.drop (k + 1))) from HO12.out.set (p' := (⟨(c0), (c0 + 1), ⟨(c0 + 1 + 1), (c0 + 1 + 1 + 1), (c0 + 1 + 1 + 1 + 1), (c0 + 1 + 1 + 1 + 1 + 1), (c0 + 1 + 1 + 1 + 1 + 1 + 1), ⟨((c0 + 1 + 1 + 1 + 1 + 1 + 1 + 1) % 3 == 0), P.record.before.data⟩, ⟨(c1 % 3 == 0), P.record.after.data⟩, (c2), (c2 + 1), P.record.txns, P.record.dirty, P.record.image⟩⟩ : StLogFrame)) (HLN _).out 12 (.int .i64 (c2 + 1)) (by decide) rfl rfl rfl _ (by rw [HQL.out]; rfl))
        have HK := (show Hid (Kept (footFr (.slice (some ⟨g, 0, none⟩) len cap) ps) w (y11.setCell ⟨g, k * 16 + 12, none⟩ (.int .i64 (c2 + 1)))) from HK.out.setCell (p := ⟨g, k * 16 + 12, none⟩) (.inr (.inl rfl)) _)
        have HR := (show Hid (OwnL (y11.setCell ⟨g, k * 16 + 12, none⟩ (.int .i64 (c2 + 1))) ((P.record.txns.rows 4) ++ ((P.record.dirty.rows 2) ++ (P.record.image.rows ++ (frRows (ps.drop (k + 1))))))) from OwnL.kept (R := fun b => b = g) HR.out (Kept.setCell (R := fun b => b = g) (Kept.refl _ _) (p := ⟨g, k * 16 + 12, none⟩) (.inr rfl) _) (fun b hb => HG.out b (HU2.out b hb)))
        generalize (y11.setCell ⟨g, k * 16 + 12, none⟩ (.int .i64 (c2 + 1))) = y12 at HO13 HK HR ⊢
        clear z zf
        have z : y12.cell? ⟨g, k * 16 + 13, none⟩ = some (P.record.txns.v) := HO13.out.cellMid (HLN _).out 13 (by decide) _ (by rw [HQL.out]; rfl)
        go_wp2_with fail
        refine (markTxnEntryS_own P.record.txns (c2 + 1 + 1) _ (by omega) (by omega) HR.out.left).mono ?_
        rintro e x3 ⟨rfl, _, hk⟩
        have hk : Kept (FootL (P.record.txns.rows 4)) _ x3 := hk
        have HO14 := (show Hid (OwnR kFr 0 74 5 x3 (.slice (some ⟨g, 0, none⟩) len cap) (qs ++ (⟨(c0), (c0 + 1), ⟨(c0 + 1 + 1), (c0 + 1 + 1 + 1), (c0 + 1 + 1 + 1 + 1), (c0 + 1 + 1 + 1 + 1 + 1), (c0 + 1 + 1 + 1 + 1 + 1 + 1), ⟨((c0 + 1 + 1 + 1 + 1 + 1 + 1 + 1) % 3 == 0), P.record.before.data⟩, ⟨(c1 % 3 == 0), P.record.after.data⟩, (c2), (c2 + 1), P.record.txns, P.record.dirty, P.record.image⟩⟩ : StLogFrame) :: ps.drop (k + 1))) from HO13.out.kept hk (fun b hb h => HG.out b (HU2.out b ((FootL_append _ _ _).2 (.inl h))) (by have h2 : g = b := (by simpa [Value.ownBlock] using footFr_head hb); exact h2.symm)))
        have HK := (show Hid (Kept (footFr (.slice (some ⟨g, 0, none⟩) len cap) ps) w x3) from HK.out.next hk (fun b _ h => .inr (HU2.out b ((FootL_append _ _ _).2 (.inl h)))))
        have HR := (show Hid (OwnL x3 ((P.record.dirty.rows 2) ++ (P.record.image.rows ++ (frRows (ps.drop (k + 1)))))) from HR.out.right.kept hk (fun b hb h => HR.out.cut b h hb))
        have HU3 := (show Hid (∀ b, FootL ((P.record.dirty.rows 2) ++ (P.record.image.rows ++ (frRows (ps.drop (k + 1))))) b → FootL (frRows ps) b) from fun b hb => HU2.out b ((FootL_append _ _ _).2 (.inr hb)))
        obtain ⟨c3, hcc⟩ : ∃ z : Int, c2 + 1 + 1 + (P.record.txns.bs.length : Int) = z := ⟨_, rfl⟩
        have hl3 : 0 ≤ c3 := by omega
        have hu3 : c3 + 0 + (P.record.dirty.bs.length : Int) + (P.record.image.bs.length : Int) ≤ 1125899906842624 := by omega
        have HB3 := hid hcc
        rw [hcc]
        clear hcc hk z hl2 hu2
        have z : x3.cell? ⟨g, k * 16 + 14, none⟩ = some (P.record.dirty.v) := HO14.out.cellMid (HLN _).out 14 (by decide) _ (by rw [HQL.out]; rfl)
        go_wp2_with fail
        refine (markDirtyEntryS_own P.record.dirty (c3) _ (by omega) (by omega) HR.out.left).mono ?_
        rintro e x4 ⟨rfl, _, hk⟩
        have hk : Kept (FootL (P.record.dirty.rows 2)) _ x4 := hk
        have HO15 := (show Hid (OwnR kFr 0 74 5 x4 (.slice (some ⟨g, 0, none⟩) len cap) (qs ++ (⟨(c0), (c0 + 1), ⟨(c0 + 1 + 1), (c0 + 1 + 1 + 1), (c0 + 1 + 1 + 1 + 1), (c0 + 1 + 1 + 1 + 1 + 1), (c0 + 1 + 1 + 1 + 1 + 1 + 1), ⟨((c0 + 1 + 1 + 1 + 1 + 1 + 1 + 1) % 3 == 0), P.record.before.data⟩, ⟨(c1 % 3 == 0), P.record.after.data⟩, (c2), (c2 + 1), P.record.txns, P.record.dirty, P.record.image⟩⟩ : StLogFrame) :: ps.drop (k + 1))) from HO14.out.kept hk (fun b hb h => HG.out b (HU3.out b ((FootL_append _ _ _).2 (.inl h))) (by have h2 : g = b := (by simpa [Value.ownBlock] using footFr_head hb); exact h2.symm)))
        have HK := (show Hid (Kept (footFr (.slice (some ⟨g, 0, none⟩) len cap) ps) w x4) from HK.out.next hk (fun b _ h => .inr (HU3.out b ((FootL_append _ _ _).2 (.inl h)))))
        have HR := (show Hid (OwnL x4 (P.record.image.rows ++ (frRows (ps.drop (k + 1))))) from HR.out.right.kept hk (fun b hb h => HR.out.cut b h hb))
        have HU4 := (show Hid (∀ b, FootL (P.record.image.rows ++ (frRows (ps.drop (k + 1)))) b → FootL (frRows ps) b) from fun b hb => HU3.out b ((FootL_append _ _ _).2 (.inr hb)))
        obtain ⟨c4, hcc⟩ : ∃ z : Int, c3 + (P.record.dirty.bs.length : Int) = z := ⟨_, rfl⟩
        have hl4 : 0 ≤ c4 := by omega
        have hu4 : c4 + 0 + (P.record.image.bs.length : Int) ≤ 1125899906842624 := by omega
        have HB4 := hid hcc
        rw [hcc]
        clear hcc hk z hl3 hu3
        have z : x4.cell? ⟨g, k * 16 + 15, none⟩ = some (P.record.image.v) := HO15.out.cellMid (HLN _).out 15 (by decide) _ (by rw [HQL.out]; rfl)
        go_wp2_with fail
        refine (markByteS_own 0 P.record.image.v P.record.image.bs (c4) _ (by omega) (by omega) (by omega) (OwnL.of_one HR.out.left)).mono ?_
        rintro e x5 ⟨rfl, _, hk⟩
        have hk : Kept (FootL P.record.image.rows) _ x5 := hk.mono (fun b _ h => (footL_ints _ _ _ _ _).2 h)
        have HO16 := (show Hid (OwnR kFr 0 74 5 x5 (.slice (some ⟨g, 0, none⟩) len cap) (qs ++ (⟨(c0), (c0 + 1), ⟨(c0 + 1 + 1), (c0 + 1 + 1 + 1), (c0 + 1 + 1 + 1 + 1), (c0 + 1 + 1 + 1 + 1 + 1), (c0 + 1 + 1 + 1 + 1 + 1 + 1), ⟨((c0 + 1 + 1 + 1 + 1 + 1 + 1 + 1) % 3 == 0), P.record.before.data⟩, ⟨(c1 % 3 == 0), P.record.after.data⟩, (c2), (c2 + 1), P.record.txns, P.record.dirty, P.record.image⟩⟩ : StLogFrame) :: ps.drop (k + 1))) from HO15.out.kept hk (fun b hb h => HG.out b (HU4.out b ((FootL_append _ _ _).2 (.inl h))) (by have h2 : g = b := (by simpa [Value.ownBlock] using footFr_head hb); exact h2.symm)))
        have HK := (show Hid (Kept (footFr (.slice (some ⟨g, 0, none⟩) len cap) ps) w x5) from HK.out.next hk (fun b _ h => .inr (HU4.out b ((FootL_append _ _ _).2 (.inl h)))))
        have HR := (show Hid (OwnL x5 (frRows (ps.drop (k + 1)))) from HR.out.right.kept hk (fun b hb h => HR.out.cut b h hb))
        have HU5 := (show Hid (∀ b, FootL (frRows (ps.drop (k + 1))) b → FootL (frRows ps) b) from fun b hb => HU4.out b ((FootL_append _ _ _).2 (.inr hb)))
        obtain ⟨c5, hcc⟩ : ∃ z : Int, c4 + (P.record.image.bs.length : Int) = z := ⟨_, rfl⟩
        have hl5 : 0 ≤ c5 := by omega
        have hu5 : c5 + 0 ≤ 1125899906842624 := by omega
        have HB5 := hid hcc
        rw [hcc]
        clear hcc hk z hl4 hu4
        go_wp2
        go_roundw
        case rel =>
          refine ⟨k + 1, c5, qs ++ [(⟨(c0), (c0 + 1), ⟨(c0 + 1 + 1), (c0 + 1 + 1 + 1), (c0 + 1 + 1 + 1 + 1), (c0 + 1 + 1 + 1 + 1 + 1), (c0 + 1 + 1 + 1 + 1 + 1 + 1), ⟨((c0 + 1 + 1 + 1 + 1 + 1 + 1 + 1) % 3 == 0), P.record.before.data⟩, ⟨(c1 % 3 == 0), P.record.after.data⟩, (c2), (c2 + 1), P.record.txns, P.record.dirty, P.record.image⟩⟩ : StLogFrame)], by omega, by go_num, rfl, by have e1 := HB1.out; have e2 := HB2.out; have e3 := HB3.out; have e4 := HB4.out; have e5 := HB5.out; unfold Hid; rw [HST.out]; omega, by have := HQL.out; simp [Hid]; exact this, by rw [List.append_assoc]; exact HO16, HR, HK⟩
        case measure => simp [intOf]; omega
      · go_wp2
        go_ret
        obtain rfl : k = len := by omega
        have h2 := HL.out
        have h3 := HC.out
        rw [← h2, List.take_length] at h3
        subst h3
        exact ⟨by first | rfl | trivial, trivial, HK0.out⟩
end Go.Proofs.Ytknmledgpgkhpaa

namespace Go.Proofs.Ytknmledgpgkhpaa
open Go Go.RowKit
set_option linter.unusedVariables false
structure FrOK (qs : List StLogFrame) : Prop where
  len : qs.length ≤ 1048576
  each : ∀ p ∈ qs, p.szs ≤ 1048576
  sum : sizeFr qs ≤ 1048576
  isB : ∀ p ∈ qs, p.isB
theorem isB_fr {x y : StLogFrame} (h : y.dat = x.dat) (hx : x.isB) : y.isB := by
  simp only [StLogFrame.dat, StLogRecord.dat, StPageRecord.dat, Prod.mk.injEq] at h
  obtain ⟨_, _, _, _, _, _, _, ⟨_, h1⟩, ⟨_, h2⟩, _, _, _, _, h3⟩ := h
  unfold StLogFrame.isB at *
  rw [h1, h2, h3]
  exact hx
theorem FrOK.of {qs ps : List StLogFrame} (h : datFr qs = datFr ps) (hz : szsFr qs = szsFr ps) (hB : ∀ p ∈ ps, p.isB) (hl : ps.length ≤ 1048576) (hs : sizeFr ps ≤ 1048576) : FrOK qs := by
  have hlen : qs.length = ps.length := by rw [← datFr_length, ← datFr_length, h]
  have hsum := sizeFr_szs hz
  refine ⟨by omega, fun p hp => by have := sizeFr_mem qs p hp; omega, by omega, fun p hp => ?_⟩
  obtain ⟨k, hk, rfl⟩ := List.mem_iff_getElem.1 hp
  exact isB_fr (datFr_at h k hk (by omega)) (hB _ (List.getElem_mem (by omega)))
end Go.Proofs.Ytknmledgpgkhpaa

namespace Go.Proofs.Ytknmledgpgkhpaa
open Go.RowKit
set_option linter.unusedVariables false
set_option linter.unusedSimpArgs false
structure StPageResult where
  code : Int
  page : BS
def StPageResult.val (x : StPageResult) : Value := .agg #[.int .i64 x.code, x.page.v]
def StPageResult.rows (x : StPageResult) : List Row := x.page.rows
def StPageResult.dat (x : StPageResult) : Int × List Int := (x.code, x.page.bs)
def StPageResult.size (x : StPageResult) : Int := (x.page.bs.length : Int)
theorem StPageResult.size_le (x : StPageResult) : 0 ≤ x.size := by
  unfold StPageResult.size
  omega
def StPageResult.marked (x : StPageResult) (k : Int) : StPageResult := ⟨x.code, x.page.marked (k)⟩
theorem StPageResult.foot_marked (x : StPageResult) (k : Int) (b : Nat) : FootL (x.marked k).rows b ↔ FootL x.rows b := by
  exact BS.foot_marked _ _ b
def StPageResult.rd (w : World) (x : StPageResult) : Prop := Rd .u8 w x.page.v x.page.bs
theorem StPageResult.rd.kept {R : Nat → Prop} {w w' : World} {x : StPageResult} (h : StPageResult.rd w x) (hk : Kept R w w') (hr : ∀ b, FootL x.rows b → ¬ R b) : StPageResult.rd w' x :=
  Rd.kept (h) hk (fun b hb => hr b (((footL_ints _ _ _ _ _).2 hb)))
theorem StPageResult.rd.same {w w' : World} {x : StPageResult} (h : StPageResult.rd w x) (hk : Same w w') : StPageResult.rd w' x := h.kept hk (fun _ _ => id)
theorem StPageResult.own_rd {w : World} {x : StPageResult} (h : OwnL w x.rows) : StPageResult.rd w x :=
  (OwnL.of_one h).rd
def StPageResult.szs (x : StPageResult) : Int := (x.page.bs.length : Int)
theorem StPageResult.szs_le (x : StPageResult) : 0 ≤ x.szs := by
  unfold StPageResult.szs
  omega
set_option maxRecDepth 100000 in
set_option maxHeartbeats 4000000 in
theorem eqPageResult_own (x y : StPageResult) (w : World) (hn : x.size ≤ 1125899906842624) (hd : x.dat = y.dat) (ha : OwnL w x.rows) (hb : OwnL w y.rows) :
    Calls Try.prog 18 #[x.val, y.val] w fun e w' => e = .returned (.bool true) ∧ Same w w' := by
  obtain ⟨xcode, ⟨xpage_e, xpage_a, xpage_c, xpage_b⟩⟩ := x
  obtain ⟨ycode, ⟨ypage_e, ypage_a, ypage_c, ypage_b⟩⟩ := y
  simp only [StPageResult.dat, Prod.mk.injEq] at hd
  obtain ⟨rfl, rfl⟩ := hd
  simp only [StPageResult.size] at hn
  have Hx0 := (show Hid (OwnL w [ints xpage_e .u8 (.slice xpage_a xpage_b.length xpage_c) xpage_b]) from ha)
  have Hy0 := (show Hid (OwnL w [ints ypage_e .u8 (.slice ypage_a xpage_b.length ypage_c) xpage_b]) from hb)
  clear ha hb
  dsimp only [StPageResult.val, BS.v]
  go_enter Try.func18, Try.ntmps18
  have hk0 : Same w ((w.alloc (.cells #[.int .i64 xcode, .slice xpage_a xpage_b.length xpage_c] 27)).alloc (.cells #[.int .i64 xcode, .slice ypage_a xpage_b.length ypage_c] 27)) := ((Kept.refl _ _).alloc _).alloc _
  have HK0 := (show Hid (Same w _) from hk0)
  have HBx0 := (show Hid (Blk ((w.alloc (.cells #[.int .i64 xcode, .slice xpage_a xpage_b.length xpage_c] 27)).alloc (.cells #[.int .i64 xcode, .slice ypage_a xpage_b.length ypage_c] 27)) w.heap.size 27 [.int .i64 xcode, .slice xpage_a xpage_b.length xpage_c]) from (Blk.new w #[.int .i64 xcode, .slice xpage_a xpage_b.length xpage_c] 27).alloc _)
  have HBy0 := (show Hid (Blk ((w.alloc (.cells #[.int .i64 xcode, .slice xpage_a xpage_b.length xpage_c] 27)).alloc (.cells #[.int .i64 xcode, .slice ypage_a xpage_b.length ypage_c] 27)) (w.heap.size + 1) 27 [.int .i64 xcode, .slice ypage_a xpage_b.length ypage_c]) from by have h := Blk.new (w.alloc (.cells #[.int .i64 xcode, .slice xpage_a xpage_b.length xpage_c] 27)) #[.int .i64 xcode, .slice ypage_a xpage_b.length ypage_c] 27; rwa [World.size_alloc] at h)
  clear hk0
  go_wp2_with fail
  refine (eqByteS_own 0 _ _ xpage_b _ (by omega) (Hx0.out.of_one.same HK0.out) (Hy0.out.of_one.same HK0.out)).mono ?_
  rintro e w1 ⟨rfl, nn, hww⟩
  have hk : Same ((w.alloc (.cells #[.int .i64 xcode, .slice xpage_a xpage_b.length xpage_c] 27)).alloc (.cells #[.int .i64 xcode, .slice ypage_a xpage_b.length ypage_c] 27)) w1 := by rw [hww]; exact (Kept.refl _ _).drewN _
  clear hww
  have HK1 := (show Hid (Same w w1) from HK0.out.trans hk)
  have HBx1 := (show Hid (Blk w1 w.heap.size 27 [.int .i64 xcode, .slice xpage_a xpage_b.length xpage_c]) from HBx0.out.same hk)
  have HBy1 := (show Hid (Blk w1 (w.heap.size + 1) 27 [.int .i64 xcode, .slice ypage_a xpage_b.length ypage_c]) from HBy0.out.same hk)
  clear hk HK0 HBx0 HBy0
  go_wp2
  go_ret
  exact ⟨rfl, HK1.out⟩
set_option maxRecDepth 100000 in
set_option maxHeartbeats 4000000 in
theorem markPageResult_own (x : StPageResult) (k0 : Int) (w : World) (h0 : 0 ≤ k0) (h1 : k0 + x.size ≤ 1125899906842624) (ha : OwnL w x.rows) :
    Calls Try.prog 21 #[x.val, .int .i64 k0] w fun e w' => e = .returned (.int .i64 (k0 + x.size)) ∧ OwnL w' (x.marked k0).rows ∧ Kept (FootL x.rows) w w' := by
  have hlt := ha.lt
  have HLT := (show Hid (∀ b, FootL x.rows b → b < w.heap.size) from hlt)
  have HA := (show Hid (OwnL w x.rows) from ha)
  clear hlt
  obtain ⟨xcode, ⟨xpage_e, xpage_a, xpage_c, xpage_b⟩⟩ := x
  have HO0_0 := (show Hid (OwnL w [ints xpage_e .u8 (.slice xpage_a xpage_b.length xpage_c) xpage_b]) from ha)
  clear ha
  simp only [StPageResult.size] at h1
  dsimp only [StPageResult.val, BS.v]
  go_enter Try.func21, Try.ntmps21
  have HK_0 := (show Hid (Kept (FootL (StPageResult.rows ⟨xcode, ⟨xpage_e, xpage_a, xpage_c, xpage_b⟩⟩)) w (w.alloc (.cells #[.int .i64 xcode, .slice xpage_a xpage_b.length xpage_c] 27))) from (Kept.refl _ _).alloc _)
  have HB_0 := (show Hid (Blk (w.alloc (.cells #[.int .i64 xcode, .slice xpage_a xpage_b.length xpage_c] 27)) w.heap.size 27 [.int .i64 xcode, .slice xpage_a xpage_b.length xpage_c]) from Blk.new w #[.int .i64 xcode, .slice xpage_a xpage_b.length xpage_c] 27)
  go_wp2_with fail
  refine (markByteS_own 0 _ xpage_b (k0) _ (by omega) (by omega) (by omega) (OwnL.of_one (HO0_0.out.same ((Kept.refl _ _).alloc _)))).mono ?_
  rintro e w1 ⟨rfl, ho, hk⟩
  have ho := (show OwnL w1 (BS.rows (BS.marked ⟨xpage_e, xpage_a, xpage_c, xpage_b⟩ (k0))) from BS.own_marked.2 (OwnL.one ho))
  have hk : Kept (FootL [ints xpage_e .u8 (.slice xpage_a xpage_b.length xpage_c) xpage_b]) _ w1 := hk.mono (fun b _ e => (footL_ints _ _ _ _ _).2 e)
  have HB_1 := (show Hid (Blk w1 w.heap.size 27 [.int .i64 xcode, .slice xpage_a xpage_b.length xpage_c]) from HB_0.out.kept hk (fun e => by have := HLT.out _ (e); omega))
  have HK_1 := (show Hid (Kept (FootL (StPageResult.rows ⟨xcode, ⟨xpage_e, xpage_a, xpage_c, xpage_b⟩⟩)) w w1) from HK_0.out.next hk (fun b _ e => e))
  have HO0_1 := (show Hid (OwnL w1 (BS.rows (BS.marked ⟨xpage_e, xpage_a, xpage_c, xpage_b⟩ (k0)))) from ho)
  clear ho hk HB_0 HK_0 HO0_0
  go_wp2
  go_ret
  refine ⟨rfl, ?_, HK_1.out⟩
  exact HO0_1.out
set_option maxRecDepth 100000 in
set_option maxHeartbeats 4000000 in
theorem heldPageResult_own (x : StPageResult) (k0 : Int) (w : World) (h0 : 0 ≤ k0) (h1 : k0 + x.size ≤ 1125899906842624) (ha : OwnL w (x.marked k0).rows) :
    Calls Try.prog 22 #[x.val, .int .i64 k0] w fun e w' => e = .returned (.int .i64 (k0 + x.size)) ∧ Same w w' := by
  obtain ⟨xcode, ⟨xpage_e, xpage_a, xpage_c, xpage_b⟩⟩ := x
  have HO0 := (show Hid (OwnL w [ints xpage_e .u8 (.slice xpage_a xpage_b.length xpage_c) (marks (k0) xpage_b.length)]) from BS.own_marked.1 (ha))
  clear ha
  simp only [StPageResult.size] at h1
  dsimp only [StPageResult.val, BS.v]
  go_enter Try.func22, Try.ntmps22
  have HK0 := (show Hid (Same w (w.alloc (.cells #[.int .i64 xcode, .slice xpage_a xpage_b.length xpage_c] 27))) from (Kept.refl _ _).alloc _)
  have HB0 := (show Hid (Blk (w.alloc (.cells #[.int .i64 xcode, .slice xpage_a xpage_b.length xpage_c] 27)) w.heap.size 27 [.int .i64 xcode, .slice xpage_a xpage_b.length xpage_c]) from Blk.new w #[.int .i64 xcode, .slice xpage_a xpage_b.length xpage_c] 27)
  have hneg0 : ¬ (k0 + (xpage_b.length : Int)) < 0 := by omega
  go_wp2_with fail
  refine (heldByteS_own 0 _ xpage_b.length (k0) _ (by omega) (by omega) (by omega) (OwnL.of_one (HO0.out.same HK0.out))).mono ?_
  rintro e w1 ⟨rfl, hww⟩
  have hk : Same (w.alloc (.cells #[.int .i64 xcode, .slice xpage_a xpage_b.length xpage_c] 27)) w1 := by rw [hww]; exact Kept.refl _ _
  clear hww
  have HK1 := (show Hid (Same w w1) from HK0.out.trans hk)
  have HB1 := (show Hid (Blk w1 w.heap.size 27 [.int .i64 xcode, .slice xpage_a xpage_b.length xpage_c]) from HB0.out.same hk)
  clear hk
  go_wp2
  go_ret
  exact ⟨rfl, HK1.out⟩
end Go.Proofs.Ytknmledgpgkhpaa

namespace Go.Proofs.Ytknmledgpgkhpaa
open Go.RowKit
set_option linter.unusedVariables false
def StPageRecord.isB (x : StPageRecord) : Prop := IsB x.data.bs
theorem StPageRecord.size_rd {w : World} {x : StPageRecord} (h : StPageRecord.rd w x) : x.size ≤ 4 * x.szs := by
  unfold StPageRecord.size StPageRecord.szs
  omega
def SameP (w0 w : World) : Prop := Same w0 w
theorem SameP.same {w0 w w' : World} (h : SameP w0 w) (hk : Same w w') : SameP w0 w' := Kept.trans h hk
end Go.Proofs.Ytknmledgpgkhpaa

namespace Go.Proofs.Ytknmledgpgkhpaa
open Go Go.RowKit
set_option linter.unusedVariables false
set_option linter.unusedSimpArgs false
abbrev FrD := Int × Int × (Int × Int × Int × Int × Int × (Bool × List Int) × (Bool × List Int) × Int × Int × List Int × List Int × List Int)
def fLsn (d : FrD) : Int := d.1
def fKind (d : FrD) : Int := d.2.2.1
def fPage (d : FrD) : Int := d.2.2.2.2.2.1
def skipF (raw : List Int) (number frm : Int) (d : FrD) : Prop := (¬ fKind d = 1 ∧ ¬ fKind d = 2) ∨ ¬ fPage d = number ∨ fLsn d < frm ∨ fLsn d ≤ pageLSN raw
instance (raw : List Int) (number frm : Int) (d : FrD) : Decidable (skipF raw number frm d) := inferInstanceAs (Decidable (_ ∨ _))
end Go.Proofs.Ytknmledgpgkhpaa

namespace Go.Proofs.Ytknmledgpgkhpaa
set_option maxRecDepth 100000
set_option maxHeartbeats 8000000
open Go.RowKit
set_option linter.unusedVariables false
set_option linter.unusedSimpArgs false
def ChR (w w' : World) (P : Nat) (x : Int) (ys : List Int) (e : Ending) : Prop := e = .returned (.int .i64 x) ∧ Kept (fun b => b = P) w w' ∧ ((x = 0 ∧ PgAt w' P ys ∧ ownOK ys = true ∧ IsB ys) ∨ (¬ x = 0 ∧ ys = []))
theorem ChR.no {w w' : World} (P : Nat) (x : Int) (hx : ¬ x = 0) (h : Same w w') : ChR w w' P x [] (.returned (.int .i64 x)) := ⟨rfl, h.mono (fun _ _ e => e.elim), .inr ⟨hx, rfl⟩⟩
end Go.Proofs.Ytknmledgpgkhpaa

namespace Go.Proofs.Ytknmledgpgkhpaa
open Go.RowKit
set_option linter.unusedVariables false
theorem SetAns.st {ty : TypeId} {w w' : World} {e : Ending} {D : Int × List Int} (h : SetAns ty w w' e D.1 D.2) :
    ∃ y : StPageResult, e = .returned y.val ∧ y.dat = D ∧ (∀ b, FootL y.rows b → w.heap.size ≤ b) ∧ OwnL w' y.rows ∧ Same w w' := by
  obtain ⟨a, c, rfl, hf, ho, hk⟩ := h
  exact ⟨⟨D.1, ⟨ty, a, c, D.2⟩⟩, rfl, rfl, fun b hb => hf b ((footL_ints _ _ _ _ _).1 hb), OwnL.one ho, hk⟩
end Go.Proofs.Ytknmledgpgkhpaa
