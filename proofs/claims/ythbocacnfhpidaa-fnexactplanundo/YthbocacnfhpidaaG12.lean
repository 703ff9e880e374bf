import Derived.Test.YthbocacnfhpidaaG05
import Derived.Test.YthbocacnfhpidaaG06
import Derived.Test.YthbocacnfhpidaaPuS
import Derived.Test.YthbocacnfhpidaaG10
import Derived.Test.YthbocacnfhpidaaG11
import Derived.Test.YthbocacnfhpidaaG00
import Derived.Deep.DeepCutAuto
namespace Go.Proofs.Ythbocacnfhpidaa
set_option maxRecDepth 100000
set_option maxHeartbeats 2000000
open Go.RowKit
set_option linter.unusedVariables false
set_option linter.unusedSimpArgs false
theorem markUndoStepS_own (x : FR) (k0 : Int) (w : World) (h0 : 0 ≤ k0) (h1 : k0 + (x.bs.length : Int) ≤ 1125899906842624) (ha : OwnL w (x.rows 3)) :
    Calls Try.prog 35 #[x.v, .int .i64 k0] w fun e w' => e = .returned (.int .i64 (k0 + (x.bs.length : Int))) ∧ OwnL w' ((x.marked k0).rows 3) ∧ Kept (FootL (x.rows 3)) w w' := by
  have hl := FR.own_len ha
  have hf := FR.own_form ha
  obtain ⟨xe, xa, xn, xc, bs⟩ := x
  dsimp only [FR.v] at *
  have HA := (show Hid (OwnL w (FR.rows 3 ⟨xe, xa, xn, xc, bs⟩)) from ha)
  clear ha
  rcases hf with ⟨rfl, rfl, rfl⟩ | ⟨g, rfl, hac, hcm, ho⟩
  · obtain rfl : bs = [] := List.length_eq_zero_iff.1 (by omega)
    clear hl
    go_enter Try.func35, Try.ntmps35
    go_wp2
    refine wp_loop_rounds 1 ?_
    rw [rounds_succ]
    go_wp2
    go_ret
    exact ⟨by simp, HA.out, Kept.refl _ _⟩
  · have HL := (show Hid (bs.length = xn * 3) from hl)
    have HO0 := (show Hid (OwnF 3 xe w g xn xc bs) from ho)
    rw [hl] at h1 ⊢
    have hxn : k0 + (xn : Int) * 3 ≤ 1125899906842624 := by simpa using h1
    unfold maxLen at hcm
    clear ho hl HA h1
    go_enter Try.func35, Try.ntmps35
    go_wp2
    go_loopw [1, 5] (fun v i wr => ∃ k : Nat, k ≤ xn ∧ i = .int .i64 k ∧ v = .int .i64 (k0 + (k : Int) * 3) ∧ Hid (OwnF 3 xe wr g xn xc (partI k0 bs (k * 3))) ∧ Hid (Kept (fun b => b = g) w wr)) (fun _ i _ => xn - (intOf i).toNat)
    case atStart => exact ⟨0, Nat.zero_le _, rfl, by simp, by rw [Nat.zero_mul, partI_zero]; exact HO0, Kept.refl _ _⟩
    case round =>
      obtain ⟨k, hk, rfl, rfl, HO, HK⟩ := hrel
      by_cases hlt : k < xn
      · have c0 := HO.out.cell (k * 3) (by omega)
        have f0 := HO.out.frozen (k * 3)
        have c1 := HO.out.cell (k * 3 + 1) (by omega)
        have f1 := HO.out.frozen (k * 3 + 1)
        have c2 := HO.out.cell (k * 3 + 2) (by omega)
        have f2 := HO.out.frozen (k * 3 + 2)
        go_wp2
        go_roundw
        case rel =>
          have hl := HL.out
          have q0 := HO.out
          have q1 := q0.stored (k * 3) (k0 + ((k * 3 : Nat) : Int))
          rw [partI_step _ _ _ (by omega)] at q1
          have q2 := q1.stored (k * 3 + 1) (k0 + ((k * 3 + 1 : Nat) : Int))
          rw [partI_step _ _ _ (by omega)] at q2
          have q3 := q2.stored (k * 3 + 2) (k0 + ((k * 3 + 2 : Nat) : Int))
          rw [partI_step _ _ _ (by omega)] at q3
          refine ⟨k + 1, by omega, by go_num, by go_num, ?_, ?_⟩
          · rw [show (k + 1) * 3 = k * 3 + 1 + 1 + 1 from by omega]; simpa [Hid, Int.add_assoc] using q3
          · exact (((HK.out.setCell (.inr rfl) _).setCell (.inr rfl) _).setCell (.inr rfl) _)
        case measure => simp [intOf]; omega
      · go_wp2
        go_ret
        obtain rfl : k = xn := by omega
        have h := HO.out
        rw [← HL.out, partI_all] at h
        refine ⟨ret_int (by push_cast; rfl), ?_, HK.out.mono (fun b _ hb => (FootL_one _ _).2 (by simp [FR.v, Value.ownBlock, hb]))⟩
        exact h.out
theorem heldUndoStepS_own (x : FR) (k0 : Int) (w : World) (h0 : 0 ≤ k0) (h1 : k0 + (x.bs.length : Int) ≤ 1125899906842624) (ha : OwnL w ((x.marked k0).rows 3)) :
    Calls Try.prog 36 #[x.v, .int .i64 k0] w fun e w' => e = .returned (.int .i64 (k0 + (x.bs.length : Int))) ∧ Same w w' := by
  have hl := FR.own_len ha
  have hf := FR.own_form ha
  obtain ⟨xe, xa, xn, xc, bs⟩ := x
  dsimp only [FR.v, FR.marked] at *
  rw [marksI_length] at hl
  clear ha
  rcases hf with ⟨rfl, rfl, rfl⟩ | ⟨g, rfl, hac, hcm, ho⟩
  · obtain rfl : bs = [] := List.length_eq_zero_iff.1 (by omega)
    clear hl
    go_enter Try.func36, Try.ntmps36
    go_wp2
    refine wp_loop_rounds 1 ?_
    rw [rounds_succ]
    go_wp2
    go_ret
    exact ⟨by simp, Kept.refl _ _⟩
  · have hc : ∀ j, j < xn * 3 → w.cell? ⟨g, j, none⟩ = some (.int .i64 (k0 + j)) := fun j hj => by
      rw [ho.cell j hj, marksI_at _ _ _ (by omega)]
    rw [hl] at h1 ⊢
    have hxn : k0 + (xn : Int) * 3 ≤ 1125899906842624 := by simpa using h1
    unfold maxLen at hcm
    clear ho h1
    go_enter Try.func36, Try.ntmps36
    go_wp2
    go_loop [1, 5] (fun v i => ∃ k : Nat, k ≤ xn ∧ i = .int .i64 k ∧ v = .int .i64 (k0 + (k : Int) * 3)) (fun _ i => xn - (intOf i).toNat)
    case atStart => exact ⟨0, Nat.zero_le _, rfl, by simp⟩
    case round =>
      obtain ⟨k, hk, rfl, rfl⟩ := hrel
      by_cases hlt : k < xn
      · have c0 : w.cell? ⟨g, k * 3, none⟩ = some (.int .i64 (k0 + (k : Int) * 3)) := by rw [hc (k * 3) (by omega)]; congr 2 <;> (push_cast; omega)
        have c1 : w.cell? ⟨g, k * 3 + 1, none⟩ = some (.int .i64 (k0 + (k : Int) * 3 + 1)) := by rw [hc (k * 3 + 1) (by omega)]; congr 2 <;> (push_cast; omega)
        have c2 : w.cell? ⟨g, k * 3 + 2, none⟩ = some (.int .i64 (k0 + (k : Int) * 3 + 2)) := by rw [hc (k * 3 + 2) (by omega)]; congr 2 <;> (push_cast; omega)
        clear hc
        go_wp2
        go_round
        case rel => exact ⟨k + 1, by omega, by go_num, by go_num⟩
        case measure => simp [intOf]; omega
      · go_wp2
        go_ret
        obtain rfl : k = xn := by omega
        exact ⟨ret_int (by push_cast; rfl), Kept.refl _ _⟩
end Go.Proofs.Ythbocacnfhpidaa

namespace Go.Proofs.Ythbocacnfhpidaa
set_option maxRecDepth 100000
set_option maxHeartbeats 4000000
open Go.RowKit
set_option linter.unusedVariables false
set_option linter.unusedSimpArgs false
theorem markUndoPlan_own (x : StUndoPlan) (k0 : Int) (w : World) (h0 : 0 ≤ k0) (h1 : k0 + x.size ≤ 1125899906842624) (ha : OwnL w x.rows) :
    Calls Try.prog 15 #[x.val, .int .i64 k0] w fun e w' => e = .returned (.int .i64 (k0 + x.size)) ∧ OwnL w' (x.marked k0).rows ∧ Kept (FootL x.rows) w w' := by
  have hlt := ha.lt
  have HLT := (show Hid (∀ b, FootL x.rows b → b < w.heap.size) from hlt)
  have HA := (show Hid (OwnL w x.rows) from ha)
  clear hlt
  obtain ⟨xcode, ⟨xsteps_e, xsteps_a, xsteps_n, xsteps_c, xsteps_b⟩⟩ := x
  have HO0_0 := (show Hid (OwnL w [⟨xsteps_e, 3, .slice xsteps_a xsteps_n xsteps_c, xsteps_n, vals .i64 xsteps_b⟩]) from ha)
  clear ha
  simp only [StUndoPlan.size] at h1
  dsimp only [StUndoPlan.val, BS.v, FR.v]
  go_enter Try.func15, Try.ntmps15
  have HK_0 := (show Hid (Kept (FootL (StUndoPlan.rows ⟨xcode, ⟨xsteps_e, xsteps_a, xsteps_n, xsteps_c, xsteps_b⟩⟩)) w (w.alloc (.cells #[.int .i64 xcode, .slice xsteps_a xsteps_n xsteps_c] 28))) from (Kept.refl _ _).alloc _)
  have HB_0 := hid (Blk.newL w [.int .i64 xcode, .slice xsteps_a xsteps_n xsteps_c] 28)
  go_wp2_with fail
  refine (markUndoStepS_own ⟨xsteps_e, xsteps_a, xsteps_n, xsteps_c, xsteps_b⟩ (k0) _ (by omega) (by dsimp only; omega) (HO0_0.out.same ((Kept.refl _ _).alloc _))).mono ?_
  rintro e w1 ⟨rfl, ho, hk⟩
  have HB_1 := (show Hid (Blk w1 w.heap.size 28 [.int .i64 xcode, .slice xsteps_a xsteps_n xsteps_c]) from HB_0.out.kept hk (fun e => by have := HLT.out _ (e); omega))
  have HK_1 := (show Hid (Kept (FootL (StUndoPlan.rows ⟨xcode, ⟨xsteps_e, xsteps_a, xsteps_n, xsteps_c, xsteps_b⟩⟩)) w w1) from HK_0.out.next hk (fun b _ e => e))
  have HO0_1 := (show Hid (OwnL w1 (FR.rows 3 (FR.marked ⟨xsteps_e, xsteps_a, xsteps_n, xsteps_c, xsteps_b⟩ (k0)))) from ho)
  clear ho hk HB_0 HK_0 HO0_0
  go_wp2
  go_ret
  refine ⟨rfl, ?_, HK_1.out⟩
  exact HO0_1.out
theorem heldUndoPlan_own (x : StUndoPlan) (k0 : Int) (w : World) (h0 : 0 ≤ k0) (h1 : k0 + x.size ≤ 1125899906842624) (ha : OwnL w (x.marked k0).rows) :
    Calls Try.prog 16 #[x.val, .int .i64 k0] w fun e w' => e = .returned (.int .i64 (k0 + x.size)) ∧ Same w w' := by
  obtain ⟨xcode, ⟨xsteps_e, xsteps_a, xsteps_n, xsteps_c, xsteps_b⟩⟩ := x
  have HO0 := (show Hid (OwnL w (FR.rows 3 (FR.marked ⟨xsteps_e, xsteps_a, xsteps_n, xsteps_c, xsteps_b⟩ (k0)))) from ha)
  clear ha
  simp only [StUndoPlan.size] at h1
  dsimp only [StUndoPlan.val, BS.v, FR.v]
  go_enter Try.func16, Try.ntmps16
  obtain ⟨HK0, HB0⟩ := new1 w [.int .i64 xcode, .slice xsteps_a xsteps_n xsteps_c] 28
  have hneg0 : ¬ (k0 + (xsteps_b.length : Int)) < 0 := by omega
  go_wp2_with fail
  refine (heldUndoStepS_own ⟨xsteps_e, xsteps_a, xsteps_n, xsteps_c, xsteps_b⟩ (k0) _ (by omega) (by dsimp only; omega) (HO0.out.same HK0.out)).mono ?_
  rintro e w1 ⟨rfl, hk⟩
  have HK1 := (show Hid (Same w w1) from HK0.out.trans hk)
  have HB1 := hid (HB0.out.same hk)
  clear hk
  go_wp2
  go_ret
  exact ⟨rfl, HK1.out⟩
end Go.Proofs.Ythbocacnfhpidaa

namespace Go.Proofs.Ythbocacnfhpidaa
open Go Go.RowKit
set_option linter.unusedVariables false
def planDd (ds : List (Int × Int × (Int × Int × Int × Int × Int × (Bool × List Int) × (Bool × List Int) × Int × Int × List Int × List Int × List Int))) (bs : List Int) : Int × List Int := planD (ds.map (fun d => (d.1, d.2.2.1, d.2.2.2.1, d.2.2.2.2.1, d.2.2.2.2.2.2.2.2.2.1))) (quad bs)
theorem planDd_eq (ps : List StLogFrame) (bs : List Int) : planD (fs5 ps) (quad bs) = planDd (datFr ps) bs := by
  unfold planDd fs5 datFr
  rw [List.map_map]
  rfl
theorem planDd_small {ps : List StLogFrame} (hp : ps.length ≤ 1048576) {bs : List Int} {y : StUndoPlan} (hd : y.dat = planDd (datFr ps) bs) : y.size ≤ 1099511627776 := by
  rw [← planDd_eq] at hd
  have e : y.steps.bs = (planD (fs5 ps) (quad bs)).2 := congrArg Prod.snd hd
  have h := planD_len (fs5 ps) (quad bs)
  rw [fs5_length] at h
  unfold StUndoPlan.size
  rw [e]
  omega
theorem specPlanL_any (fv : Value) (ps : List StLogFrame) (x : FR) (w : World) (hfo : FrOK ps) (hf : RdFr w fv ps) (hx : RdF 4 w x) :
    Calls Try.prog 6 #[fv, x.v] w fun e w' => ∃ y : StUndoPlan, e = .returned y.val ∧ y.dat = planDd (datFr ps) x.bs ∧ (∀ b, FootL y.rows b → w.heap.size ≤ b) ∧ OwnL w' y.rows ∧ Same w w' := by
  rw [← planDd_eq]
  exact specPlan_any fv ps x w hf hx hfo.len
theorem implPlanL_any (fv : Value) (ps : List StLogFrame) (x : FR) (w : World) (hfo : FrOK ps) (hf : RdFr w fv ps) (hx : RdF 4 w x) :
    Calls Try.prog 9 #[fv, x.v] w fun e w' => ∃ y : StUndoPlan, e = .returned y.val ∧ y.dat = planDd (datFr ps) x.bs ∧ (∀ b, FootL y.rows b → w.heap.size ≤ b) ∧ OwnL w' y.rows ∧ Same w w' := by
  rw [← planDd_eq]
  exact implPlan_any fv ps x w hf hx hfo.len
end Go.Proofs.Ythbocacnfhpidaa

namespace Go.Proofs.Ythbocacnfhpidaa
open Go.RowKit
set_option linter.unusedVariables false
set_option maxRecDepth 100000 in
set_option maxHeartbeats 16000000 in
theorem planUndo_law (v0 : Value) (fs0 : List StLogFrame) (x1 : FR) (w : World) (hv0 : RdFr w v0 fs0) (hB0 : ∀ p ∈ fs0, p.isB) (hv1 : RdF 4 w x1) :
    Calls Try.prog 3 #[v0, x1.v] w fun e w' => e = .returned (.bool true) ∧ Same w w' := by
  obtain ⟨a0a, c0a, rfl⟩ := hv0.form
  have hm0 := hv0.row.max
  unfold maxLen at hm0
  have HB0 := (show Hid (∀ p ∈ fs0, p.isB) from hB0)
  clear hB0
  have HV0 := (show Hid (RdFr w (.slice a0a fs0.length c0a) fs0) from hv0)
  clear hv0
  obtain ⟨p1e, p1a, p1n, p1c, p1b⟩ := x1
  have hm1 : p1n ≤ maxLen := hv1.1
  unfold maxLen at hm1
  have hl1 : p1b.length = p1n * 4 := hv1.2.1
  have HV1 := (show Hid (RdF 4 w ⟨p1e, p1a, p1n, p1c, p1b⟩) from hv1)
  clear hv1
  dsimp only [FR.v]
  go_enter Try.func3, Try.ntmps3
  have HKw : Hid (Same w w) := Kept.refl _ _
  go_wp2_with fail
  refine (szLogFrameS_any _ fs0 1048576 _ (by omega) (by omega) (HV0.out.same HKw.out)).mono ?_
  rintro e w1 ⟨sz0, rfl, hr, hk⟩
  have hkk : Same w w1 := hk
  have hzw1 := hkk.size
  have HKw1 := (show Hid (Same w w1) from HKw.out.trans hkk)
  clear hkk hk
  rcases hr with rfl | ⟨hr, hr0⟩
  · go_wp2
    go_ret
    exact ⟨rfl, HKw1.out⟩
  have hz00 := sizeFr_nonneg fs0
  have hp0 : fs0.length ≤ 1048576 := by omega
  have hsz0 : sizeFr fs0 ≤ 1048576 := by omega
  have hsb0 : sz0 ≤ 1048576 := by omega
  have HS0 : Hid (∀ p ∈ fs0, p.szs ≤ 1048576) := fun p hp => by have := sizeFr_mem fs0 p hp; omega
  have HT0 : Hid (∀ qs : List StLogFrame, datFr qs = datFr fs0 → szsFr qs = szsFr fs0 → FrOK qs) := fun qs hq hqz => FrOK.of hq hqz HB0.out hp0 hsz0
  clear hr
  go_wp2_with fail
  refine (szTxnEntryS_any _ p1n _ sz0 _ (by omega) (by omega) (by unfold maxLen; omega)).mono ?_
  rintro e w2 ⟨sz1, rfl, hr, hww⟩
  have hk : Same w1 w2 := by rw [hww]; exact Kept.refl _ _
  clear hww
  have hkk : Same w1 w2 := hk
  have hzw2 := hkk.size
  have HKw2 := (show Hid (Same w w2) from HKw1.out.trans hkk)
  clear hkk hk
  rcases hr with ⟨rfl, _⟩ | ⟨hr, hr1⟩
  · go_wp2
    go_ret
    exact ⟨rfl, HKw2.out⟩
  have hp1 : p1n ≤ 1048576 := by omega
  have hsb1 : sz1 ≤ 1048576 := by omega
  clear hr
  go_wp2_with fail
  refine (toLogFrameS_any _ fs0 _ (by omega) (fun p hp => Int.le_trans (HS0.out p hp) (by omega)) (HV0.out.same HKw2.out)).mono ?_
  rintro e w3 ⟨gC0, qsC0, rfl, hq, hqz, hf, ho, hk⟩
  have HQC0 : Hid (datFr qsC0 = datFr fs0) := hq
  have HQZC0 : Hid (szsFr qsC0 = szsFr fs0) := hqz
  clear hqz
  have HFC0 := (show Hid (∀ b, footFr (.slice (some ⟨gC0, 0, none⟩) fs0.length fs0.length) qsC0 b → w2.heap.size ≤ b ∧ b < w3.heap.size) from fun b hb => ⟨hf b hb, ho.lt b hb⟩)
  have HC0w3 := (show Hid (OwnFr w3 (.slice (some ⟨gC0, 0, none⟩) fs0.length fs0.length) qsC0) from ho)
  clear hf ho hq
  have hkk : Same w2 w3 := hk
  have hzw3 := hkk.size
  have HKw3 := (show Hid (Same w w3) from HKw2.out.trans hkk)
  clear hkk hk
  go_wp2_with fail
  refine (toTxnEntryS_any ⟨p1e, p1a, p1n, p1c, p1b⟩ _ (by dsimp only; omega) (HV1.out.same HKw3.out)).mono ?_
  rintro e w4 ⟨⟨C1e, C1a, C1n, C1c, C1b⟩, rfl, hd, hn, hf, ho, hk⟩
  dsimp only at hd hn
  replace hd := hd.symm
  replace hn := hn.symm
  subst hd hn
  dsimp only [FR.v]
  have HFC1 := (show Hid (∀ b, FootL (FR.rows 4 ⟨C1e, C1a, p1n, C1c, p1b⟩) b → w3.heap.size ≤ b ∧ b < w4.heap.size) from fun b hb => ⟨hf b hb, ho.lt b hb⟩)
  have HC1w4 := (show Hid (OwnL w4 (FR.rows 4 ⟨C1e, C1a, p1n, C1c, p1b⟩)) from ho)
  clear hf ho
  have hkk : Same w3 w4 := hk
  have hzw4 := hkk.size
  have HC0w4 := (show Hid (OwnFr w4 (.slice (some ⟨gC0, 0, none⟩) fs0.length fs0.length) qsC0) from HC0w3.out.same hkk)
  have HKw4 := (show Hid (Same w w4) from HKw3.out.trans hkk)
  clear hkk hk
  go_wp2_with fail
  refine (specPlanL_any _ qsC0 ⟨C1e, C1a, p1n, C1c, p1b⟩ _ (HT0.out qsC0 HQC0.out HQZC0.out) (HC0w4.out.rd) (FR.own_rd HC1w4.out)).mono ?_
  rintro e w5 ⟨⟨Wcode, ⟨Wsteps_e, Wsteps_a, Wsteps_n, Wsteps_c, Wsteps_b⟩⟩, rfl, hd, hf, ho, hk⟩
  rw [HQC0.out] at hd
  have hnW : StUndoPlan.size ⟨Wcode, ⟨Wsteps_e, Wsteps_a, Wsteps_n, Wsteps_c, Wsteps_b⟩⟩ ≤ 1099511627776 := planDd_small (by omega) hd
  have hnW0 := StUndoPlan.size_le ⟨Wcode, ⟨Wsteps_e, Wsteps_a, Wsteps_n, Wsteps_c, Wsteps_b⟩⟩
  have HDW := (show Hid (StUndoPlan.dat ⟨Wcode, ⟨Wsteps_e, Wsteps_a, Wsteps_n, Wsteps_c, Wsteps_b⟩⟩ = planDd (datFr fs0) p1b) from hd)
  dsimp only [StUndoPlan.val, BS.v, FR.v]
  have HFW := (show Hid (∀ b, FootL (StUndoPlan.rows ⟨Wcode, ⟨Wsteps_e, Wsteps_a, Wsteps_n, Wsteps_c, Wsteps_b⟩⟩) b → w4.heap.size ≤ b ∧ b < w5.heap.size) from fun b hb => ⟨hf b hb, ho.lt b hb⟩)
  have HWw5 := (show Hid (OwnL w5 (StUndoPlan.rows ⟨Wcode, ⟨Wsteps_e, Wsteps_a, Wsteps_n, Wsteps_c, Wsteps_b⟩⟩)) from ho)
  clear hd hf ho
  have hkk : Same w4 w5 := hk
  have hzw5 := hkk.size
  have HC0w5 := (show Hid (OwnFr w5 (.slice (some ⟨gC0, 0, none⟩) fs0.length fs0.length) qsC0) from HC0w4.out.same hkk)
  have HC1w5 := (show Hid (OwnL w5 (FR.rows 4 ⟨C1e, C1a, p1n, C1c, p1b⟩)) from HC1w4.out.same hkk)
  have HKw5 := (show Hid (Same w w5) from HKw4.out.trans hkk)
  clear hkk hk
  go_wp2_with fail
  refine (toLogFrameS_any _ fs0 _ (by omega) (fun p hp => Int.le_trans (HS0.out p hp) (by omega)) (HV0.out.same (HKw5.out.alloc _))).mono ?_
  rintro e w6 ⟨gX0, qsX0, rfl, hq, hqz, hf, ho, hk⟩
  have HQX0 : Hid (datFr qsX0 = datFr fs0) := hq
  have HQZX0 : Hid (szsFr qsX0 = szsFr fs0) := hqz
  clear hqz
  simp only [World.size_alloc] at hf
  have HFX0 := (show Hid (∀ b, footFr (.slice (some ⟨gX0, 0, none⟩) fs0.length fs0.length) qsX0 b → w5.heap.size < b ∧ b < w6.heap.size) from fun b hb => ⟨by have := hf b hb; omega, ho.lt b hb⟩)
  have HX0w6 := (show Hid (OwnFr w6 (.slice (some ⟨gX0, 0, none⟩) fs0.length fs0.length) qsX0) from ho)
  clear hf ho hq
  have hkk : Same w5 w6 := ((Kept.refl _ _).alloc _).trans hk
  have hzw6 := hk.size
  rw [World.size_alloc] at hzw6
  have HWw6 := (show Hid (OwnL w6 (StUndoPlan.rows ⟨Wcode, ⟨Wsteps_e, Wsteps_a, Wsteps_n, Wsteps_c, Wsteps_b⟩⟩)) from HWw5.out.same hkk)
  have HZw6 := (show Hid (Blk w6 (w5.heap.size) 28 [.int .i64 Wcode, .slice Wsteps_a Wsteps_n Wsteps_c]) from (Blk.new w5 #[.int .i64 Wcode, .slice Wsteps_a Wsteps_n Wsteps_c] 28).same hk)
  have HKw6 := (show Hid (Same w w6) from HKw5.out.trans hkk)
  clear hkk hk
  have cZ_0 : w6.cell? ⟨w5.heap.size, 0, none⟩ = some (.int .i64 Wcode) := HZw6.out.cell 0
  have cZ_1 : w6.cell? ⟨w5.heap.size, 1, none⟩ = some (.slice Wsteps_a Wsteps_n Wsteps_c) := HZw6.out.cell 1
  have lZ := HZw6.out.lt
  go_wp2_with fail
  refine (toTxnEntryS_any ⟨p1e, p1a, p1n, p1c, p1b⟩ _ (by dsimp only; omega) (HV1.out.same HKw6.out)).mono ?_
  rintro e w7 ⟨⟨X1e, X1a, X1n, X1c, X1b⟩, rfl, hd, hn, hf, ho, hk⟩
  dsimp only at hd hn
  replace hd := hd.symm
  replace hn := hn.symm
  subst hd hn
  dsimp only [FR.v]
  have HFX1 := (show Hid (∀ b, FootL (FR.rows 4 ⟨X1e, X1a, p1n, X1c, p1b⟩) b → w6.heap.size ≤ b ∧ b < w7.heap.size) from fun b hb => ⟨hf b hb, ho.lt b hb⟩)
  have HX1w7 := (show Hid (OwnL w7 (FR.rows 4 ⟨X1e, X1a, p1n, X1c, p1b⟩)) from ho)
  clear hf ho
  have hkk : Same w6 w7 := hk
  have hzw7 := hkk.size
  have HWw7 := (show Hid (OwnL w7 (StUndoPlan.rows ⟨Wcode, ⟨Wsteps_e, Wsteps_a, Wsteps_n, Wsteps_c, Wsteps_b⟩⟩)) from HWw6.out.same hkk)
  have HZw7 := (show Hid (Blk w7 (w5.heap.size) 28 [.int .i64 Wcode, .slice Wsteps_a Wsteps_n Wsteps_c]) from HZw6.out.same hkk)
  have HX0w7 := (show Hid (OwnFr w7 (.slice (some ⟨gX0, 0, none⟩) fs0.length fs0.length) qsX0) from HX0w6.out.same hkk)
  have HKw7 := (show Hid (Same w w7) from HKw6.out.trans hkk)
  clear hkk hk
  clear cZ_0 cZ_1 lZ
  have cZ_0 : w7.cell? ⟨w5.heap.size, 0, none⟩ = some (.int .i64 Wcode) := HZw7.out.cell 0
  have cZ_1 : w7.cell? ⟨w5.heap.size, 1, none⟩ = some (.slice Wsteps_a Wsteps_n Wsteps_c) := HZw7.out.cell 1
  have lZ := HZw7.out.lt
  go_wp2_with fail
  refine (implPlanL_any _ qsX0 ⟨X1e, X1a, p1n, X1c, p1b⟩ _ (HT0.out qsX0 HQX0.out HQZX0.out) (HX0w7.out.rd) (FR.own_rd HX1w7.out)).mono ?_
  rintro e w8 ⟨⟨Gcode, ⟨Gsteps_e, Gsteps_a, Gsteps_n, Gsteps_c, Gsteps_b⟩⟩, rfl, hd, hf, ho, hk⟩
  rw [HQX0.out] at hd
  have hnG : StUndoPlan.size ⟨Gcode, ⟨Gsteps_e, Gsteps_a, Gsteps_n, Gsteps_c, Gsteps_b⟩⟩ ≤ 1099511627776 := planDd_small (by omega) hd
  have hnG0 := StUndoPlan.size_le ⟨Gcode, ⟨Gsteps_e, Gsteps_a, Gsteps_n, Gsteps_c, Gsteps_b⟩⟩
  have HDG := (show Hid (StUndoPlan.dat ⟨Gcode, ⟨Gsteps_e, Gsteps_a, Gsteps_n, Gsteps_c, Gsteps_b⟩⟩ = planDd (datFr fs0) p1b) from hd)
  dsimp only [StUndoPlan.val, BS.v, FR.v]
  have HFG := (show Hid (∀ b, FootL (StUndoPlan.rows ⟨Gcode, ⟨Gsteps_e, Gsteps_a, Gsteps_n, Gsteps_c, Gsteps_b⟩⟩) b → w7.heap.size ≤ b ∧ b < w8.heap.size) from fun b hb => ⟨hf b hb, ho.lt b hb⟩)
  have HGw8 := (show Hid (OwnL w8 (StUndoPlan.rows ⟨Gcode, ⟨Gsteps_e, Gsteps_a, Gsteps_n, Gsteps_c, Gsteps_b⟩⟩)) from ho)
  clear hd hf ho
  have hkk : Same w7 w8 := hk
  have hzw8 := hkk.size
  have HWw8 := (show Hid (OwnL w8 (StUndoPlan.rows ⟨Wcode, ⟨Wsteps_e, Wsteps_a, Wsteps_n, Wsteps_c, Wsteps_b⟩⟩)) from HWw7.out.same hkk)
  have HZw8 := (show Hid (Blk w8 (w5.heap.size) 28 [.int .i64 Wcode, .slice Wsteps_a Wsteps_n Wsteps_c]) from HZw7.out.same hkk)
  have HX0w8 := (show Hid (OwnFr w8 (.slice (some ⟨gX0, 0, none⟩) fs0.length fs0.length) qsX0) from HX0w7.out.same hkk)
  have HX1w8 := (show Hid (OwnL w8 (FR.rows 4 ⟨X1e, X1a, p1n, X1c, p1b⟩)) from HX1w7.out.same hkk)
  have HKw8 := (show Hid (Same w w8) from HKw7.out.trans hkk)
  clear hkk hk
  clear cZ_0 cZ_1 lZ
  have cZ_0 : w8.cell? ⟨w5.heap.size, 0, none⟩ = some (.int .i64 Wcode) := HZw8.out.cell 0
  have cZ_1 : w8.cell? ⟨w5.heap.size, 1, none⟩ = some (.slice Wsteps_a Wsteps_n Wsteps_c) := HZw8.out.cell 1
  have lZ := HZw8.out.lt
  go_wp2_with fail
  refine (eqUndoPlan_own ⟨Gcode, ⟨Gsteps_e, Gsteps_a, Gsteps_n, Gsteps_c, Gsteps_b⟩⟩ ⟨Wcode, ⟨Wsteps_e, Wsteps_a, Wsteps_n, Wsteps_c, Wsteps_b⟩⟩ _ (by omega) (HDG.out.trans HDW.out.symm) (HGw8.out.same ((Kept.refl _ _).alloc _)) (HWw8.out.same ((Kept.refl _ _).alloc _))).mono ?_
  rintro e w9 ⟨rfl, hk⟩
  have hkk : Same w8 w9 := ((Kept.refl _ _).alloc _).trans hk
  have hzw9 := hk.size
  rw [World.size_alloc] at hzw9
  have HWw9 := (show Hid (OwnL w9 (StUndoPlan.rows ⟨Wcode, ⟨Wsteps_e, Wsteps_a, Wsteps_n, Wsteps_c, Wsteps_b⟩⟩)) from HWw8.out.same hkk)
  have HZw9 := (show Hid (Blk w9 (w5.heap.size) 28 [.int .i64 Wcode, .slice Wsteps_a Wsteps_n Wsteps_c]) from HZw8.out.same hkk)
  have HX0w9 := (show Hid (OwnFr w9 (.slice (some ⟨gX0, 0, none⟩) fs0.length fs0.length) qsX0) from HX0w8.out.same hkk)
  have HX1w9 := (show Hid (OwnL w9 (FR.rows 4 ⟨X1e, X1a, p1n, X1c, p1b⟩)) from HX1w8.out.same hkk)
  have HGw9 := (show Hid (OwnL w9 (StUndoPlan.rows ⟨Gcode, ⟨Gsteps_e, Gsteps_a, Gsteps_n, Gsteps_c, Gsteps_b⟩⟩)) from HGw8.out.same hkk)
  have HYw9 := (show Hid (Blk w9 (w8.heap.size) 28 [.int .i64 Gcode, .slice Gsteps_a Gsteps_n Gsteps_c]) from (Blk.new w8 #[.int .i64 Gcode, .slice Gsteps_a Gsteps_n Gsteps_c] 28).same hk)
  have HKw9 := (show Hid (Same w w9) from HKw8.out.trans hkk)
  clear hkk hk
  clear cZ_0 cZ_1 lZ
  have cZ_0 : w9.cell? ⟨w5.heap.size, 0, none⟩ = some (.int .i64 Wcode) := HZw9.out.cell 0
  have cZ_1 : w9.cell? ⟨w5.heap.size, 1, none⟩ = some (.slice Wsteps_a Wsteps_n Wsteps_c) := HZw9.out.cell 1
  have lZ := HZw9.out.lt
  have cY_0 : w9.cell? ⟨w8.heap.size, 0, none⟩ = some (.int .i64 Gcode) := HYw9.out.cell 0
  have cY_1 : w9.cell? ⟨w8.heap.size, 1, none⟩ = some (.slice Gsteps_a Gsteps_n Gsteps_c) := HYw9.out.cell 1
  have lY := HYw9.out.lt
  go_wp2_with fail
  refine (toLogFrameS_any _ fs0 _ (by omega) (fun p hp => Int.le_trans (HS0.out p hp) (by omega)) (HV0.out.same HKw9.out)).mono ?_
  rintro e w10 ⟨gD0, qsD0, rfl, hq, hqz, hf, ho, hk⟩
  have HQD0 : Hid (datFr qsD0 = datFr fs0) := hq
  have HQZD0 : Hid (szsFr qsD0 = szsFr fs0) := hqz
  clear hqz
  have HFD0 := (show Hid (∀ b, footFr (.slice (some ⟨gD0, 0, none⟩) fs0.length fs0.length) qsD0 b → w9.heap.size ≤ b ∧ b < w10.heap.size) from fun b hb => ⟨hf b hb, ho.lt b hb⟩)
  have HD0w10 := (show Hid (OwnFr w10 (.slice (some ⟨gD0, 0, none⟩) fs0.length fs0.length) qsD0) from ho)
  clear hf ho hq
  have hkk : Same w9 w10 := hk
  have hzw10 := hkk.size
  have HWw10 := (show Hid (OwnL w10 (StUndoPlan.rows ⟨Wcode, ⟨Wsteps_e, Wsteps_a, Wsteps_n, Wsteps_c, Wsteps_b⟩⟩)) from HWw9.out.same hkk)
  have HZw10 := (show Hid (Blk w10 (w5.heap.size) 28 [.int .i64 Wcode, .slice Wsteps_a Wsteps_n Wsteps_c]) from HZw9.out.same hkk)
  have HX0w10 := (show Hid (OwnFr w10 (.slice (some ⟨gX0, 0, none⟩) fs0.length fs0.length) qsX0) from HX0w9.out.same hkk)
  have HX1w10 := (show Hid (OwnL w10 (FR.rows 4 ⟨X1e, X1a, p1n, X1c, p1b⟩)) from HX1w9.out.same hkk)
  have HGw10 := (show Hid (OwnL w10 (StUndoPlan.rows ⟨Gcode, ⟨Gsteps_e, Gsteps_a, Gsteps_n, Gsteps_c, Gsteps_b⟩⟩)) from HGw9.out.same hkk)
  have HYw10 := (show Hid (Blk w10 (w8.heap.size) 28 [.int .i64 Gcode, .slice Gsteps_a Gsteps_n Gsteps_c]) from HYw9.out.same hkk)
  have HKw10 := (show Hid (Same w w10) from HKw9.out.trans hkk)
  clear hkk hk
  clear cZ_0 cZ_1 lZ cY_0 cY_1 lY
  have cZ_0 : w10.cell? ⟨w5.heap.size, 0, none⟩ = some (.int .i64 Wcode) := HZw10.out.cell 0
  have cZ_1 : w10.cell? ⟨w5.heap.size, 1, none⟩ = some (.slice Wsteps_a Wsteps_n Wsteps_c) := HZw10.out.cell 1
  have lZ := HZw10.out.lt
  have cY_0 : w10.cell? ⟨w8.heap.size, 0, none⟩ = some (.int .i64 Gcode) := HYw10.out.cell 0
  have cY_1 : w10.cell? ⟨w8.heap.size, 1, none⟩ = some (.slice Gsteps_a Gsteps_n Gsteps_c) := HYw10.out.cell 1
  have lY := HYw10.out.lt
  go_wp2_with fail
  refine (eqLogFrameS_own _ _ qsX0 qsD0 _ (Nat.le_trans (HT0.out qsX0 HQX0.out HQZX0.out).len (by omega)) (HQX0.out.trans HQD0.out.symm) (fun p hp => by have h1 := StLogFrame.size_rd (HX0w10.out.rd.data p hp); have h2 := (HT0.out qsX0 HQX0.out HQZX0.out).each p hp; omega) HX0w10.out HD0w10.out).mono ?_
  rintro e w11 ⟨rfl, hk⟩
  have hkk : Same w10 w11 := hk
  have hzw11 := hkk.size
  have HWw11 := (show Hid (OwnL w11 (StUndoPlan.rows ⟨Wcode, ⟨Wsteps_e, Wsteps_a, Wsteps_n, Wsteps_c, Wsteps_b⟩⟩)) from HWw10.out.same hkk)
  have HZw11 := (show Hid (Blk w11 (w5.heap.size) 28 [.int .i64 Wcode, .slice Wsteps_a Wsteps_n Wsteps_c]) from HZw10.out.same hkk)
  have HX0w11 := (show Hid (OwnFr w11 (.slice (some ⟨gX0, 0, none⟩) fs0.length fs0.length) qsX0) from HX0w10.out.same hkk)
  have HX1w11 := (show Hid (OwnL w11 (FR.rows 4 ⟨X1e, X1a, p1n, X1c, p1b⟩)) from HX1w10.out.same hkk)
  have HGw11 := (show Hid (OwnL w11 (StUndoPlan.rows ⟨Gcode, ⟨Gsteps_e, Gsteps_a, Gsteps_n, Gsteps_c, Gsteps_b⟩⟩)) from HGw10.out.same hkk)
  have HYw11 := (show Hid (Blk w11 (w8.heap.size) 28 [.int .i64 Gcode, .slice Gsteps_a Gsteps_n Gsteps_c]) from HYw10.out.same hkk)
  have HKw11 := (show Hid (Same w w11) from HKw10.out.trans hkk)
  clear hkk hk
  clear cZ_0 cZ_1 lZ cY_0 cY_1 lY
  have cZ_0 : w11.cell? ⟨w5.heap.size, 0, none⟩ = some (.int .i64 Wcode) := HZw11.out.cell 0
  have cZ_1 : w11.cell? ⟨w5.heap.size, 1, none⟩ = some (.slice Wsteps_a Wsteps_n Wsteps_c) := HZw11.out.cell 1
  have lZ := HZw11.out.lt
  have cY_0 : w11.cell? ⟨w8.heap.size, 0, none⟩ = some (.int .i64 Gcode) := HYw11.out.cell 0
  have cY_1 : w11.cell? ⟨w8.heap.size, 1, none⟩ = some (.slice Gsteps_a Gsteps_n Gsteps_c) := HYw11.out.cell 1
  have lY := HYw11.out.lt
  go_wp2_with fail
  refine (toTxnEntryS_any ⟨p1e, p1a, p1n, p1c, p1b⟩ _ (by dsimp only; omega) (HV1.out.same HKw11.out)).mono ?_
  rintro e w12 ⟨⟨D1e, D1a, D1n, D1c, D1b⟩, rfl, hd, hn, hf, ho, hk⟩
  dsimp only at hd hn
  replace hd := hd.symm
  replace hn := hn.symm
  subst hd hn
  dsimp only [FR.v]
  have HFD1 := (show Hid (∀ b, FootL (FR.rows 4 ⟨D1e, D1a, p1n, D1c, p1b⟩) b → w11.heap.size ≤ b ∧ b < w12.heap.size) from fun b hb => ⟨hf b hb, ho.lt b hb⟩)
  have HD1w12 := (show Hid (OwnL w12 (FR.rows 4 ⟨D1e, D1a, p1n, D1c, p1b⟩)) from ho)
  clear hf ho
  have hkk : Same w11 w12 := hk
  have hzw12 := hkk.size
  have HWw12 := (show Hid (OwnL w12 (StUndoPlan.rows ⟨Wcode, ⟨Wsteps_e, Wsteps_a, Wsteps_n, Wsteps_c, Wsteps_b⟩⟩)) from HWw11.out.same hkk)
  have HZw12 := (show Hid (Blk w12 (w5.heap.size) 28 [.int .i64 Wcode, .slice Wsteps_a Wsteps_n Wsteps_c]) from HZw11.out.same hkk)
  have HX0w12 := (show Hid (OwnFr w12 (.slice (some ⟨gX0, 0, none⟩) fs0.length fs0.length) qsX0) from HX0w11.out.same hkk)
  have HX1w12 := (show Hid (OwnL w12 (FR.rows 4 ⟨X1e, X1a, p1n, X1c, p1b⟩)) from HX1w11.out.same hkk)
  have HGw12 := (show Hid (OwnL w12 (StUndoPlan.rows ⟨Gcode, ⟨Gsteps_e, Gsteps_a, Gsteps_n, Gsteps_c, Gsteps_b⟩⟩)) from HGw11.out.same hkk)
  have HYw12 := (show Hid (Blk w12 (w8.heap.size) 28 [.int .i64 Gcode, .slice Gsteps_a Gsteps_n Gsteps_c]) from HYw11.out.same hkk)
  have HKw12 := (show Hid (Same w w12) from HKw11.out.trans hkk)
  clear hkk hk
  clear cZ_0 cZ_1 lZ cY_0 cY_1 lY
  have cZ_0 : w12.cell? ⟨w5.heap.size, 0, none⟩ = some (.int .i64 Wcode) := HZw12.out.cell 0
  have cZ_1 : w12.cell? ⟨w5.heap.size, 1, none⟩ = some (.slice Wsteps_a Wsteps_n Wsteps_c) := HZw12.out.cell 1
  have lZ := HZw12.out.lt
  have cY_0 : w12.cell? ⟨w8.heap.size, 0, none⟩ = some (.int .i64 Gcode) := HYw12.out.cell 0
  have cY_1 : w12.cell? ⟨w8.heap.size, 1, none⟩ = some (.slice Gsteps_a Gsteps_n Gsteps_c) := HYw12.out.cell 1
  have lY := HYw12.out.lt
  go_wp2_with fail
  refine (eqTxnEntryS_own ⟨X1e, X1a, p1n, X1c, p1b⟩ ⟨D1e, D1a, p1n, D1c, p1b⟩ _ (by dsimp only; omega) rfl HX1w12.out HD1w12.out).mono ?_
  rintro e w13 ⟨rfl, hk⟩
  have hkk : Same w12 w13 := hk
  have hzw13 := hkk.size
  have HWw13 := (show Hid (OwnL w13 (StUndoPlan.rows ⟨Wcode, ⟨Wsteps_e, Wsteps_a, Wsteps_n, Wsteps_c, Wsteps_b⟩⟩)) from HWw12.out.same hkk)
  have HZw13 := (show Hid (Blk w13 (w5.heap.size) 28 [.int .i64 Wcode, .slice Wsteps_a Wsteps_n Wsteps_c]) from HZw12.out.same hkk)
  have HX0w13 := (show Hid (OwnFr w13 (.slice (some ⟨gX0, 0, none⟩) fs0.length fs0.length) qsX0) from HX0w12.out.same hkk)
  have HX1w13 := (show Hid (OwnL w13 (FR.rows 4 ⟨X1e, X1a, p1n, X1c, p1b⟩)) from HX1w12.out.same hkk)
  have HGw13 := (show Hid (OwnL w13 (StUndoPlan.rows ⟨Gcode, ⟨Gsteps_e, Gsteps_a, Gsteps_n, Gsteps_c, Gsteps_b⟩⟩)) from HGw12.out.same hkk)
  have HYw13 := (show Hid (Blk w13 (w8.heap.size) 28 [.int .i64 Gcode, .slice Gsteps_a Gsteps_n Gsteps_c]) from HYw12.out.same hkk)
  have HKw13 := (show Hid (Same w w13) from HKw12.out.trans hkk)
  clear hkk hk
  clear cZ_0 cZ_1 lZ cY_0 cY_1 lY
  have hE0 : (0 : Int) ≤ 1 := by omega
  have hE0b : (1 : Int) ≤ 1 := by omega
  have hqxX0 := HT0.out qsX0 HQX0.out HQZX0.out
  have hm1X0 := mzFr_rd HX0w13.out.rd.data
  have hm2X0 := mzFr_nonneg qsX0
  have hm3X0 := hqxX0.len
  have hm4X0 := hqxX0.sum
  obtain ⟨E1, hE⟩ : ∃ E, 1 + mzFr qsX0 = E := ⟨_, rfl⟩
  have hE1 : 0 ≤ E1 := by omega
  have hE1b : E1 ≤ 17000001 := by omega
  have HE1 : Hid (1 + mzFr qsX0 = E1) := hE
  clear hE hqxX0 hm1X0 hm2X0 hm4X0
  have cZ_0 : w13.cell? ⟨w5.heap.size, 0, none⟩ = some (.int .i64 Wcode) := HZw13.out.cell 0
  have cZ_1 : w13.cell? ⟨w5.heap.size, 1, none⟩ = some (.slice Wsteps_a Wsteps_n Wsteps_c) := HZw13.out.cell 1
  have lZ := HZw13.out.lt
  have cY_0 : w13.cell? ⟨w8.heap.size, 0, none⟩ = some (.int .i64 Gcode) := HYw13.out.cell 0
  have cY_1 : w13.cell? ⟨w8.heap.size, 1, none⟩ = some (.slice Gsteps_a Gsteps_n Gsteps_c) := HYw13.out.cell 1
  have lY := HYw13.out.lt
  go_wp2_with fail
  have hm := markLogFrameS_own (.slice (some ⟨gX0, 0, none⟩) fs0.length fs0.length) qsX0 1 w13 (by omega) (by rw [HE1.out]; omega) (by omega) HX0w13.out
  rw [HE1.out] at hm
  refine hm.mono ?_
  clear hm
  rintro e w14 ⟨rfl, _, hk⟩
  have hzw14 := hk.size
  have HWw14 := (show Hid (OwnL w14 (StUndoPlan.rows ⟨Wcode, ⟨Wsteps_e, Wsteps_a, Wsteps_n, Wsteps_c, Wsteps_b⟩⟩)) from HWw13.out.kept hk (fun b hb e => by have h1 := HFX0.out _ e; have h2 := HFW.out b hb; omega))
  have HZw14 := (show Hid (Blk w14 (w5.heap.size) 28 [.int .i64 Wcode, .slice Wsteps_a Wsteps_n Wsteps_c]) from HZw13.out.kept hk (fun e => by have h1 := HFX0.out _ e; omega))
  have HX1w14 := (show Hid (OwnL w14 (FR.rows 4 ⟨X1e, X1a, p1n, X1c, p1b⟩)) from HX1w13.out.kept hk (fun b hb e => by have h1 := HFX0.out _ e; have h2 := HFX1.out b hb; omega))
  have HGw14 := (show Hid (OwnL w14 (StUndoPlan.rows ⟨Gcode, ⟨Gsteps_e, Gsteps_a, Gsteps_n, Gsteps_c, Gsteps_b⟩⟩)) from HGw13.out.kept hk (fun b hb e => by have h1 := HFX0.out _ e; have h2 := HFG.out b hb; omega))
  have HYw14 := (show Hid (Blk w14 (w8.heap.size) 28 [.int .i64 Gcode, .slice Gsteps_a Gsteps_n Gsteps_c]) from HYw13.out.kept hk (fun e => by have h1 := HFX0.out _ e; omega))
  have HKw14 := (show Hid (Same w w14) from HKw13.out.next hk (fun b hb e => by have h1 := HFX0.out _ e; omega))
  clear cZ_0 cZ_1 lZ cY_0 cY_1 lY
  clear hk
  have cZ_0 : w14.cell? ⟨w5.heap.size, 0, none⟩ = some (.int .i64 Wcode) := HZw14.out.cell 0
  have cZ_1 : w14.cell? ⟨w5.heap.size, 1, none⟩ = some (.slice Wsteps_a Wsteps_n Wsteps_c) := HZw14.out.cell 1
  have lZ := HZw14.out.lt
  have cY_0 : w14.cell? ⟨w8.heap.size, 0, none⟩ = some (.int .i64 Gcode) := HYw14.out.cell 0
  have cY_1 : w14.cell? ⟨w8.heap.size, 1, none⟩ = some (.slice Gsteps_a Gsteps_n Gsteps_c) := HYw14.out.cell 1
  have lY := HYw14.out.lt
  go_wp2_with fail
  refine (markTxnEntryS_own ⟨X1e, X1a, p1n, X1c, p1b⟩ E1 _ (by omega) (by dsimp only; omega) HX1w14.out).mono ?_
  rintro e w15 ⟨rfl, _, hk⟩
  dsimp only
  obtain ⟨E2, hE⟩ : ∃ E : Int, E1 + (p1b.length : Int) = E := ⟨_, rfl⟩
  have hE2 : 0 ≤ E2 := by omega
  have hE2b : E2 ≤ 34000001 := by omega
  rw [hE]
  clear hE
  have hzw15 := hk.size
  have HWw15 := (show Hid (OwnL w15 (StUndoPlan.rows ⟨Wcode, ⟨Wsteps_e, Wsteps_a, Wsteps_n, Wsteps_c, Wsteps_b⟩⟩)) from HWw14.out.kept hk (fun b hb e => by have h1 := HFX1.out _ e; have h2 := HFW.out b hb; omega))
  have HZw15 := (show Hid (Blk w15 (w5.heap.size) 28 [.int .i64 Wcode, .slice Wsteps_a Wsteps_n Wsteps_c]) from HZw14.out.kept hk (fun e => by have h1 := HFX1.out _ e; omega))
  have HGw15 := (show Hid (OwnL w15 (StUndoPlan.rows ⟨Gcode, ⟨Gsteps_e, Gsteps_a, Gsteps_n, Gsteps_c, Gsteps_b⟩⟩)) from HGw14.out.kept hk (fun b hb e => by have h1 := HFX1.out _ e; have h2 := HFG.out b hb; omega))
  have HYw15 := (show Hid (Blk w15 (w8.heap.size) 28 [.int .i64 Gcode, .slice Gsteps_a Gsteps_n Gsteps_c]) from HYw14.out.kept hk (fun e => by have h1 := HFX1.out _ e; omega))
  have HKw15 := (show Hid (Same w w15) from HKw14.out.next hk (fun b hb e => by have h1 := HFX1.out _ e; omega))
  clear cZ_0 cZ_1 lZ cY_0 cY_1 lY
  clear hk
  have hEn : ¬ E2 < 0 := by omega
  have cZ_0 : w15.cell? ⟨w5.heap.size, 0, none⟩ = some (.int .i64 Wcode) := HZw15.out.cell 0
  have cZ_1 : w15.cell? ⟨w5.heap.size, 1, none⟩ = some (.slice Wsteps_a Wsteps_n Wsteps_c) := HZw15.out.cell 1
  have lZ := HZw15.out.lt
  have cY_0 : w15.cell? ⟨w8.heap.size, 0, none⟩ = some (.int .i64 Gcode) := HYw15.out.cell 0
  have cY_1 : w15.cell? ⟨w8.heap.size, 1, none⟩ = some (.slice Gsteps_a Gsteps_n Gsteps_c) := HYw15.out.cell 1
  have lY := HYw15.out.lt
  go_wp2_with fail
  refine (eqUndoPlan_own ⟨Gcode, ⟨Gsteps_e, Gsteps_a, Gsteps_n, Gsteps_c, Gsteps_b⟩⟩ ⟨Wcode, ⟨Wsteps_e, Wsteps_a, Wsteps_n, Wsteps_c, Wsteps_b⟩⟩ _ (by omega) (HDG.out.trans HDW.out.symm) HGw15.out HWw15.out).mono ?_
  rintro e w16 ⟨rfl, hk⟩
  have hkk : Same w15 w16 := hk
  have hzw16 := hkk.size
  have HWw16 := (show Hid (OwnL w16 (StUndoPlan.rows ⟨Wcode, ⟨Wsteps_e, Wsteps_a, Wsteps_n, Wsteps_c, Wsteps_b⟩⟩)) from HWw15.out.same hkk)
  have HZw16 := (show Hid (Blk w16 (w5.heap.size) 28 [.int .i64 Wcode, .slice Wsteps_a Wsteps_n Wsteps_c]) from HZw15.out.same hkk)
  have HGw16 := (show Hid (OwnL w16 (StUndoPlan.rows ⟨Gcode, ⟨Gsteps_e, Gsteps_a, Gsteps_n, Gsteps_c, Gsteps_b⟩⟩)) from HGw15.out.same hkk)
  have HYw16 := (show Hid (Blk w16 (w8.heap.size) 28 [.int .i64 Gcode, .slice Gsteps_a Gsteps_n Gsteps_c]) from HYw15.out.same hkk)
  have HKw16 := (show Hid (Same w w16) from HKw15.out.trans hkk)
  clear hkk hk
  clear cZ_0 cZ_1 lZ cY_0 cY_1 lY
  have hM2 : ¬ (1 + StUndoPlan.size ⟨Gcode, ⟨Gsteps_e, Gsteps_a, Gsteps_n, Gsteps_c, Gsteps_b⟩⟩) < 0 := by omega
  obtain ⟨M, hM⟩ : ∃ M, 1 + StUndoPlan.size ⟨Gcode, ⟨Gsteps_e, Gsteps_a, Gsteps_n, Gsteps_c, Gsteps_b⟩⟩ = M := ⟨_, rfl⟩
  have HM := (show Hid (1 + StUndoPlan.size ⟨Gcode, ⟨Gsteps_e, Gsteps_a, Gsteps_n, Gsteps_c, Gsteps_b⟩⟩ = M) from hM)
  have hM3 : 0 ≤ M ∧ M ≤ 1125899906842624 := by omega
  rw [hM] at hM2
  clear hM
  have cZ_0 : w16.cell? ⟨w5.heap.size, 0, none⟩ = some (.int .i64 Wcode) := HZw16.out.cell 0
  have cZ_1 : w16.cell? ⟨w5.heap.size, 1, none⟩ = some (.slice Wsteps_a Wsteps_n Wsteps_c) := HZw16.out.cell 1
  have lZ := HZw16.out.lt
  have cY_0 : w16.cell? ⟨w8.heap.size, 0, none⟩ = some (.int .i64 Gcode) := HYw16.out.cell 0
  have cY_1 : w16.cell? ⟨w8.heap.size, 1, none⟩ = some (.slice Gsteps_a Gsteps_n Gsteps_c) := HYw16.out.cell 1
  have lY := HYw16.out.lt
  go_wp2_with fail
  have hm := markUndoPlan_own ⟨Gcode, ⟨Gsteps_e, Gsteps_a, Gsteps_n, Gsteps_c, Gsteps_b⟩⟩ 1 w16 (by omega) (by rw [HM.out]; omega) HGw16.out
  rw [HM.out] at hm
  dsimp only [StUndoPlan.val, BS.v, FR.v] at hm
  refine hm.mono ?_
  clear hm
  rintro e w17 ⟨rfl, ho, hk⟩
  have hzw17 := hk.size
  have HWw17 := (show Hid (OwnL w17 (StUndoPlan.rows ⟨Wcode, ⟨Wsteps_e, Wsteps_a, Wsteps_n, Wsteps_c, Wsteps_b⟩⟩)) from HWw16.out.kept hk (fun b hb e => by have h1 := HFG.out _ e; have h2 := HFW.out b hb; omega))
  have HZw17 := (show Hid (Blk w17 (w5.heap.size) 28 [.int .i64 Wcode, .slice Wsteps_a Wsteps_n Wsteps_c]) from HZw16.out.kept hk (fun e => by have h1 := HFG.out _ e; omega))
  have HYw17 := (show Hid (Blk w17 (w8.heap.size) 28 [.int .i64 Gcode, .slice Gsteps_a Gsteps_n Gsteps_c]) from HYw16.out.kept hk (fun e => by have h1 := HFG.out _ e; omega))
  have HKw17 := (show Hid (Same w w17) from HKw16.out.next hk (fun b hb e => by have h1 := HFG.out _ e; omega))
  have HUw17 := (show Hid (OwnL w17 (StUndoPlan.marked ⟨Gcode, ⟨Gsteps_e, Gsteps_a, Gsteps_n, Gsteps_c, Gsteps_b⟩⟩ 1).rows) from ho)
  clear cZ_0 cZ_1 lZ cY_0 cY_1 lY
  clear hk ho
  have HFU := (show Hid (∀ b, FootL (StUndoPlan.marked ⟨Gcode, ⟨Gsteps_e, Gsteps_a, Gsteps_n, Gsteps_c, Gsteps_b⟩⟩ 1).rows b → _ ∧ _) from fun b hb => HFG.out b ((StUndoPlan.foot_marked _ _ b).1 hb))
  have cZ_0 : w17.cell? ⟨w5.heap.size, 0, none⟩ = some (.int .i64 Wcode) := HZw17.out.cell 0
  have cZ_1 : w17.cell? ⟨w5.heap.size, 1, none⟩ = some (.slice Wsteps_a Wsteps_n Wsteps_c) := HZw17.out.cell 1
  have lZ := HZw17.out.lt
  have cY_0 : w17.cell? ⟨w8.heap.size, 0, none⟩ = some (.int .i64 Gcode) := HYw17.out.cell 0
  have cY_1 : w17.cell? ⟨w8.heap.size, 1, none⟩ = some (.slice Gsteps_a Gsteps_n Gsteps_c) := HYw17.out.cell 1
  have lY := HYw17.out.lt
  go_wp2_with fail
  have hm := heldUndoPlan_own ⟨Gcode, ⟨Gsteps_e, Gsteps_a, Gsteps_n, Gsteps_c, Gsteps_b⟩⟩ 1 w17 (by omega) (by rw [HM.out]; omega) HUw17.out
  rw [HM.out] at hm
  dsimp only [StUndoPlan.val, BS.v, FR.v] at hm
  refine hm.mono ?_
  clear hm
  rintro e w18 ⟨rfl, hk⟩
  have hkk : Same w17 w18 := hk
  have hzw18 := hkk.size
  have HWw18 := (show Hid (OwnL w18 (StUndoPlan.rows ⟨Wcode, ⟨Wsteps_e, Wsteps_a, Wsteps_n, Wsteps_c, Wsteps_b⟩⟩)) from HWw17.out.same hkk)
  have HZw18 := (show Hid (Blk w18 (w5.heap.size) 28 [.int .i64 Wcode, .slice Wsteps_a Wsteps_n Wsteps_c]) from HZw17.out.same hkk)
  have HYw18 := (show Hid (Blk w18 (w8.heap.size) 28 [.int .i64 Gcode, .slice Gsteps_a Gsteps_n Gsteps_c]) from HYw17.out.same hkk)
  have HUw18 := (show Hid (OwnL w18 (StUndoPlan.marked ⟨Gcode, ⟨Gsteps_e, Gsteps_a, Gsteps_n, Gsteps_c, Gsteps_b⟩⟩ 1).rows) from HUw17.out.same hkk)
  have HKw18 := (show Hid (Same w w18) from HKw17.out.trans hkk)
  clear hkk hk
  clear cZ_0 cZ_1 lZ cY_0 cY_1 lY
  have cZ_0 : w18.cell? ⟨w5.heap.size, 0, none⟩ = some (.int .i64 Wcode) := HZw18.out.cell 0
  have cZ_1 : w18.cell? ⟨w5.heap.size, 1, none⟩ = some (.slice Wsteps_a Wsteps_n Wsteps_c) := HZw18.out.cell 1
  have lZ := HZw18.out.lt
  have cY_0 : w18.cell? ⟨w8.heap.size, 0, none⟩ = some (.int .i64 Gcode) := HYw18.out.cell 0
  have cY_1 : w18.cell? ⟨w8.heap.size, 1, none⟩ = some (.slice Gsteps_a Gsteps_n Gsteps_c) := HYw18.out.cell 1
  have lY := HYw18.out.lt
  go_wp2_with fail
  refine (toLogFrameS_any _ fs0 _ (by omega) (fun p hp => Int.le_trans (HS0.out p hp) (by omega)) (HV0.out.same HKw18.out)).mono ?_
  rintro e w19 ⟨gJ0, qsJ0, rfl, hq, hqz, hf, ho, hk⟩
  have HQJ0 : Hid (datFr qsJ0 = datFr fs0) := hq
  have HQZJ0 : Hid (szsFr qsJ0 = szsFr fs0) := hqz
  clear hqz
  have HFJ0 := (show Hid (∀ b, footFr (.slice (some ⟨gJ0, 0, none⟩) fs0.length fs0.length) qsJ0 b → w18.heap.size ≤ b ∧ b < w19.heap.size) from fun b hb => ⟨hf b hb, ho.lt b hb⟩)
  have HJ0w19 := (show Hid (OwnFr w19 (.slice (some ⟨gJ0, 0, none⟩) fs0.length fs0.length) qsJ0) from ho)
  clear hf ho hq
  have hkk : Same w18 w19 := hk
  have hzw19 := hkk.size
  have HWw19 := (show Hid (OwnL w19 (StUndoPlan.rows ⟨Wcode, ⟨Wsteps_e, Wsteps_a, Wsteps_n, Wsteps_c, Wsteps_b⟩⟩)) from HWw18.out.same hkk)
  have HZw19 := (show Hid (Blk w19 (w5.heap.size) 28 [.int .i64 Wcode, .slice Wsteps_a Wsteps_n Wsteps_c]) from HZw18.out.same hkk)
  have HYw19 := (show Hid (Blk w19 (w8.heap.size) 28 [.int .i64 Gcode, .slice Gsteps_a Gsteps_n Gsteps_c]) from HYw18.out.same hkk)
  have HUw19 := (show Hid (OwnL w19 (StUndoPlan.marked ⟨Gcode, ⟨Gsteps_e, Gsteps_a, Gsteps_n, Gsteps_c, Gsteps_b⟩⟩ 1).rows) from HUw18.out.same hkk)
  have HKw19 := (show Hid (Same w w19) from HKw18.out.trans hkk)
  clear hkk hk
  clear cZ_0 cZ_1 lZ cY_0 cY_1 lY
  have cZ_0 : w19.cell? ⟨w5.heap.size, 0, none⟩ = some (.int .i64 Wcode) := HZw19.out.cell 0
  have cZ_1 : w19.cell? ⟨w5.heap.size, 1, none⟩ = some (.slice Wsteps_a Wsteps_n Wsteps_c) := HZw19.out.cell 1
  have lZ := HZw19.out.lt
  have cY_0 : w19.cell? ⟨w8.heap.size, 0, none⟩ = some (.int .i64 Gcode) := HYw19.out.cell 0
  have cY_1 : w19.cell? ⟨w8.heap.size, 1, none⟩ = some (.slice Gsteps_a Gsteps_n Gsteps_c) := HYw19.out.cell 1
  have lY := HYw19.out.lt
  go_wp2_with fail
  refine (toTxnEntryS_any ⟨p1e, p1a, p1n, p1c, p1b⟩ _ (by dsimp only; omega) (HV1.out.same HKw19.out)).mono ?_
  rintro e w20 ⟨⟨J1e, J1a, J1n, J1c, J1b⟩, rfl, hd, hn, hf, ho, hk⟩
  dsimp only at hd hn
  replace hd := hd.symm
  replace hn := hn.symm
  subst hd hn
  dsimp only [FR.v]
  have HFJ1 := (show Hid (∀ b, FootL (FR.rows 4 ⟨J1e, J1a, p1n, J1c, p1b⟩) b → w19.heap.size ≤ b ∧ b < w20.heap.size) from fun b hb => ⟨hf b hb, ho.lt b hb⟩)
  have HJ1w20 := (show Hid (OwnL w20 (FR.rows 4 ⟨J1e, J1a, p1n, J1c, p1b⟩)) from ho)
  clear hf ho
  have hkk : Same w19 w20 := hk
  have hzw20 := hkk.size
  have HWw20 := (show Hid (OwnL w20 (StUndoPlan.rows ⟨Wcode, ⟨Wsteps_e, Wsteps_a, Wsteps_n, Wsteps_c, Wsteps_b⟩⟩)) from HWw19.out.same hkk)
  have HZw20 := (show Hid (Blk w20 (w5.heap.size) 28 [.int .i64 Wcode, .slice Wsteps_a Wsteps_n Wsteps_c]) from HZw19.out.same hkk)
  have HYw20 := (show Hid (Blk w20 (w8.heap.size) 28 [.int .i64 Gcode, .slice Gsteps_a Gsteps_n Gsteps_c]) from HYw19.out.same hkk)
  have HUw20 := (show Hid (OwnL w20 (StUndoPlan.marked ⟨Gcode, ⟨Gsteps_e, Gsteps_a, Gsteps_n, Gsteps_c, Gsteps_b⟩⟩ 1).rows) from HUw19.out.same hkk)
  have HJ0w20 := (show Hid (OwnFr w20 (.slice (some ⟨gJ0, 0, none⟩) fs0.length fs0.length) qsJ0) from HJ0w19.out.same hkk)
  have HKw20 := (show Hid (Same w w20) from HKw19.out.trans hkk)
  clear hkk hk
  clear cZ_0 cZ_1 lZ cY_0 cY_1 lY
  have cZ_0 : w20.cell? ⟨w5.heap.size, 0, none⟩ = some (.int .i64 Wcode) := HZw20.out.cell 0
  have cZ_1 : w20.cell? ⟨w5.heap.size, 1, none⟩ = some (.slice Wsteps_a Wsteps_n Wsteps_c) := HZw20.out.cell 1
  have lZ := HZw20.out.lt
  have cY_0 : w20.cell? ⟨w8.heap.size, 0, none⟩ = some (.int .i64 Gcode) := HYw20.out.cell 0
  have cY_1 : w20.cell? ⟨w8.heap.size, 1, none⟩ = some (.slice Gsteps_a Gsteps_n Gsteps_c) := HYw20.out.cell 1
  have lY := HYw20.out.lt
  go_wp2_with fail
  refine (implPlanL_any _ qsJ0 ⟨J1e, J1a, p1n, J1c, p1b⟩ _ (HT0.out qsJ0 HQJ0.out HQZJ0.out) (HJ0w20.out.rd) (FR.own_rd HJ1w20.out)).mono ?_
  rintro e w21 ⟨⟨Lcode, ⟨Lsteps_e, Lsteps_a, Lsteps_n, Lsteps_c, Lsteps_b⟩⟩, rfl, hd, hf, ho, hk⟩
  rw [HQJ0.out] at hd
  have hnL : StUndoPlan.size ⟨Lcode, ⟨Lsteps_e, Lsteps_a, Lsteps_n, Lsteps_c, Lsteps_b⟩⟩ ≤ 1099511627776 := planDd_small (by omega) hd
  have hnL0 := StUndoPlan.size_le ⟨Lcode, ⟨Lsteps_e, Lsteps_a, Lsteps_n, Lsteps_c, Lsteps_b⟩⟩
  have HDL := (show Hid (StUndoPlan.dat ⟨Lcode, ⟨Lsteps_e, Lsteps_a, Lsteps_n, Lsteps_c, Lsteps_b⟩⟩ = planDd (datFr fs0) p1b) from hd)
  dsimp only [StUndoPlan.val, BS.v, FR.v]
  have HFL := (show Hid (∀ b, FootL (StUndoPlan.rows ⟨Lcode, ⟨Lsteps_e, Lsteps_a, Lsteps_n, Lsteps_c, Lsteps_b⟩⟩) b → w20.heap.size ≤ b ∧ b < w21.heap.size) from fun b hb => ⟨hf b hb, ho.lt b hb⟩)
  have HLw21 := (show Hid (OwnL w21 (StUndoPlan.rows ⟨Lcode, ⟨Lsteps_e, Lsteps_a, Lsteps_n, Lsteps_c, Lsteps_b⟩⟩)) from ho)
  clear hd hf ho
  have hkk : Same w20 w21 := hk
  have hzw21 := hkk.size
  have HWw21 := (show Hid (OwnL w21 (StUndoPlan.rows ⟨Wcode, ⟨Wsteps_e, Wsteps_a, Wsteps_n, Wsteps_c, Wsteps_b⟩⟩)) from HWw20.out.same hkk)
  have HZw21 := (show Hid (Blk w21 (w5.heap.size) 28 [.int .i64 Wcode, .slice Wsteps_a Wsteps_n Wsteps_c]) from HZw20.out.same hkk)
  have HYw21 := (show Hid (Blk w21 (w8.heap.size) 28 [.int .i64 Gcode, .slice Gsteps_a Gsteps_n Gsteps_c]) from HYw20.out.same hkk)
  have HUw21 := (show Hid (OwnL w21 (StUndoPlan.marked ⟨Gcode, ⟨Gsteps_e, Gsteps_a, Gsteps_n, Gsteps_c, Gsteps_b⟩⟩ 1).rows) from HUw20.out.same hkk)
  have HJ0w21 := (show Hid (OwnFr w21 (.slice (some ⟨gJ0, 0, none⟩) fs0.length fs0.length) qsJ0) from HJ0w20.out.same hkk)
  have HJ1w21 := (show Hid (OwnL w21 (FR.rows 4 ⟨J1e, J1a, p1n, J1c, p1b⟩)) from HJ1w20.out.same hkk)
  have HKw21 := (show Hid (Same w w21) from HKw20.out.trans hkk)
  clear hkk hk
  clear cZ_0 cZ_1 lZ cY_0 cY_1 lY
  have cZ_0 : w21.cell? ⟨w5.heap.size, 0, none⟩ = some (.int .i64 Wcode) := HZw21.out.cell 0
  have cZ_1 : w21.cell? ⟨w5.heap.size, 1, none⟩ = some (.slice Wsteps_a Wsteps_n Wsteps_c) := HZw21.out.cell 1
  have lZ := HZw21.out.lt
  have cY_0 : w21.cell? ⟨w8.heap.size, 0, none⟩ = some (.int .i64 Gcode) := HYw21.out.cell 0
  have cY_1 : w21.cell? ⟨w8.heap.size, 1, none⟩ = some (.slice Gsteps_a Gsteps_n Gsteps_c) := HYw21.out.cell 1
  have lY := HYw21.out.lt
  go_wp2_with fail
  refine (eqUndoPlan_own ⟨Lcode, ⟨Lsteps_e, Lsteps_a, Lsteps_n, Lsteps_c, Lsteps_b⟩⟩ ⟨Wcode, ⟨Wsteps_e, Wsteps_a, Wsteps_n, Wsteps_c, Wsteps_b⟩⟩ _ (by omega) (HDL.out.trans HDW.out.symm) (HLw21.out.same ((Kept.refl _ _).alloc _)) (HWw21.out.same ((Kept.refl _ _).alloc _))).mono ?_
  rintro e w22 ⟨rfl, hk⟩
  have hkk : Same w21 w22 := ((Kept.refl _ _).alloc _).trans hk
  have hzw22 := hk.size
  rw [World.size_alloc] at hzw22
  have HWw22 := (show Hid (OwnL w22 (StUndoPlan.rows ⟨Wcode, ⟨Wsteps_e, Wsteps_a, Wsteps_n, Wsteps_c, Wsteps_b⟩⟩)) from HWw21.out.same hkk)
  have HZw22 := (show Hid (Blk w22 (w5.heap.size) 28 [.int .i64 Wcode, .slice Wsteps_a Wsteps_n Wsteps_c]) from HZw21.out.same hkk)
  have HYw22 := (show Hid (Blk w22 (w8.heap.size) 28 [.int .i64 Gcode, .slice Gsteps_a Gsteps_n Gsteps_c]) from HYw21.out.same hkk)
  have HUw22 := (show Hid (OwnL w22 (StUndoPlan.marked ⟨Gcode, ⟨Gsteps_e, Gsteps_a, Gsteps_n, Gsteps_c, Gsteps_b⟩⟩ 1).rows) from HUw21.out.same hkk)
  have HLw22 := (show Hid (OwnL w22 (StUndoPlan.rows ⟨Lcode, ⟨Lsteps_e, Lsteps_a, Lsteps_n, Lsteps_c, Lsteps_b⟩⟩)) from HLw21.out.same hkk)
  have HVw22 := (show Hid (Blk w22 (w21.heap.size) 28 [.int .i64 Lcode, .slice Lsteps_a Lsteps_n Lsteps_c]) from (Blk.new w21 #[.int .i64 Lcode, .slice Lsteps_a Lsteps_n Lsteps_c] 28).same hk)
  have HKw22 := (show Hid (Same w w22) from HKw21.out.trans hkk)
  clear hkk hk
  clear cZ_0 cZ_1 lZ cY_0 cY_1 lY
  have cY_0 : w22.cell? ⟨w8.heap.size, 0, none⟩ = some (.int .i64 Gcode) := HYw22.out.cell 0
  have cY_1 : w22.cell? ⟨w8.heap.size, 1, none⟩ = some (.slice Gsteps_a Gsteps_n Gsteps_c) := HYw22.out.cell 1
  have lY := HYw22.out.lt
  go_wp2_with fail
  have hm := heldUndoPlan_own ⟨Gcode, ⟨Gsteps_e, Gsteps_a, Gsteps_n, Gsteps_c, Gsteps_b⟩⟩ 1 w22 (by omega) (by rw [HM.out]; omega) HUw22.out
  rw [HM.out] at hm
  dsimp only [StUndoPlan.val, BS.v, FR.v] at hm
  refine hm.mono ?_
  clear hm
  rintro e w23 ⟨rfl, hk⟩
  have hkk : Same w22 w23 := hk
  have hzw23 := hkk.size
  have HYw23 := (show Hid (Blk w23 (w8.heap.size) 28 [.int .i64 Gcode, .slice Gsteps_a Gsteps_n Gsteps_c]) from HYw22.out.same hkk)
  have HUw23 := (show Hid (OwnL w23 (StUndoPlan.marked ⟨Gcode, ⟨Gsteps_e, Gsteps_a, Gsteps_n, Gsteps_c, Gsteps_b⟩⟩ 1).rows) from HUw22.out.same hkk)
  have HKw23 := (show Hid (Same w w23) from HKw22.out.trans hkk)
  clear hkk hk
  clear cY_0 cY_1 lY
  go_wp2
  go_ret
  exact ⟨rfl, HKw23.out⟩
end Go.Proofs.Ythbocacnfhpidaa

namespace Go.Proofs.Ythbocacnfhpidaa.fnExactPlanUndo
open Go.ChangeShapes Go.WideShapes Go.ChangeAt Go.RowKit
set_option linter.unusedVariables false
theorem own : ownKnob Try.prog.godebug = none := by kernel_rfl
theorem laidOut : laidOutB Try.prog = true := by kernel_rfl
set_option maxRecDepth 100000 in
theorem lifted (os : Os) (started : os.Started) (H : Type) (enc : TypeId × Value → H) :
    ReturnsInHanded {} Try.checked os 3 .any (Rows.fnExactPlanUndoSpec.pre6 enc Try.prog Try.f3 Rows.fnExactPlanUndoRow.domain false) (Rows.fnExactPlanUndoSpec.post enc Try.prog Try.f3 false true false false) := by
  refine returnsInHanded_of_change (C := Try.checked) own started (by kernel_rfl) Try.func3
    (ChangeSpec.witness6 (enc := enc) (C := Try.checked) false ⟨#[], #[.slice none 0 0, .slice none 0 0], []⟩ 8 (by kernel_rfl) (by kernel_rfl) (by kernel_rfl) (by kernel_rfl)) ?_
  intro W base args ds gs before hval0 hW hcnd _
  have hval : ∀ (j : Nat) t v, Try.f3.params[j]? = some t → args[j]? = some v → Value.okWide Try.prog W .any base t v := hval0
  have hW' := hW
  obtain ⟨p, q, hA0, hV, rfl, hfz, hnd⟩ := hW
  have hA : DataW.TrodAll enc Try.prog W 0 (fun _ => true) true Try.f3.params.toList args.toList ds p := hA0
  rw [Try.params3] at hA hval
  obtain ⟨v0, vs0, d0, ds0, p0, q0, hargs, rfl, rfl, h0, r0⟩ := trodAll_cons hA
  obtain ⟨v1, vs1, d1, ds1, p1, q1, rfl, rfl, rfl, h1, r1⟩ := trodAll_cons r0
  obtain ⟨rfl, rfl, rfl⟩ := trodAll_nil r1
  obtain rfl : args = #[v0, v1] := by cases args; simp_all
  obtain ⟨rfl, rfl⟩ := trodVars_none hV
  have k0 := h0
  have lt0 : ∀ x ∈ p0, x.block < W.heap.size := by obtain ⟨m, hm⟩ := k0; exact DataW.trod_lt m _ _ _ hm
  obtain ⟨fs0, rd0, bd0⟩ := open_frames (hval 0 22 v0 rfl rfl) h0
  have k1 := h1
  have lt1 : ∀ x ∈ p1, x.block < W.heap.size := by obtain ⟨m, hm⟩ := k1; exact DataW.trod_lt m _ _ _ hm
  obtain ⟨x1, rfl, rd1, bd1⟩ := open_txnEntryS (hval 1 23 v1 rfl rfl) h1
  clear hA0 hval0
  refine (planUndo_law v0 fs0 x1 W rd0 bd0 rd1).mono fun e W' ⟨he, hk⟩ => ?_
  have bel : Below W.heap.size W W' := hk.below (Nat.le_refl _) (fun _ _ => id)
  subst he
  exact ⟨_, rfl, _, _, _, [], _, [], hW', trodAll_mk1 (shut_bool Try.underlying4 _), (trodAll_cons_mk (Below.trod laidOut (by kernel_rfl) (of_decide_eq_true (by kernel_rfl)) k0 bel lt0) (trodAll_cons_mk (Below.trod laidOut (by kernel_rfl) (of_decide_eq_true (by kernel_rfl)) k1 bel lt1) trodAll_mk0)), rfl, bel.frame _, fun h => by cases h⟩
theorem over : Rows.fnExactPlanUndoRow.holds Try.pinned (OpenSpec.ofChange Rows.fnExactPlanUndoSpec) :=
  OpenClaim.holds_of_wide 3 Try.f3 rfl rfl rfl rfl rfl rfl rfl ⟨rfl, rfl, rfl, rfl, rfl⟩ rfl rfl rfl rfl rfl (by kernel_rfl) Try.func3 (by kernel_rfl)
    (of_decide_eq_true (by kernel_rfl)) (by unfold Func.isWrapper; first | (rw [if_pos (by decide +kernel)]; kernel_rfl) | (rw [if_neg (by decide +kernel)]; exact ⟨rfl, rfl⟩))
    (fun os started H enc _ => lifted os started H enc)
end Go.Proofs.Ythbocacnfhpidaa.fnExactPlanUndo
namespace Go.Proofs.Ythbocacnfhpidaa
theorem planUndo_proved : Rows.FnExactPlanUndoSaid := fnExactPlanUndo.over
#print axioms planUndo_proved
end Go.Proofs.Ythbocacnfhpidaa
