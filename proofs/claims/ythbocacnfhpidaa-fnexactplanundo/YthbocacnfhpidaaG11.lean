import Derived.Test.YthbocacnfhpidaaG05
import Derived.Test.YthbocacnfhpidaaTyTxnEntryS
import Derived.Test.YthbocacnfhpidaaG01
import Derived.Test.YthbocacnfhpidaaG10
import Derived.Deep.MidRow
import Derived.Deep.DeepCutAuto
namespace Go.Proofs.Ythbocacnfhpidaa
set_option maxRecDepth 100000
set_option maxHeartbeats 8000000
open Go Go.RowKit
set_option linter.unusedVariables false
set_option linter.unusedSimpArgs false
theorem Try.infoFr : (Try.prog.info? 60).map (fun i => (i.zero, i.size, i.bytes)) = some (some (.agg #[.int .i64 0, .int .i64 0, .int .i64 0, .int .i64 0, .int .i64 0, .int .i64 0, .int .i64 0, .bool false, .slice none 0 0, .bool false, .slice none 0 0, .int .i64 0, .int .i64 0, .slice none 0 0, .slice none 0 0, .slice none 0 0]), 16, 208) := by kernel_rfl
theorem toLogFrameS_any (v : Value) (ps : List StLogFrame) (w : World) (hn : ps.length ≤ 1048576) (hs : ∀ p ∈ ps, p.szs ≤ 1073741824) (hv : RdFr w v ps) :
    Calls Try.prog 7 #[v] w fun e w' => ∃ g qs, e = .returned (.slice (some ⟨g, 0, none⟩) ps.length ps.length) ∧ datFr qs = datFr ps ∧ szsFr qs = szsFr ps ∧ (∀ b, footFr (.slice (some ⟨g, 0, none⟩) ps.length ps.length) qs b → w.heap.size ≤ b) ∧
      OwnFr w' (.slice (some ⟨g, 0, none⟩) ps.length ps.length) qs ∧ Same w w' := by
  obtain ⟨i0, hi, hz0, hz1, hz2⟩ := info_parts Try.infoFr
  rcases hv.row.row with ⟨rfl, a, c, rfl⟩ | ⟨b, off, c, rfl, hc⟩
  · clear hv hn hs
    go_enter Try.func7, Try.ntmps7
    go_wp2_with (at_make; refine wpList_make_full _ rfl (.tmp 6) (.tmp 6) 30 rfl 0 60 i0 (.agg #[.int .i64 0, .int .i64 0, .int .i64 0, .int .i64 0, .int .i64 0, .int .i64 0, .int .i64 0, .bool false, .slice none 0 0, .bool false, .slice none 0 0, .int .i64 0, .int .i64 0, .slice none 0 0, .slice none 0 0, .slice none 0 0]) 16 Try.underlying30 hi hz0 hz1 .i64 .i64 _ _ 0 rfl rfl (by simp) (by simp) (by simp) (by simp) (Nat.zero_le _) ?_; intro w1 hown1 hgrow1; have HO : Hid (OwnR kFr 0 60 5 w1 (.slice (some ⟨w.heap.size, 0, none⟩) 0 0) []) := ownR_made (K := kFr) (zp := zFr) (z := .agg #[.int .i64 0, .int .i64 0, .int .i64 0, .int .i64 0, .int .i64 0, .int .i64 0, .int .i64 0, .bool false, .slice none 0 0, .bool false, .slice none 0 0, .int .i64 0, .int .i64 0, .slice none 0 0, .slice none 0 0, .slice none 0 0]) (by decide) rfl rfl rfl (n := 0) (by first | exact hown1 | simpa [kFr] using hown1); have HK : Hid (Same w w1) := Kept.of_grown hgrow1 (fun k e => by cases e); clear hown1 hgrow1)
    refine wp_loop_rounds 1 ?_
    rw [rounds_succ]
    go_wp2
    go_ret
    refine ⟨w.heap.size, [], rfl, rfl, rfl, fun b hb => ?_, ⟨HO.out, OwnL.nil _, fun b _ h => FootL_nil b h⟩, HK.out⟩
    rcases hb with hb | hb
    · simp [Value.ownBlock] at hb; omega
    · exact absurd hb (FootL_nil b)
  · have HP := hid hv
    have HC : Hid (∀ j i, (h : j < ps.length) → i < 16 → w.cell? ⟨b, off + (j * 16 + i), none⟩ = (kFr.cells ps[j])[i]?) := hc
    have HS : Hid (∀ p ∈ ps, p.szs ≤ 1073741824) := hs
    clear hc hv hs
    generalize hl : ps.length = len at hn HP ⊢
    have HL : Hid (ps.length = len) := hl
    clear hl
    go_enter Try.func7, Try.ntmps7
    go_wp2_with (at_make; refine wpList_make_full _ rfl (.tmp 6) (.tmp 6) 30 rfl 0 60 i0 (.agg #[.int .i64 0, .int .i64 0, .int .i64 0, .int .i64 0, .int .i64 0, .int .i64 0, .int .i64 0, .bool false, .slice none 0 0, .bool false, .slice none 0 0, .int .i64 0, .int .i64 0, .slice none 0 0, .slice none 0 0, .slice none 0 0]) 16 Try.underlying30 hi hz0 hz1 .i64 .i64 _ _ len rfl rfl (by simp) (by simp) (by rw [hz2]; omega) (by unfold maxLen; omega) (Nat.zero_le _) ?_; intro w1 hown1 hgrow1; have HO : Hid (OwnR kFr 0 60 5 w1 (.slice (some ⟨w.heap.size, 0, none⟩) len len) (List.replicate len zFr)) := ownR_made (K := kFr) (zp := zFr) (z := .agg #[.int .i64 0, .int .i64 0, .int .i64 0, .int .i64 0, .int .i64 0, .int .i64 0, .int .i64 0, .bool false, .slice none 0 0, .bool false, .slice none 0 0, .int .i64 0, .int .i64 0, .slice none 0 0, .slice none 0 0, .slice none 0 0]) (by decide) rfl rfl rfl (by first | exact hown1 | simpa [kFr] using hown1); have HK : Hid (Same w w1) := Kept.of_grown hgrow1 (fun k e => by cases e); clear hown1 hgrow1)
    go_loopw [4] (fun i wr => ∃ (k : Nat) (qs : List StLogFrame), k ≤ len ∧ i = .int .i64 k ∧ qs.length = k ∧ Hid (datFr qs = datFr (ps.take k) ∧ szsFr qs = szsFr (ps.take k)) ∧ Hid (∀ b, FootL (frRows qs) b → w.heap.size < b) ∧ Hid (OwnR kFr 0 60 5 wr (.slice (some ⟨w.heap.size, 0, none⟩) len len) (qs ++ List.replicate (len - k) zFr)) ∧ Hid (OwnL wr (frRows qs)) ∧ Hid (Same w wr)) (fun i _ => len - (intOf i).toNat)
    case atStart => exact ⟨0, [], Nat.zero_le _, rfl, rfl, ⟨rfl, rfl⟩, fun b h => absurd h (FootL_nil b), by simpa using HO, OwnL.nil _, HK⟩
    case round =>
      obtain ⟨k, qs, hk, rfl, hql, HQ, HF, HOr, HRr, HKr⟩ := hrel
      have HQL : Hid (qs.length = k) := hql
      clear hql
      by_cases hlt : k < len
      · have hlp : k < ps.length := by rw [HL.out]; exact hlt
        have HREP : Hid (List.replicate (len - k) zFr = zFr :: List.replicate (len - (k + 1)) zFr) := by unfold Hid; rw [show len - k = len - (k + 1) + 1 from by omega, List.replicate_succ]
        have hd := (HP.out.data _ (List.getElem_mem hlp)).same HKr.out
        have hm1 := HS.out _ (List.getElem_mem hlp)
        have HTK := hid (List.take_succ_eq_append_getElem hlp)
        obtain ⟨P, hP⟩ : ∃ P, ps[k] = P := ⟨_, rfl⟩
        rw [hP] at hd hm1 HTK
        obtain ⟨cs, hcs⟩ : ∃ cs, kFr.cells P = cs := ⟨_, rfl⟩
        have hcl : cs.length = 16 := by rw [← hcs]; exact kFr.len P
        have HRG : Hid (wr.rangeAt b (off + k * 16) cs) := fun j v hv => by
          have hj : j < 16 := by have := (List.getElem?_eq_some_iff.1 hv).1; omega
          have h := HC.out k j hlp hj
          rw [hP, hcs, hv, ← Nat.add_assoc] at h
          exact HKr.out.cellOf h id
        have HI : Hid ((Try.prog.info? 49).map (·.size) = some cs.length) := by unfold Hid; rw [hcl]; kernel_rfl
        have HTO : Hid (Calls Try.prog 19 #[.agg cs.toArray] wr fun e w' => ∃ y : StLogFrame, e = .returned y.val ∧ y.dat = P.dat ∧ y.szs = P.szs ∧ (∀ b, FootL y.rows b → wr.heap.size ≤ b) ∧ OwnL w' y.rows ∧ Same wr w') := by rw [← hcs]; exact toLogFrame_any P wr hm1 hd
        have HLN : Hid (len = (qs ++ zFr :: List.replicate (len - (k + 1)) zFr).length) := by unfold Hid; simp [HQL.out]; omega
        have hz0w := (HOr.out.lt w.heap.size (.inl rfl)).2
        clear hd hm1 hP hcs hcl
        go_wp2_with (first | (refine wpList_load_mid rfl 49 _ rfl b (off + k * 16) rfl cs _ HRG.out Try.underlying49 rfl HI.out ?_))
        refine HTO.out.mono ?_
        rintro e w2 ⟨y, rfl, hyd, hyz, hyf, hyo, hk2⟩
        have HO2 : Hid (OwnR kFr 0 60 5 w2 (.slice (some ⟨w.heap.size, 0, none⟩) len len) (qs ++ zFr :: List.replicate (len - (k + 1)) zFr)) := by have h := HOr.out.same hk2; rw [HREP.out] at h; exact h
        have HK2 : Hid (Same w w2) := HKr.out.trans hk2
        have HYF := (show Hid (∀ b, FootL y.rows b → w.heap.size < b) from fun b hb => by have := hyf b hb; omega)
        have HFIN : Hid (OwnR kFr 0 60 5 (w2.setCells w.heap.size (k * 16) (kFr.cells y)) (.slice (some ⟨w.heap.size, 0, none⟩) len len) (qs ++ y :: List.replicate (len - (k + 1)) zFr)) := HO2.out.setElem (p' := y) HLN.out (k * 16) (by rw [HQL.out]; rfl) (Own.nil _ _ _ _) (fun b hb => by simp [kFr, Value.ownBlock] at hb)
        have HROW : Hid (OwnL (w2.setCells w.heap.size (k * 16) (kFr.cells y)) (frRows (qs ++ [y]))) := by
          unfold Hid
          rw [frRows_append, frRows_cons, show frRows [] = [] from rfl, List.append_nil]
          refine OwnL.kept (R := fun b => b = w.heap.size) ((HRr.out.same hk2).append hyo (fun b h1 h2 => by have h3 := HRr.out.lt b h1; have h4 := hyf b h2; omega)) (Kept.setCells (R := fun b => b = w.heap.size) (.inr rfl) _ _ (Kept.refl _ _)) (fun b hb e => ?_)
          rcases (FootL_append _ _ _).1 hb with h | h
          · have := HF.out b h; omega
          · have := HYF.out b h; omega
        have HKF : Hid (Same w (w2.setCells w.heap.size (k * 16) (kFr.cells y))) := Kept.setCells (.inl (Nat.le_refl _)) _ _ HK2.out
        have HYD := hid hyd
        have HYZ := hid hyz
        obtain ⟨ds, hds⟩ : ∃ ds, kFr.cells y = ds := ⟨_, rfl⟩
        have hdl : ds.length = 16 := by rw [← hds]; exact kFr.len y
        have hyv : y.val = .agg ds.toArray := by rw [← hds]; rfl
        have HONE : Hid (ds.toArray.all (·.oneCell') = true) := all_oneCell_toArray (fun v hv => by
          rw [← hds] at hv
          simp only [kFr, StLogFrame.cells, List.mem_cons, List.not_mem_nil, or_false] at hv
          rcases hv with rfl | rfl | rfl | rfl | rfl | rfl | rfl | rfl | rfl | rfl | rfl | rfl | rfl | rfl | rfl | rfl <;> rfl)
        have HI2 : Hid ((Try.prog.info? 60).map (·.size) = some ds.toArray.size) := by unfold Hid; rw [List.size_toArray, hdl]; kernel_rfl
        have HTH : Hid (w2.there w.heap.size (k * 16) ds.toArray.size) := fun j hj => by
          rw [List.size_toArray, hdl] at hj
          refine ⟨?_, HO2.out.frozen HLN.out _⟩
          rw [HO2.out.cellMid HLN.out j hj _ (by rw [HQL.out]; rfl), List.getElem?_eq_getElem (by rw [kFr.len]; exact hj)]
          rfl
        rw [hyv]
        rw [hds] at HFIN HROW HKF
        clear hyd hyz hyf hyo hk2 HO2 HK2 HOr HRr HKr HTO HRG HI hds hdl hyv
        go_wp2_with (first | (refine wpList_store_mid rfl 60 _ _ rfl w.heap.size (k * 16) ds.toArray rfl rfl HTH.out HI2.out HONE.out ?_; rw [List.toList_toArray]))
        go_roundw
        case rel =>
          refine ⟨k + 1, qs ++ [y], by omega, by go_num, by simp [HQL.out], ?_, ?_, ?_, HROW, HKF⟩
          · obtain ⟨h1, h2⟩ := HQ.out
            have h3 := HTK.out
            have h4 := HYD.out
            have h5 := HYZ.out
            unfold Hid
            rw [h3]
            simp only [datFr, szsFr, List.map_append, List.map_cons, List.map_nil] at h1 h2 ⊢
            rw [h1, h2, h4, h5]
            exact ⟨rfl, rfl⟩
          · unfold Hid
            intro b hb
            rw [frRows_append, frRows_cons, show frRows [] = [] from rfl, List.append_nil] at hb
            rcases (FootL_append _ _ _).1 hb with h | h
            · exact HF.out b h
            · exact HYF.out b h
          · rw [List.append_assoc]
            exact HFIN
        case measure => simp [intOf]; omega
      · go_wp2
        go_ret
        obtain rfl : k = len := by omega
        have h := HOr.out
        have h2 := HL.out
        obtain ⟨h3, h4⟩ := HQ.out
        rw [Nat.sub_self, List.replicate_zero, List.append_nil] at h
        rw [← h2, List.take_length] at h3 h4
        refine ⟨w.heap.size, qs, rfl, h3, h4, fun b hb => ?_, ⟨h, HRr.out, fun b hb hf => ?_⟩, HKr.out⟩
        · rcases hb with hb | hb
          · simp [Value.ownBlock] at hb; omega
          · have := HF.out b hb; omega
        · have h5 := HF.out b hf
          simp [Value.ownBlock] at hb
          omega
end Go.Proofs.Ythbocacnfhpidaa

namespace Go.Proofs.Ythbocacnfhpidaa
set_option maxRecDepth 100000
set_option maxHeartbeats 2000000
open Go.RowKit
set_option linter.unusedVariables false
set_option linter.unusedSimpArgs false
theorem markTxnEntryS_own (x : FR) (k0 : Int) (w : World) (h0 : 0 ≤ k0) (h1 : k0 + (x.bs.length : Int) ≤ 1125899906842624) (ha : OwnL w (x.rows 4)) :
    Calls Try.prog 14 #[x.v, .int .i64 k0] w fun e w' => e = .returned (.int .i64 (k0 + (x.bs.length : Int))) ∧ OwnL w' ((x.marked k0).rows 4) ∧ Kept (FootL (x.rows 4)) w w' := by
  have hl := FR.own_len ha
  have hf := FR.own_form ha
  obtain ⟨xe, xa, xn, xc, bs⟩ := x
  dsimp only [FR.v] at *
  have HA := (show Hid (OwnL w (FR.rows 4 ⟨xe, xa, xn, xc, bs⟩)) from ha)
  clear ha
  rcases hf with ⟨rfl, rfl, rfl⟩ | ⟨g, rfl, hac, hcm, ho⟩
  · obtain rfl : bs = [] := List.length_eq_zero_iff.1 (by omega)
    clear hl
    go_enter Try.func14, Try.ntmps14
    go_wp2
    refine wp_loop_rounds 1 ?_
    rw [rounds_succ]
    go_wp2
    go_ret
    exact ⟨by simp, HA.out, Kept.refl _ _⟩
  · have HL := (show Hid (bs.length = xn * 4) from hl)
    have HO0 := (show Hid (OwnF 4 xe w g xn xc bs) from ho)
    rw [hl] at h1 ⊢
    have hxn : k0 + (xn : Int) * 4 ≤ 1125899906842624 := by simpa using h1
    unfold maxLen at hcm
    clear ho hl HA h1
    go_enter Try.func14, Try.ntmps14
    go_wp2
    go_loopw [1, 5] (fun v i wr => ∃ k : Nat, k ≤ xn ∧ i = .int .i64 k ∧ v = .int .i64 (k0 + (k : Int) * 4) ∧ Hid (OwnF 4 xe wr g xn xc (partI k0 bs (k * 4))) ∧ Hid (Kept (fun b => b = g) w wr)) (fun _ i _ => xn - (intOf i).toNat)
    case atStart => exact ⟨0, Nat.zero_le _, rfl, by simp, by rw [Nat.zero_mul, partI_zero]; exact HO0, Kept.refl _ _⟩
    case round =>
      obtain ⟨k, hk, rfl, rfl, HO, HK⟩ := hrel
      by_cases hlt : k < xn
      · have c0 := HO.out.cell (k * 4) (by omega)
        have f0 := HO.out.frozen (k * 4)
        have c1 := HO.out.cell (k * 4 + 1) (by omega)
        have f1 := HO.out.frozen (k * 4 + 1)
        have c2 := HO.out.cell (k * 4 + 2) (by omega)
        have f2 := HO.out.frozen (k * 4 + 2)
        have c3 := HO.out.cell (k * 4 + 3) (by omega)
        have f3 := HO.out.frozen (k * 4 + 3)
        go_wp2
        go_roundw
        case rel =>
          have hl := HL.out
          have q0 := HO.out
          have q1 := q0.stored (k * 4) (k0 + ((k * 4 : Nat) : Int))
          rw [partI_step _ _ _ (by omega)] at q1
          have q2 := q1.stored (k * 4 + 1) (k0 + ((k * 4 + 1 : Nat) : Int))
          rw [partI_step _ _ _ (by omega)] at q2
          have q3 := q2.stored (k * 4 + 2) (k0 + ((k * 4 + 2 : Nat) : Int))
          rw [partI_step _ _ _ (by omega)] at q3
          have q4 := q3.stored (k * 4 + 3) (k0 + ((k * 4 + 3 : Nat) : Int))
          rw [partI_step _ _ _ (by omega)] at q4
          refine ⟨k + 1, by omega, by go_num, by go_num, ?_, ?_⟩
          · rw [show (k + 1) * 4 = k * 4 + 1 + 1 + 1 + 1 from by omega]; simpa [Hid, Int.add_assoc] using q4
          · exact ((((HK.out.setCell (.inr rfl) _).setCell (.inr rfl) _).setCell (.inr rfl) _).setCell (.inr rfl) _)
        case measure => simp [intOf]; omega
      · go_wp2
        go_ret
        obtain rfl : k = xn := by omega
        have h := HO.out
        rw [← HL.out, partI_all] at h
        refine ⟨ret_int (by push_cast; rfl), ?_, HK.out.mono (fun b _ hb => (FootL_one _ _).2 (by simp [FR.v, Value.ownBlock, hb]))⟩
        exact h.out
end Go.Proofs.Ythbocacnfhpidaa

namespace Go.Proofs.Ythbocacnfhpidaa
set_option maxRecDepth 100000
set_option maxHeartbeats 2000000
open Go.RowKit
set_option linter.unusedVariables false
set_option linter.unusedSimpArgs false
theorem markDirtyEntryS_own (x : FR) (k0 : Int) (w : World) (h0 : 0 ≤ k0) (h1 : k0 + (x.bs.length : Int) ≤ 1125899906842624) (ha : OwnL w (x.rows 2)) :
    Calls Try.prog 34 #[x.v, .int .i64 k0] w fun e w' => e = .returned (.int .i64 (k0 + (x.bs.length : Int))) ∧ OwnL w' ((x.marked k0).rows 2) ∧ Kept (FootL (x.rows 2)) w w' := by
  have hl := FR.own_len ha
  have hf := FR.own_form ha
  obtain ⟨xe, xa, xn, xc, bs⟩ := x
  dsimp only [FR.v] at *
  have HA := (show Hid (OwnL w (FR.rows 2 ⟨xe, xa, xn, xc, bs⟩)) from ha)
  clear ha
  rcases hf with ⟨rfl, rfl, rfl⟩ | ⟨g, rfl, hac, hcm, ho⟩
  · obtain rfl : bs = [] := List.length_eq_zero_iff.1 (by omega)
    clear hl
    go_enter Try.func34, Try.ntmps34
    go_wp2
    refine wp_loop_rounds 1 ?_
    rw [rounds_succ]
    go_wp2
    go_ret
    exact ⟨by simp, HA.out, Kept.refl _ _⟩
  · have HL := (show Hid (bs.length = xn * 2) from hl)
    have HO0 := (show Hid (OwnF 2 xe w g xn xc bs) from ho)
    rw [hl] at h1 ⊢
    have hxn : k0 + (xn : Int) * 2 ≤ 1125899906842624 := by simpa using h1
    unfold maxLen at hcm
    clear ho hl HA h1
    go_enter Try.func34, Try.ntmps34
    go_wp2
    go_loopw [1, 5] (fun v i wr => ∃ k : Nat, k ≤ xn ∧ i = .int .i64 k ∧ v = .int .i64 (k0 + (k : Int) * 2) ∧ Hid (OwnF 2 xe wr g xn xc (partI k0 bs (k * 2))) ∧ Hid (Kept (fun b => b = g) w wr)) (fun _ i _ => xn - (intOf i).toNat)
    case atStart => exact ⟨0, Nat.zero_le _, rfl, by simp, by rw [Nat.zero_mul, partI_zero]; exact HO0, Kept.refl _ _⟩
    case round =>
      obtain ⟨k, hk, rfl, rfl, HO, HK⟩ := hrel
      by_cases hlt : k < xn
      · have c0 := HO.out.cell (k * 2) (by omega)
        have f0 := HO.out.frozen (k * 2)
        have c1 := HO.out.cell (k * 2 + 1) (by omega)
        have f1 := HO.out.frozen (k * 2 + 1)
        go_wp2
        go_roundw
        case rel =>
          have hl := HL.out
          have q0 := HO.out
          have q1 := q0.stored (k * 2) (k0 + ((k * 2 : Nat) : Int))
          rw [partI_step _ _ _ (by omega)] at q1
          have q2 := q1.stored (k * 2 + 1) (k0 + ((k * 2 + 1 : Nat) : Int))
          rw [partI_step _ _ _ (by omega)] at q2
          refine ⟨k + 1, by omega, by go_num, by go_num, ?_, ?_⟩
          · rw [show (k + 1) * 2 = k * 2 + 1 + 1 from by omega]; simpa [Hid, Int.add_assoc] using q2
          · exact ((HK.out.setCell (.inr rfl) _).setCell (.inr rfl) _)
        case measure => simp [intOf]; omega
      · go_wp2
        go_ret
        obtain rfl : k = xn := by omega
        have h := HO.out
        rw [← HL.out, partI_all] at h
        refine ⟨ret_int (by push_cast; rfl), ?_, HK.out.mono (fun b _ hb => (FootL_one _ _).2 (by simp [FR.v, Value.ownBlock, hb]))⟩
        exact h.out
end Go.Proofs.Ythbocacnfhpidaa

namespace Go.Proofs.Ythbocacnfhpidaa
set_option maxRecDepth 100000
set_option maxHeartbeats 8000000
open Go Go.RowKit
set_option linter.unusedVariables false
set_option linter.unusedSimpArgs false
theorem markLogFrameS_own (va : Value) (ps : List StLogFrame) (k0 : Int) (w : World) (h0 : 0 ≤ k0) (h1 : k0 + mzFr ps ≤ 1125899906842624) (hn : ps.length ≤ 1125899906842624) (ha : OwnFr w va ps) :
    Calls Try.prog 13 #[va, .int .i64 k0] w fun e w' => e = .returned (.int .i64 (k0 + mzFr ps)) ∧ True ∧ Kept (footFr va ps) w w' := by
  by_cases hz : ps.length = 0
  · obtain rfl : ps = [] := List.length_eq_zero_iff.1 hz
    obtain ⟨aa, ca, rfl⟩ : ∃ aa ca, va = .slice aa 0 ca := by rcases ha.own.form with ⟨rfl, _⟩ | ⟨g, cap, rfl, _⟩ <;> exact ⟨_, _, rfl⟩
    clear ha hn hz h1
    go_enter Try.func13, Try.ntmps13
    go_wp2
    refine wp_loop_rounds 1 ?_
    rw [rounds_succ]
    go_wp2
    go_ret
    exact ⟨by simp [mzFr], trivial, Kept.refl _ _⟩
  · obtain ⟨g, cap, rfl, hg⟩ : ∃ g cap, va = .slice (some ⟨g, 0, none⟩) ps.length cap ∧ g < w.heap.size := by
      rcases ha.own.form with ⟨_, rfl⟩ | ⟨g, cap, h, _, h2, _⟩
      · simp at hz
      · exact ⟨g, cap, h, h2⟩
    have HG := (show Hid (∀ b, FootL (frRows ps) b → ¬ b = g) from fun b hb e => ha.out b (by rw [e]; rfl) hb)
    have HA0 := hid ha
    have H1 := hid h1
    clear ha h1
    generalize hl : ps.length = len at *
    have HL : Hid (ps.length = len) := hl
    clear hl
    go_enter Try.func13, Try.ntmps13
    go_wp2
    go_loopw [1, 5] (fun v i wr => ∃ (k : Nat) (c : Int) (qs : List StLogFrame), k ≤ len ∧ i = .int .i64 k ∧ v = .int .i64 c ∧ Hid (c = k0 + mzFr (ps.take k)) ∧ Hid (qs.length = k) ∧ Hid (OwnR kFr 0 60 5 wr (.slice (some ⟨g, 0, none⟩) len cap) (qs ++ ps.drop k)) ∧ Hid (OwnL wr (frRows (ps.drop k))) ∧ Hid (Kept (footFr (.slice (some ⟨g, 0, none⟩) len cap) ps) w wr)) (fun _ i _ => len - (intOf i).toNat)
    case atStart => exact ⟨0, k0, [], Nat.zero_le _, rfl, rfl, by simp [Hid, mzFr], rfl, by simpa [Hid] using HA0.out.own, by simpa [Hid] using HA0.out.rows, Kept.refl _ _⟩
    case round =>
      obtain ⟨k, c0, qs, hk, rfl, rfl, HC, HQL, HO, HR, HK0⟩ := hrel
      by_cases hlt : k < len
      · have hlp : k < ps.length := by rw [HL.out]; exact hlt
        have hst := mzFr_step ps k hlp
        have hle := mzFr_take_le ps (k + 1)
        have hge := mzFr_nonneg (ps.take k)
        have hdr := List.drop_eq_getElem_cons hlp
        obtain ⟨P, hP⟩ : ∃ P, ps[k] = P := ⟨_, rfl⟩
        rw [hP] at hst hdr
        have hc0 : 0 ≤ c0 := by have := HC.out; omega
        have hsz : P.size = (P.record.before.data.bs.length : Int) + (P.record.after.data.bs.length : Int) + (P.record.txns.bs.length : Int) + (P.record.dirty.bs.length : Int) + (P.record.image.bs.length : Int) := rfl
        have hc9 : c0 + 11 + P.size ≤ 1125899906842624 := by have := HC.out; have := H1.out; omega
        rw [hsz] at hc9
        have hl0 := hc0
        have hu0 : c0 + 11 + (P.record.before.data.bs.length : Int) + (P.record.after.data.bs.length : Int) + (P.record.txns.bs.length : Int) + (P.record.dirty.bs.length : Int) + (P.record.image.bs.length : Int) ≤ 1125899906842624 := by omega
        have HST := (show Hid (k0 + mzFr (ps.take (k + 1)) = c0 + 11 + ((P.record.before.data.bs.length : Int) + (P.record.after.data.bs.length : Int) + (P.record.txns.bs.length : Int) + (P.record.dirty.bs.length : Int) + (P.record.image.bs.length : Int))) from by have := HC.out; rw [← hsz]; show k0 + mzFr (ps.take (k + 1)) = c0 + 11 + P.size; omega)
        have HU0 := (show Hid (∀ b, FootL (P.record.before.data.rows ++ (P.record.after.data.rows ++ ((P.record.txns.rows 4) ++ ((P.record.dirty.rows 2) ++ (P.record.image.rows ++ (frRows (ps.drop (k + 1)))))))) b → FootL (frRows ps) b) from fun b hb => by
          have hx : FootL (frRows (ps.drop k)) b := by
            rw [hdr, frRows_cons]
            simp only [StLogFrame.rows, StLogRecord.rows, StPageRecord.rows, List.append_assoc]
            exact hb
          obtain ⟨p, hp, hf⟩ := footRows_mem.1 hx
          exact footRows_mem.2 ⟨p, List.mem_of_mem_drop hp, hf⟩)
        have HR0 := (show Hid (OwnL wr (P.record.before.data.rows ++ (P.record.after.data.rows ++ ((P.record.txns.rows 4) ++ ((P.record.dirty.rows 2) ++ (P.record.image.rows ++ (frRows (ps.drop (k + 1))))))))) from by
          have h := HR.out
          rw [hdr, frRows_cons] at h
          simp only [StLogFrame.rows, StLogRecord.rows, StPageRecord.rows, List.append_assoc] at h
          exact h)
        have HO0 := (show Hid (OwnR kFr 0 60 5 wr (.slice (some ⟨g, 0, none⟩) len cap) (qs ++ (⟨P.lsn, P.epoch, ⟨P.record.kind, P.record.txn, P.record.prev, P.record.page, P.record.slot, ⟨P.record.before.used, P.record.before.data⟩, ⟨P.record.after.used, P.record.after.data⟩, P.record.uN, P.record.nT, P.record.txns, P.record.dirty, P.record.image⟩⟩ : StLogFrame) :: ps.drop (k + 1))) from by have h := HO.out; rw [hdr] at h; exact h)
        have HLN : ∀ e : StLogFrame, Hid (len = (qs ++ e :: ps.drop (k + 1)).length) := fun e => by have hl := HL.out; have h2 := HQL.out; simp [Hid]; omega
        clear hst hle hge hdr hP hsz HO hc0 hc9
        have HR := HR0
        have HK := HK0
        clear HR0
        have z : wr.cell? ⟨g, k * 16, none⟩ = some (.int .i64 P.lsn) := HO0.out.cellMid (HLN _).out 0 (by decide) _ (by rw [HQL.out]; rfl)
        have zf := HO0.out.frozen (HLN _).out (k * 16)
        go_upto_region 5 with fail
        have HO1 := (show Hid (OwnR kFr 0 60 5 (wr.setCell ⟨g, k * 16, none⟩ (.int .i64 (c0))) (.slice (some ⟨g, 0, none⟩) len cap) (qs ++ (⟨(c0), P.epoch, ⟨P.record.kind, P.record.txn, P.record.prev, P.record.page, P.record.slot, ⟨P.record.before.used, P.record.before.data⟩, ⟨P.record.after.used, P.record.after.data⟩, P.record.uN, P.record.nT, P.record.txns, P.record.dirty, P.record.image⟩⟩ : StLogFrame) :: ps.drop (k + 1))) from HO0.out.set (p' := (⟨(c0), P.epoch, ⟨P.record.kind, P.record.txn, P.record.prev, P.record.page, P.record.slot, ⟨P.record.before.used, P.record.before.data⟩, ⟨P.record.after.used, P.record.after.data⟩, P.record.uN, P.record.nT, P.record.txns, P.record.dirty, P.record.image⟩⟩ : StLogFrame)) (HLN _).out 0 (.int .i64 (c0)) (by decide) rfl rfl rfl _ (by rw [HQL.out]; rfl))
        have HK := (show Hid (Kept (footFr (.slice (some ⟨g, 0, none⟩) len cap) ps) w (wr.setCell ⟨g, k * 16, none⟩ (.int .i64 (c0)))) from HK.out.setCell (p := ⟨g, k * 16, none⟩) (.inr (.inl rfl)) _)
        have HR := (show Hid (OwnL (wr.setCell ⟨g, k * 16, none⟩ (.int .i64 (c0))) (P.record.before.data.rows ++ (P.record.after.data.rows ++ ((P.record.txns.rows 4) ++ ((P.record.dirty.rows 2) ++ (P.record.image.rows ++ (frRows (ps.drop (k + 1))))))))) from OwnL.kept (R := fun b => b = g) HR.out (Kept.setCell (R := fun b => b = g) (Kept.refl _ _) (p := ⟨g, k * 16, none⟩) (.inr rfl) _) (fun b hb => HG.out b (HU0.out b hb)))
        generalize (wr.setCell ⟨g, k * 16, none⟩ (.int .i64 (c0))) = y0 at HO1 HK HR ⊢
        clear z zf
        have z : y0.cell? ⟨g, k * 16 + 1, none⟩ = some (.int .i64 P.epoch) := HO1.out.cellMid (HLN _).out 1 (by decide) _ (by rw [HQL.out]; rfl)
        have zf := HO1.out.frozen (HLN _).out (k * 16 + 1)
        go_upto_region 7 with fail
        have HO2 := (show Hid (OwnR kFr 0 60 5 (y0.setCell ⟨g, k * 16 + 1, none⟩ (.int .i64 (c0 + 1))) (.slice (some ⟨g, 0, none⟩) len cap) (qs ++ (⟨(c0), (c0 + 1), ⟨P.record.kind, P.record.txn, P.record.prev, P.record.page, P.record.slot, ⟨P.record.before.used, P.record.before.data⟩, ⟨P.record.after.used, P.record.after.data⟩, P.record.uN, P.record.nT, P.record.txns, P.record.dirty, P.record.image⟩⟩ : StLogFrame) :: ps.drop (k + 1))) from HO1.out.set (p' := (⟨(c0), (c0 + 1), ⟨P.record.kind, P.record.txn, P.record.prev, P.record.page, P.record.slot, ⟨P.record.before.used, P.record.before.data⟩, ⟨P.record.after.used, P.record.after.data⟩, P.record.uN, P.record.nT, P.record.txns, P.record.dirty, P.record.image⟩⟩ : StLogFrame)) (HLN _).out 1 (.int .i64 (c0 + 1)) (by decide) rfl rfl rfl _ (by rw [HQL.out]; rfl))
        have HK := (show Hid (Kept (footFr (.slice (some ⟨g, 0, none⟩) len cap) ps) w (y0.setCell ⟨g, k * 16 + 1, none⟩ (.int .i64 (c0 + 1)))) from HK.out.setCell (p := ⟨g, k * 16 + 1, none⟩) (.inr (.inl rfl)) _)
        have HR := (show Hid (OwnL (y0.setCell ⟨g, k * 16 + 1, none⟩ (.int .i64 (c0 + 1))) (P.record.before.data.rows ++ (P.record.after.data.rows ++ ((P.record.txns.rows 4) ++ ((P.record.dirty.rows 2) ++ (P.record.image.rows ++ (frRows (ps.drop (k + 1))))))))) from OwnL.kept (R := fun b => b = g) HR.out (Kept.setCell (R := fun b => b = g) (Kept.refl _ _) (p := ⟨g, k * 16 + 1, none⟩) (.inr rfl) _) (fun b hb => HG.out b (HU0.out b hb)))
        generalize (y0.setCell ⟨g, k * 16 + 1, none⟩ (.int .i64 (c0 + 1))) = y1 at HO2 HK HR ⊢
        clear z zf
        have z : y1.cell? ⟨g, k * 16 + 2, none⟩ = some (.int .i64 P.record.kind) := HO2.out.cellMid (HLN _).out 2 (by decide) _ (by rw [HQL.out]; rfl)
        have zf := HO2.out.frozen (HLN _).out (k * 16 + 2)
        go_upto_region 9 with fail
        have HO3 := (show Hid (OwnR kFr 0 60 5 (y1.setCell ⟨g, k * 16 + 2, none⟩ (.int .i64 (c0 + 1 + 1))) (.slice (some ⟨g, 0, none⟩) len cap) (qs ++ (⟨(c0), (c0 + 1), ⟨(c0 + 1 + 1), P.record.txn, P.record.prev, P.record.page, P.record.slot, ⟨P.record.before.used, P.record.before.data⟩, ⟨P.record.after.used, P.record.after.data⟩, P.record.uN, P.record.nT, P.record.txns, P.record.dirty, P.record.image⟩⟩ : StLogFrame) :: ps.drop (k + 1))) from HO2.out.set (p' := (⟨(c0), (c0 + 1), ⟨(c0 + 1 + 1), P.record.txn, P.record.prev, P.record.page, P.record.slot, ⟨P.record.before.used, P.record.before.data⟩, ⟨P.record.after.used, P.record.after.data⟩, P.record.uN, P.record.nT, P.record.txns, P.record.dirty, P.record.image⟩⟩ : StLogFrame)) (HLN _).out 2 (.int .i64 (c0 + 1 + 1)) (by decide) rfl rfl rfl _ (by rw [HQL.out]; rfl))
        have HK := (show Hid (Kept (footFr (.slice (some ⟨g, 0, none⟩) len cap) ps) w (y1.setCell ⟨g, k * 16 + 2, none⟩ (.int .i64 (c0 + 1 + 1)))) from HK.out.setCell (p := ⟨g, k * 16 + 2, none⟩) (.inr (.inl rfl)) _)
        have HR := (show Hid (OwnL (y1.setCell ⟨g, k * 16 + 2, none⟩ (.int .i64 (c0 + 1 + 1))) (P.record.before.data.rows ++ (P.record.after.data.rows ++ ((P.record.txns.rows 4) ++ ((P.record.dirty.rows 2) ++ (P.record.image.rows ++ (frRows (ps.drop (k + 1))))))))) from OwnL.kept (R := fun b => b = g) HR.out (Kept.setCell (R := fun b => b = g) (Kept.refl _ _) (p := ⟨g, k * 16 + 2, none⟩) (.inr rfl) _) (fun b hb => HG.out b (HU0.out b hb)))
        generalize (y1.setCell ⟨g, k * 16 + 2, none⟩ (.int .i64 (c0 + 1 + 1))) = y2 at HO3 HK HR ⊢
        clear z zf
        have z : y2.cell? ⟨g, k * 16 + 3, none⟩ = some (.int .i64 P.record.txn) := HO3.out.cellMid (HLN _).out 3 (by decide) _ (by rw [HQL.out]; rfl)
        have zf := HO3.out.frozen (HLN _).out (k * 16 + 3)
        go_upto_region 11 with fail
        have HO4 := (show Hid (OwnR kFr 0 60 5 (y2.setCell ⟨g, k * 16 + 3, none⟩ (.int .i64 (c0 + 1 + 1 + 1))) (.slice (some ⟨g, 0, none⟩) len cap) (qs ++ (⟨(c0), (c0 + 1), ⟨(c0 + 1 + 1), (c0 + 1 + 1 + 1), P.record.prev, P.record.page, P.record.slot, ⟨P.record.before.used, P.record.before.data⟩, ⟨P.record.after.used, P.record.after.data⟩, P.record.uN, P.record.nT, P.record.txns, P.record.dirty, P.record.image⟩⟩ : StLogFrame) :: ps.drop (k + 1))) from HO3.out.set (p' := (⟨(c0), (c0 + 1), ⟨(c0 + 1 + 1), (c0 + 1 + 1 + 1), P.record.prev, P.record.page, P.record.slot, ⟨P.record.before.used, P.record.before.data⟩, ⟨P.record.after.used, P.record.after.data⟩, P.record.uN, P.record.nT, P.record.txns, P.record.dirty, P.record.image⟩⟩ : StLogFrame)) (HLN _).out 3 (.int .i64 (c0 + 1 + 1 + 1)) (by decide) rfl rfl rfl _ (by rw [HQL.out]; rfl))
        have HK := (show Hid (Kept (footFr (.slice (some ⟨g, 0, none⟩) len cap) ps) w (y2.setCell ⟨g, k * 16 + 3, none⟩ (.int .i64 (c0 + 1 + 1 + 1)))) from HK.out.setCell (p := ⟨g, k * 16 + 3, none⟩) (.inr (.inl rfl)) _)
        have HR := (show Hid (OwnL (y2.setCell ⟨g, k * 16 + 3, none⟩ (.int .i64 (c0 + 1 + 1 + 1))) (P.record.before.data.rows ++ (P.record.after.data.rows ++ ((P.record.txns.rows 4) ++ ((P.record.dirty.rows 2) ++ (P.record.image.rows ++ (frRows (ps.drop (k + 1))))))))) from OwnL.kept (R := fun b => b = g) HR.out (Kept.setCell (R := fun b => b = g) (Kept.refl _ _) (p := ⟨g, k * 16 + 3, none⟩) (.inr rfl) _) (fun b hb => HG.out b (HU0.out b hb)))
        generalize (y2.setCell ⟨g, k * 16 + 3, none⟩ (.int .i64 (c0 + 1 + 1 + 1))) = y3 at HO4 HK HR ⊢
        clear z zf
        have z : y3.cell? ⟨g, k * 16 + 4, none⟩ = some (.int .i64 P.record.prev) := HO4.out.cellMid (HLN _).out 4 (by decide) _ (by rw [HQL.out]; rfl)
        have zf := HO4.out.frozen (HLN _).out (k * 16 + 4)
        go_upto_region 13 with fail
        have HO5 := (show Hid (OwnR kFr 0 60 5 (y3.setCell ⟨g, k * 16 + 4, none⟩ (.int .i64 (c0 + 1 + 1 + 1 + 1))) (.slice (some ⟨g, 0, none⟩) len cap) (qs ++ (⟨(c0), (c0 + 1), ⟨(c0 + 1 + 1), (c0 + 1 + 1 + 1), (c0 + 1 + 1 + 1 + 1), P.record.page, P.record.slot, ⟨P.record.before.used, P.record.before.data⟩, ⟨P.record.after.used, P.record.after.data⟩, P.record.uN, P.record.nT, P.record.txns, P.record.dirty, P.record.image⟩⟩ : StLogFrame) :: ps.drop (k + 1))) from HO4.out.set (p' := (⟨(c0), (c0 + 1), ⟨(c0 + 1 + 1), (c0 + 1 + 1 + 1), (c0 + 1 + 1 + 1 + 1), P.record.page, P.record.slot, ⟨P.record.before.used, P.record.before.data⟩, ⟨P.record.after.used, P.record.after.data⟩, P.record.uN, P.record.nT, P.record.txns, P.record.dirty, P.record.image⟩⟩ : StLogFrame)) (HLN _).out 4 (.int .i64 (c0 + 1 + 1 + 1 + 1)) (by decide) rfl rfl rfl _ (by rw [HQL.out]; rfl))
        have HK := (show Hid (Kept (footFr (.slice (some ⟨g, 0, none⟩) len cap) ps) w (y3.setCell ⟨g, k * 16 + 4, none⟩ (.int .i64 (c0 + 1 + 1 + 1 + 1)))) from HK.out.setCell (p := ⟨g, k * 16 + 4, none⟩) (.inr (.inl rfl)) _)
        have HR := (show Hid (OwnL (y3.setCell ⟨g, k * 16 + 4, none⟩ (.int .i64 (c0 + 1 + 1 + 1 + 1))) (P.record.before.data.rows ++ (P.record.after.data.rows ++ ((P.record.txns.rows 4) ++ ((P.record.dirty.rows 2) ++ (P.record.image.rows ++ (frRows (ps.drop (k + 1))))))))) from OwnL.kept (R := fun b => b = g) HR.out (Kept.setCell (R := fun b => b = g) (Kept.refl _ _) (p := ⟨g, k * 16 + 4, none⟩) (.inr rfl) _) (fun b hb => HG.out b (HU0.out b hb)))
        generalize (y3.setCell ⟨g, k * 16 + 4, none⟩ (.int .i64 (c0 + 1 + 1 + 1 + 1))) = y4 at HO5 HK HR ⊢
        clear z zf
        have z : y4.cell? ⟨g, k * 16 + 5, none⟩ = some (.int .i64 P.record.page) := HO5.out.cellMid (HLN _).out 5 (by decide) _ (by rw [HQL.out]; rfl)
        have zf := HO5.out.frozen (HLN _).out (k * 16 + 5)
        go_upto_region 15 with fail
        have HO6 := (show Hid (OwnR kFr 0 60 5 (y4.setCell ⟨g, k * 16 + 5, none⟩ (.int .i64 (c0 + 1 + 1 + 1 + 1 + 1))) (.slice (some ⟨g, 0, none⟩) len cap) (qs ++ (⟨(c0), (c0 + 1), ⟨(c0 + 1 + 1), (c0 + 1 + 1 + 1), (c0 + 1 + 1 + 1 + 1), (c0 + 1 + 1 + 1 + 1 + 1), P.record.slot, ⟨P.record.before.used, P.record.before.data⟩, ⟨P.record.after.used, P.record.after.data⟩, P.record.uN, P.record.nT, P.record.txns, P.record.dirty, P.record.image⟩⟩ : StLogFrame) :: ps.drop (k + 1))) from HO5.out.set (p' := (⟨(c0), (c0 + 1), ⟨(c0 + 1 + 1), (c0 + 1 + 1 + 1), (c0 + 1 + 1 + 1 + 1), (c0 + 1 + 1 + 1 + 1 + 1), P.record.slot, ⟨P.record.before.used, P.record.before.data⟩, ⟨P.record.after.used, P.record.after.data⟩, P.record.uN, P.record.nT, P.record.txns, P.record.dirty, P.record.image⟩⟩ : StLogFrame)) (HLN _).out 5 (.int .i64 (c0 + 1 + 1 + 1 + 1 + 1)) (by decide) rfl rfl rfl _ (by rw [HQL.out]; rfl))
        have HK := (show Hid (Kept (footFr (.slice (some ⟨g, 0, none⟩) len cap) ps) w (y4.setCell ⟨g, k * 16 + 5, none⟩ (.int .i64 (c0 + 1 + 1 + 1 + 1 + 1)))) from HK.out.setCell (p := ⟨g, k * 16 + 5, none⟩) (.inr (.inl rfl)) _)
        have HR := (show Hid (OwnL (y4.setCell ⟨g, k * 16 + 5, none⟩ (.int .i64 (c0 + 1 + 1 + 1 + 1 + 1))) (P.record.before.data.rows ++ (P.record.after.data.rows ++ ((P.record.txns.rows 4) ++ ((P.record.dirty.rows 2) ++ (P.record.image.rows ++ (frRows (ps.drop (k + 1))))))))) from OwnL.kept (R := fun b => b = g) HR.out (Kept.setCell (R := fun b => b = g) (Kept.refl _ _) (p := ⟨g, k * 16 + 5, none⟩) (.inr rfl) _) (fun b hb => HG.out b (HU0.out b hb)))
        generalize (y4.setCell ⟨g, k * 16 + 5, none⟩ (.int .i64 (c0 + 1 + 1 + 1 + 1 + 1))) = y5 at HO6 HK HR ⊢
        clear z zf
        have z : y5.cell? ⟨g, k * 16 + 6, none⟩ = some (.int .i64 P.record.slot) := HO6.out.cellMid (HLN _).out 6 (by decide) _ (by rw [HQL.out]; rfl)
        have zf := HO6.out.frozen (HLN _).out (k * 16 + 6)
        go_upto_region 17 with fail
        have HO7 := (show Hid (OwnR kFr 0 60 5 (y5.setCell ⟨g, k * 16 + 6, none⟩ (.int .i64 (c0 + 1 + 1 + 1 + 1 + 1 + 1))) (.slice (some ⟨g, 0, none⟩) len cap) (qs ++ (⟨(c0), (c0 + 1), ⟨(c0 + 1 + 1), (c0 + 1 + 1 + 1), (c0 + 1 + 1 + 1 + 1), (c0 + 1 + 1 + 1 + 1 + 1), (c0 + 1 + 1 + 1 + 1 + 1 + 1), ⟨P.record.before.used, P.record.before.data⟩, ⟨P.record.after.used, P.record.after.data⟩, P.record.uN, P.record.nT, P.record.txns, P.record.dirty, P.record.image⟩⟩ : StLogFrame) :: ps.drop (k + 1))) from HO6.out.set (p' := (⟨(c0), (c0 + 1), ⟨(c0 + 1 + 1), (c0 + 1 + 1 + 1), (c0 + 1 + 1 + 1 + 1), (c0 + 1 + 1 + 1 + 1 + 1), (c0 + 1 + 1 + 1 + 1 + 1 + 1), ⟨P.record.before.used, P.record.before.data⟩, ⟨P.record.after.used, P.record.after.data⟩, P.record.uN, P.record.nT, P.record.txns, P.record.dirty, P.record.image⟩⟩ : StLogFrame)) (HLN _).out 6 (.int .i64 (c0 + 1 + 1 + 1 + 1 + 1 + 1)) (by decide) rfl rfl rfl _ (by rw [HQL.out]; rfl))
        have HK := (show Hid (Kept (footFr (.slice (some ⟨g, 0, none⟩) len cap) ps) w (y5.setCell ⟨g, k * 16 + 6, none⟩ (.int .i64 (c0 + 1 + 1 + 1 + 1 + 1 + 1)))) from HK.out.setCell (p := ⟨g, k * 16 + 6, none⟩) (.inr (.inl rfl)) _)
        have HR := (show Hid (OwnL (y5.setCell ⟨g, k * 16 + 6, none⟩ (.int .i64 (c0 + 1 + 1 + 1 + 1 + 1 + 1))) (P.record.before.data.rows ++ (P.record.after.data.rows ++ ((P.record.txns.rows 4) ++ ((P.record.dirty.rows 2) ++ (P.record.image.rows ++ (frRows (ps.drop (k + 1))))))))) from OwnL.kept (R := fun b => b = g) HR.out (Kept.setCell (R := fun b => b = g) (Kept.refl _ _) (p := ⟨g, k * 16 + 6, none⟩) (.inr rfl) _) (fun b hb => HG.out b (HU0.out b hb)))
        generalize (y5.setCell ⟨g, k * 16 + 6, none⟩ (.int .i64 (c0 + 1 + 1 + 1 + 1 + 1 + 1))) = y6 at HO7 HK HR ⊢
        clear z zf
        have z : y6.cell? ⟨g, k * 16 + 7, none⟩ = some (.bool P.record.before.used) := HO7.out.cellMid (HLN _).out 7 (by decide) _ (by rw [HQL.out]; rfl)
        have zf := HO7.out.frozen (HLN _).out (k * 16 + 7)
        go_upto_region 19 with fail
        have HO8 := (show Hid (OwnR kFr 0 60 5 (y6.setCell ⟨g, k * 16 + 7, none⟩ (.bool ((c0 + 1 + 1 + 1 + 1 + 1 + 1 + 1) % 3 == 0))) (.slice (some ⟨g, 0, none⟩) len cap) (qs ++ (⟨(c0), (c0 + 1), ⟨(c0 + 1 + 1), (c0 + 1 + 1 + 1), (c0 + 1 + 1 + 1 + 1), (c0 + 1 + 1 + 1 + 1 + 1), (c0 + 1 + 1 + 1 + 1 + 1 + 1), ⟨((c0 + 1 + 1 + 1 + 1 + 1 + 1 + 1) % 3 == 0), P.record.before.data⟩, ⟨P.record.after.used, P.record.after.data⟩, P.record.uN, P.record.nT, P.record.txns, P.record.dirty, P.record.image⟩⟩ : StLogFrame) :: ps.drop (k + 1))) from HO7.out.set (p' := (⟨(c0), (c0 + 1), ⟨(c0 + 1 + 1), (c0 + 1 + 1 + 1), (c0 + 1 + 1 + 1 + 1), (c0 + 1 + 1 + 1 + 1 + 1), (c0 + 1 + 1 + 1 + 1 + 1 + 1), ⟨((c0 + 1 + 1 + 1 + 1 + 1 + 1 + 1) % 3 == 0), P.record.before.data⟩, ⟨P.record.after.used, P.record.after.data⟩, P.record.uN, P.record.nT, P.record.txns, P.record.dirty, P.record.image⟩⟩ : StLogFrame)) (HLN _).out 7 (.bool ((c0 + 1 + 1 + 1 + 1 + 1 + 1 + 1) % 3 == 0)) (by decide) rfl rfl rfl _ (by rw [HQL.out]; rfl))
        have HK := (show Hid (Kept (footFr (.slice (some ⟨g, 0, none⟩) len cap) ps) w (y6.setCell ⟨g, k * 16 + 7, none⟩ (.bool ((c0 + 1 + 1 + 1 + 1 + 1 + 1 + 1) % 3 == 0)))) from HK.out.setCell (p := ⟨g, k * 16 + 7, none⟩) (.inr (.inl rfl)) _)
        have HR := (show Hid (OwnL (y6.setCell ⟨g, k * 16 + 7, none⟩ (.bool ((c0 + 1 + 1 + 1 + 1 + 1 + 1 + 1) % 3 == 0))) (P.record.before.data.rows ++ (P.record.after.data.rows ++ ((P.record.txns.rows 4) ++ ((P.record.dirty.rows 2) ++ (P.record.image.rows ++ (frRows (ps.drop (k + 1))))))))) from OwnL.kept (R := fun b => b = g) HR.out (Kept.setCell (R := fun b => b = g) (Kept.refl _ _) (p := ⟨g, k * 16 + 7, none⟩) (.inr rfl) _) (fun b hb => HG.out b (HU0.out b hb)))
        generalize (y6.setCell ⟨g, k * 16 + 7, none⟩ (.bool ((c0 + 1 + 1 + 1 + 1 + 1 + 1 + 1) % 3 == 0))) = y7 at HO8 HK HR ⊢
        clear z zf
        have z : y7.cell? ⟨g, k * 16 + 8, none⟩ = some (P.record.before.data.v) := HO8.out.cellMid (HLN _).out 8 (by decide) _ (by rw [HQL.out]; rfl)
        go_wp2_with fail
        refine (markByteS_own 0 P.record.before.data.v P.record.before.data.bs (c0 + 1 + 1 + 1 + 1 + 1 + 1 + 1 + 1) _ (by omega) (by omega) (by omega) (OwnL.of_one HR.out.left)).mono ?_
        rintro e x1 ⟨rfl, _, hk⟩
        have hk : Kept (FootL P.record.before.data.rows) _ x1 := hk.mono (fun b _ h => (footL_ints _ _ _ _ _).2 h)
        have HO9 := (show Hid (OwnR kFr 0 60 5 x1 (.slice (some ⟨g, 0, none⟩) len cap) (qs ++ (⟨(c0), (c0 + 1), ⟨(c0 + 1 + 1), (c0 + 1 + 1 + 1), (c0 + 1 + 1 + 1 + 1), (c0 + 1 + 1 + 1 + 1 + 1), (c0 + 1 + 1 + 1 + 1 + 1 + 1), ⟨((c0 + 1 + 1 + 1 + 1 + 1 + 1 + 1) % 3 == 0), P.record.before.data⟩, ⟨P.record.after.used, P.record.after.data⟩, P.record.uN, P.record.nT, P.record.txns, P.record.dirty, P.record.image⟩⟩ : StLogFrame) :: ps.drop (k + 1))) from HO8.out.kept hk (fun b hb h => HG.out b (HU0.out b ((FootL_append _ _ _).2 (.inl h))) (by have h2 : g = b := (by simpa [Value.ownBlock] using footFr_head hb); exact h2.symm)))
        have HK := (show Hid (Kept (footFr (.slice (some ⟨g, 0, none⟩) len cap) ps) w x1) from HK.out.next hk (fun b _ h => .inr (HU0.out b ((FootL_append _ _ _).2 (.inl h)))))
        have HR := (show Hid (OwnL x1 (P.record.after.data.rows ++ ((P.record.txns.rows 4) ++ ((P.record.dirty.rows 2) ++ (P.record.image.rows ++ (frRows (ps.drop (k + 1)))))))) from HR.out.right.kept hk (fun b hb h => HR.out.cut b h hb))
        have HU1 := (show Hid (∀ b, FootL (P.record.after.data.rows ++ ((P.record.txns.rows 4) ++ ((P.record.dirty.rows 2) ++ (P.record.image.rows ++ (frRows (ps.drop (k + 1))))))) b → FootL (frRows ps) b) from fun b hb => HU0.out b ((FootL_append _ _ _).2 (.inr hb)))
        obtain ⟨c1, hcc⟩ : ∃ z : Int, c0 + 1 + 1 + 1 + 1 + 1 + 1 + 1 + 1 + (P.record.before.data.bs.length : Int) = z := ⟨_, rfl⟩
        have hl1 : 0 ≤ c1 := by omega
        have hu1 : c1 + 3 + (P.record.after.data.bs.length : Int) + (P.record.txns.bs.length : Int) + (P.record.dirty.bs.length : Int) + (P.record.image.bs.length : Int) ≤ 1125899906842624 := by omega
        have HB1 := hid hcc
        rw [hcc]
        clear hcc hk z hl0 hu0
        have z : x1.cell? ⟨g, k * 16 + 9, none⟩ = some (.bool P.record.after.used) := HO9.out.cellMid (HLN _).out 9 (by decide) _ (by rw [HQL.out]; rfl)
        have zf := HO9.out.frozen (HLN _).out (k * 16 + 9)
        go_upto_region 22 with fail
        have HO10 := (show Hid (OwnR kFr 0 60 5 (x1.setCell ⟨g, k * 16 + 9, none⟩ (.bool (c1 % 3 == 0))) (.slice (some ⟨g, 0, none⟩) len cap) (qs ++ (⟨(c0), (c0 + 1), ⟨(c0 + 1 + 1), (c0 + 1 + 1 + 1), (c0 + 1 + 1 + 1 + 1), (c0 + 1 + 1 + 1 + 1 + 1), (c0 + 1 + 1 + 1 + 1 + 1 + 1), ⟨((c0 + 1 + 1 + 1 + 1 + 1 + 1 + 1) % 3 == 0), P.record.before.data⟩, ⟨(c1 % 3 == 0), P.record.after.data⟩, P.record.uN, P.record.nT, P.record.txns, P.record.dirty, P.record.image⟩⟩ : StLogFrame) :: ps.drop (k + 1))) from HO9.out.set (p' := (⟨(c0), (c0 + 1), ⟨(c0 + 1 + 1), (c0 + 1 + 1 + 1), (c0 + 1 + 1 + 1 + 1), (c0 + 1 + 1 + 1 + 1 + 1), (c0 + 1 + 1 + 1 + 1 + 1 + 1), ⟨((c0 + 1 + 1 + 1 + 1 + 1 + 1 + 1) % 3 == 0), P.record.before.data⟩, ⟨(c1 % 3 == 0), P.record.after.data⟩, P.record.uN, P.record.nT, P.record.txns, P.record.dirty, P.record.image⟩⟩ : StLogFrame)) (HLN _).out 9 (.bool (c1 % 3 == 0)) (by decide) rfl rfl rfl _ (by rw [HQL.out]; rfl))
        have HK := (show Hid (Kept (footFr (.slice (some ⟨g, 0, none⟩) len cap) ps) w (x1.setCell ⟨g, k * 16 + 9, none⟩ (.bool (c1 % 3 == 0)))) from HK.out.setCell (p := ⟨g, k * 16 + 9, none⟩) (.inr (.inl rfl)) _)
        have HR := (show Hid (OwnL (x1.setCell ⟨g, k * 16 + 9, none⟩ (.bool (c1 % 3 == 0))) (P.record.after.data.rows ++ ((P.record.txns.rows 4) ++ ((P.record.dirty.rows 2) ++ (P.record.image.rows ++ (frRows (ps.drop (k + 1)))))))) from OwnL.kept (R := fun b => b = g) HR.out (Kept.setCell (R := fun b => b = g) (Kept.refl _ _) (p := ⟨g, k * 16 + 9, none⟩) (.inr rfl) _) (fun b hb => HG.out b (HU1.out b hb)))
        generalize (x1.setCell ⟨g, k * 16 + 9, none⟩ (.bool (c1 % 3 == 0))) = y9 at HO10 HK HR ⊢
        clear z zf
        have z : y9.cell? ⟨g, k * 16 + 10, none⟩ = some (P.record.after.data.v) := HO10.out.cellMid (HLN _).out 10 (by decide) _ (by rw [HQL.out]; rfl)
        go_wp2_with fail
        refine (markByteS_own 0 P.record.after.data.v P.record.after.data.bs (c1 + 1) _ (by omega) (by omega) (by omega) (OwnL.of_one HR.out.left)).mono ?_
        rintro e x2 ⟨rfl, _, hk⟩
        have hk : Kept (FootL P.record.after.data.rows) _ x2 := hk.mono (fun b _ h => (footL_ints _ _ _ _ _).2 h)
        have HO11 := (show Hid (OwnR kFr 0 60 5 x2 (.slice (some ⟨g, 0, none⟩) len cap) (qs ++ (⟨(c0), (c0 + 1), ⟨(c0 + 1 + 1), (c0 + 1 + 1 + 1), (c0 + 1 + 1 + 1 + 1), (c0 + 1 + 1 + 1 + 1 + 1), (c0 + 1 + 1 + 1 + 1 + 1 + 1), ⟨((c0 + 1 + 1 + 1 + 1 + 1 + 1 + 1) % 3 == 0), P.record.before.data⟩, ⟨(c1 % 3 == 0), P.record.after.data⟩, P.record.uN, P.record.nT, P.record.txns, P.record.dirty, P.record.image⟩⟩ : StLogFrame) :: ps.drop (k + 1))) from HO10.out.kept hk (fun b hb h => HG.out b (HU1.out b ((FootL_append _ _ _).2 (.inl h))) (by have h2 : g = b := (by simpa [Value.ownBlock] using footFr_head hb); exact h2.symm)))
        have HK := (show Hid (Kept (footFr (.slice (some ⟨g, 0, none⟩) len cap) ps) w x2) from HK.out.next hk (fun b _ h => .inr (HU1.out b ((FootL_append _ _ _).2 (.inl h)))))
        have HR := (show Hid (OwnL x2 ((P.record.txns.rows 4) ++ ((P.record.dirty.rows 2) ++ (P.record.image.rows ++ (frRows (ps.drop (k + 1))))))) from HR.out.right.kept hk (fun b hb h => HR.out.cut b h hb))
        have HU2 := (show Hid (∀ b, FootL ((P.record.txns.rows 4) ++ ((P.record.dirty.rows 2) ++ (P.record.image.rows ++ (frRows (ps.drop (k + 1)))))) b → FootL (frRows ps) b) from fun b hb => HU1.out b ((FootL_append _ _ _).2 (.inr hb)))
        obtain ⟨c2, hcc⟩ : ∃ z : Int, c1 + 1 + (P.record.after.data.bs.length : Int) = z := ⟨_, rfl⟩
        have hl2 : 0 ≤ c2 := by omega
        have hu2 : c2 + 2 + (P.record.txns.bs.length : Int) + (P.record.dirty.bs.length : Int) + (P.record.image.bs.length : Int) ≤ 1125899906842624 := by omega
        have HB2 := hid hcc
        rw [hcc]
        clear hcc hk z hl1 hu1
        have z : x2.cell? ⟨g, k * 16 + 11, none⟩ = some (.int .i64 P.record.uN) := HO11.out.cellMid (HLN _).out 11 (by decide) _ (by rw [HQL.out]; rfl)
        have zf := HO11.out.frozen (HLN _).out (k * 16 + 11)
        go_upto_region 25 with fail
        have HO12 := (show Hid (OwnR kFr 0 60 5 (x2.setCell ⟨g, k * 16 + 11, none⟩ (.int .i64 (c2))) (.slice (some ⟨g, 0, none⟩) len cap) (qs ++ (⟨(c0), (c0 + 1), ⟨(c0 + 1 + 1), (c0 + 1 + 1 + 1), (c0 + 1 + 1 + 1 + 1), (c0 + 1 + 1 + 1 + 1 + 1), (c0 + 1 + 1 + 1 + 1 + 1 + 1), ⟨((c0 + 1 + 1 + 1 + 1 + 1 + 1 + 1) % 3 == 0), P.record.before.data⟩, ⟨(c1 % 3 == 0), P.record.after.data⟩, (c2), P.record.nT, P.record.txns, P.record.dirty, P.record.image⟩⟩ : StLogFrame) :: ps.drop (k + 1))) from HO11.out.set (p' := (⟨(c0), (c0 + 1), ⟨(c0 + 1 + 1), (c0 + 1 + 1 + 1), (c0 + 1 + 1 + 1 + 1), (c0 + 1 + 1 + 1 + 1 + 1), (c0 + 1 + 1 + 1 + 1 + 1 + 1), ⟨((c0 + 1 + 1 + 1 + 1 + 1 + 1 + 1) % 3 == 0), P.record.before.data⟩, ⟨(c1 % 3 == 0), P.record.after.data⟩, (c2), P.record.nT, P.record.txns, P.record.dirty, P.record.image⟩⟩ : StLogFrame)) (HLN _).out 11 (.int .i64 (c2)) (by decide) rfl rfl rfl _ (by rw [HQL.out]; rfl))
        have HK := (show Hid (Kept (footFr (.slice (some ⟨g, 0, none⟩) len cap) ps) w (x2.setCell ⟨g, k * 16 + 11, none⟩ (.int .i64 (c2)))) from HK.out.setCell (p := ⟨g, k * 16 + 11, none⟩) (.inr (.inl rfl)) _)
        have HR := (show Hid (OwnL (x2.setCell ⟨g, k * 16 + 11, none⟩ (.int .i64 (c2))) ((P.record.txns.rows 4) ++ ((P.record.dirty.rows 2) ++ (P.record.image.rows ++ (frRows (ps.drop (k + 1))))))) from OwnL.kept (R := fun b => b = g) HR.out (Kept.setCell (R := fun b => b = g) (Kept.refl _ _) (p := ⟨g, k * 16 + 11, none⟩) (.inr rfl) _) (fun b hb => HG.out b (HU2.out b hb)))
        generalize (x2.setCell ⟨g, k * 16 + 11, none⟩ (.int .i64 (c2))) = y11 at HO12 HK HR ⊢
        clear z zf
        have z : y11.cell? ⟨g, k * 16 + 12, none⟩ = some (.int .i64 P.record.nT) := HO12.out.cellMid (HLN _).out 12 (by decide) _ (by rw [HQL.out]; rfl)
        have zf := HO12.out.frozen (HLN _).out (k * 16 + 12)
        go_upto_region 27 with fail
        have HO13 := (show Hid (OwnR kFr 0 60 5 (y11.setCell ⟨g, k * 16 + 12, none⟩ (.int .i64 (c2 + 1))) (.slice (some ⟨g, 0, none⟩) len cap) (qs ++ (⟨(c0), (c0 + 1), ⟨(c0 + 1 + 1), (c0 + 1 + 1 + 1), (c0 + 1 + 1 + 1 + 1), (c0 + 1 + 1 + 1 + 1 + 1), (c0 + 1 + 1 + 1 + 1 + 1 + 1), ⟨((c0 + 1 + 1 + 1 + 1 + 1 + 1 + 1) % 3 == 0), P.record.before.data⟩, ⟨(c1 % 3 == 0), P.record.after.data⟩, (c2), (c2 + 1), P.record.txns, P.record.dirty, P.record.image⟩⟩ : StLogFrame) :: ps.drop (k + 1))) from HO12.out.set (p' := (⟨(c0), (c0 + 1), ⟨(c0 + 1 + 1), (c0 + 1 + 1 + 1), (c0 + 1 + 1 + 1 + 1), (c0 + 1 + 1 + 1 + 1 + 1), (c0 + 1 + 1 + 1 + 1 + 1 + 1), ⟨((c0 + 1 + 1 + 1 + 1 + 1 + 1 + 1) % 3 == 0), P.record.before.data⟩, ⟨(c1 % 3 == 0), P.record.after.data⟩, (c2), (c2 + 1), P.record.txns, P.record.dirty, P.record.image⟩⟩ : StLogFrame)) (HLN _).out 12 (.int .i64 (c2 + 1)) (by decide) rfl rfl rfl _ (by rw [HQL.out]; rfl))
        have HK := (show Hid (Kept (footFr (.slice (some ⟨g, 0, none⟩) len cap) ps) w (y11.setCell ⟨g, k * 16 + 12, none⟩ (.int .i64 (c2 + 1)))) from HK.out.setCell (p := ⟨g, k * 16 + 12, none⟩) (.inr (.inl rfl)) _)
        have HR := (show Hid (OwnL (y11.setCell ⟨g, k * 16 + 12, none⟩ (.int .i64 (c2 + 1))) ((P.record.txns.rows 4) ++ ((P.record.dirty.rows 2) ++ (P.record.image.rows ++ (frRows (ps.drop (k + 1))))))) from OwnL.kept (R := fun b => b = g) HR.out (Kept.setCell (R := fun b => b = g) (Kept.refl _ _) (p := ⟨g, k * 16 + 12, none⟩) (.inr rfl) _) (fun b hb => HG.out b (HU2.out b hb)))
        generalize (y11.setCell ⟨g, k * 16 + 12, none⟩ (.int .i64 (c2 + 1))) = y12 at HO13 HK HR ⊢
        clear z zf
        have z : y12.cell? ⟨g, k * 16 + 13, none⟩ = some (P.record.txns.v) := HO13.out.cellMid (HLN _).out 13 (by decide) _ (by rw [HQL.out]; rfl)
        go_wp2_with fail
        refine (markTxnEntryS_own P.record.txns (c2 + 1 + 1) _ (by omega) (by omega) HR.out.left).mono ?_
        rintro e x3 ⟨rfl, _, hk⟩
        have hk : Kept (FootL (P.record.txns.rows 4)) _ x3 := hk
        have HO14 := (show Hid (OwnR kFr 0 60 5 x3 (.slice (some ⟨g, 0, none⟩) len cap) (qs ++ (⟨(c0), (c0 + 1), ⟨(c0 + 1 + 1), (c0 + 1 + 1 + 1), (c0 + 1 + 1 + 1 + 1), (c0 + 1 + 1 + 1 + 1 + 1), (c0 + 1 + 1 + 1 + 1 + 1 + 1), ⟨((c0 + 1 + 1 + 1 + 1 + 1 + 1 + 1) % 3 == 0), P.record.before.data⟩, ⟨(c1 % 3 == 0), P.record.after.data⟩, (c2), (c2 + 1), P.record.txns, P.record.dirty, P.record.image⟩⟩ : StLogFrame) :: ps.drop (k + 1))) from HO13.out.kept hk (fun b hb h => HG.out b (HU2.out b ((FootL_append _ _ _).2 (.inl h))) (by have h2 : g = b := (by simpa [Value.ownBlock] using footFr_head hb); exact h2.symm)))
        have HK := (show Hid (Kept (footFr (.slice (some ⟨g, 0, none⟩) len cap) ps) w x3) from HK.out.next hk (fun b _ h => .inr (HU2.out b ((FootL_append _ _ _).2 (.inl h)))))
        have HR := (show Hid (OwnL x3 ((P.record.dirty.rows 2) ++ (P.record.image.rows ++ (frRows (ps.drop (k + 1)))))) from HR.out.right.kept hk (fun b hb h => HR.out.cut b h hb))
        have HU3 := (show Hid (∀ b, FootL ((P.record.dirty.rows 2) ++ (P.record.image.rows ++ (frRows (ps.drop (k + 1))))) b → FootL (frRows ps) b) from fun b hb => HU2.out b ((FootL_append _ _ _).2 (.inr hb)))
        obtain ⟨c3, hcc⟩ : ∃ z : Int, c2 + 1 + 1 + (P.record.txns.bs.length : Int) = z := ⟨_, rfl⟩
        have hl3 : 0 ≤ c3 := by omega
        have hu3 : c3 + 0 + (P.record.dirty.bs.length : Int) + (P.record.image.bs.length : Int) ≤ 1125899906842624 := by omega
        have HB3 := hid hcc
        rw [hcc]
        clear hcc hk z hl2 hu2
        have z : x3.cell? ⟨g, k * 16 + 14, none⟩ = some (P.record.dirty.v) := HO14.out.cellMid (HLN _).out 14 (by decide) _ (by rw [HQL.out]; rfl)
        go_wp2_with fail
        refine (markDirtyEntryS_own P.record.dirty (c3) _ (by omega) (by omega) HR.out.left).mono ?_
        rintro e x4 ⟨rfl, _, hk⟩
        have hk : Kept (FootL (P.record.dirty.rows 2)) _ x4 := hk
        have HO15 := (show Hid (OwnR kFr 0 60 5 x4 (.slice (some ⟨g, 0, none⟩) len cap) (qs ++ (⟨(c0), (c0 + 1), ⟨(c0 + 1 + 1), (c0 + 1 + 1 + 1), (c0 + 1 + 1 + 1 + 1), (c0 + 1 + 1 + 1 + 1 + 1), (c0 + 1 + 1 + 1 + 1 + 1 + 1), ⟨((c0 + 1 + 1 + 1 + 1 + 1 + 1 + 1) % 3 == 0), P.record.before.data⟩, ⟨(c1 % 3 == 0), P.record.after.data⟩, (c2), (c2 + 1), P.record.txns, P.record.dirty, P.record.image⟩⟩ : StLogFrame) :: ps.drop (k + 1))) from HO14.out.kept hk (fun b hb h => HG.out b (HU3.out b ((FootL_append _ _ _).2 (.inl h))) (by have h2 : g = b := (by simpa [Value.ownBlock] using footFr_head hb); exact h2.symm)))
        have HK := (show Hid (Kept (footFr (.slice (some ⟨g, 0, none⟩) len cap) ps) w x4) from HK.out.next hk (fun b _ h => .inr (HU3.out b ((FootL_append _ _ _).2 (.inl h)))))
        have HR := (show Hid (OwnL x4 (P.record.image.rows ++ (frRows (ps.drop (k + 1))))) from HR.out.right.kept hk (fun b hb h => HR.out.cut b h hb))
        have HU4 := (show Hid (∀ b, FootL (P.record.image.rows ++ (frRows (ps.drop (k + 1)))) b → FootL (frRows ps) b) from fun b hb => HU3.out b ((FootL_append _ _ _).2 (.inr hb)))
        obtain ⟨c4, hcc⟩ : ∃ z : Int, c3 + (P.record.dirty.bs.length : Int) = z := ⟨_, rfl⟩
        have hl4 : 0 ≤ c4 := by omega
        have hu4 : c4 + 0 + (P.record.image.bs.length : Int) ≤ 1125899906842624 := by omega
        have HB4 := hid hcc
        rw [hcc]
        clear hcc hk z hl3 hu3
        have z : x4.cell? ⟨g, k * 16 + 15, none⟩ = some (P.record.image.v) := HO15.out.cellMid (HLN _).out 15 (by decide) _ (by rw [HQL.out]; rfl)
        go_wp2_with fail
        refine (markByteS_own 0 P.record.image.v P.record.image.bs (c4) _ (by omega) (by omega) (by omega) (OwnL.of_one HR.out.left)).mono ?_
        rintro e x5 ⟨rfl, _, hk⟩
        have hk : Kept (FootL P.record.image.rows) _ x5 := hk.mono (fun b _ h => (footL_ints _ _ _ _ _).2 h)
        have HO16 := (show Hid (OwnR kFr 0 60 5 x5 (.slice (some ⟨g, 0, none⟩) len cap) (qs ++ (⟨(c0), (c0 + 1), ⟨(c0 + 1 + 1), (c0 + 1 + 1 + 1), (c0 + 1 + 1 + 1 + 1), (c0 + 1 + 1 + 1 + 1 + 1), (c0 + 1 + 1 + 1 + 1 + 1 + 1), ⟨((c0 + 1 + 1 + 1 + 1 + 1 + 1 + 1) % 3 == 0), P.record.before.data⟩, ⟨(c1 % 3 == 0), P.record.after.data⟩, (c2), (c2 + 1), P.record.txns, P.record.dirty, P.record.image⟩⟩ : StLogFrame) :: ps.drop (k + 1))) from HO15.out.kept hk (fun b hb h => HG.out b (HU4.out b ((FootL_append _ _ _).2 (.inl h))) (by have h2 : g = b := (by simpa [Value.ownBlock] using footFr_head hb); exact h2.symm)))
        have HK := (show Hid (Kept (footFr (.slice (some ⟨g, 0, none⟩) len cap) ps) w x5) from HK.out.next hk (fun b _ h => .inr (HU4.out b ((FootL_append _ _ _).2 (.inl h)))))
        have HR := (show Hid (OwnL x5 (frRows (ps.drop (k + 1)))) from HR.out.right.kept hk (fun b hb h => HR.out.cut b h hb))
        have HU5 := (show Hid (∀ b, FootL (frRows (ps.drop (k + 1))) b → FootL (frRows ps) b) from fun b hb => HU4.out b ((FootL_append _ _ _).2 (.inr hb)))
        obtain ⟨c5, hcc⟩ : ∃ z : Int, c4 + (P.record.image.bs.length : Int) = z := ⟨_, rfl⟩
        have hl5 : 0 ≤ c5 := by omega
        have hu5 : c5 + 0 ≤ 1125899906842624 := by omega
        have HB5 := hid hcc
        rw [hcc]
        clear hcc hk z hl4 hu4
        go_wp2
        go_roundw
        case rel =>
          refine ⟨k + 1, c5, qs ++ [(⟨(c0), (c0 + 1), ⟨(c0 + 1 + 1), (c0 + 1 + 1 + 1), (c0 + 1 + 1 + 1 + 1), (c0 + 1 + 1 + 1 + 1 + 1), (c0 + 1 + 1 + 1 + 1 + 1 + 1), ⟨((c0 + 1 + 1 + 1 + 1 + 1 + 1 + 1) % 3 == 0), P.record.before.data⟩, ⟨(c1 % 3 == 0), P.record.after.data⟩, (c2), (c2 + 1), P.record.txns, P.record.dirty, P.record.image⟩⟩ : StLogFrame)], by omega, by go_num, rfl, by have e1 := HB1.out; have e2 := HB2.out; have e3 := HB3.out; have e4 := HB4.out; have e5 := HB5.out; unfold Hid; rw [HST.out]; omega, by have := HQL.out; simp [Hid]; exact this, by rw [List.append_assoc]; exact HO16, HR, HK⟩
        case measure => simp [intOf]; omega
      · go_wp2
        go_ret
        obtain rfl : k = len := by omega
        have h2 := HL.out
        have h3 := HC.out
        rw [← h2, List.take_length] at h3
        subst h3
        exact ⟨by first | rfl | trivial, trivial, HK0.out⟩
end Go.Proofs.Ythbocacnfhpidaa

namespace Go.Proofs.Ythbocacnfhpidaa
open Go Go.RowKit
set_option linter.unusedVariables false
structure FrOK (qs : List StLogFrame) : Prop where
  len : qs.length ≤ 1048576
  each : ∀ p ∈ qs, p.szs ≤ 1048576
  sum : sizeFr qs ≤ 1048576
  isB : ∀ p ∈ qs, p.isB
theorem isB_fr {x y : StLogFrame} (h : y.dat = x.dat) (hx : x.isB) : y.isB := by
  simp only [StLogFrame.dat, StLogRecord.dat, StPageRecord.dat, Prod.mk.injEq] at h
  obtain ⟨_, _, _, _, _, _, _, ⟨_, h1⟩, ⟨_, h2⟩, _, _, _, _, h3⟩ := h
  unfold StLogFrame.isB at *
  rw [h1, h2, h3]
  exact hx
theorem FrOK.of {qs ps : List StLogFrame} (h : datFr qs = datFr ps) (hz : szsFr qs = szsFr ps) (hB : ∀ p ∈ ps, p.isB) (hl : ps.length ≤ 1048576) (hs : sizeFr ps ≤ 1048576) : FrOK qs := by
  have hlen : qs.length = ps.length := by rw [← datFr_length, ← datFr_length, h]
  have hsum := sizeFr_szs hz
  refine ⟨by omega, fun p hp => by have := sizeFr_mem qs p hp; omega, by omega, fun p hp => ?_⟩
  obtain ⟨k, hk, rfl⟩ := List.mem_iff_getElem.1 hp
  exact isB_fr (datFr_at h k hk (by omega)) (hB _ (List.getElem_mem (by omega)))
end Go.Proofs.Ythbocacnfhpidaa
