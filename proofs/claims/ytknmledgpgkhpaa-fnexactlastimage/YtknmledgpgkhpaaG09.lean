import Derived.Test.YtknmledgpgkhpaaG04
import Derived.Test.YtknmledgpgkhpaaG01
import Derived.Deep.DeepCutAuto
import Derived.Deep.MidRow
namespace Go.Proofs.Ytknmledgpgkhpaa
set_option maxRecDepth 100000
set_option maxHeartbeats 8000000
open Go Go.RowKit
set_option linter.unusedVariables false
set_option linter.unusedSimpArgs false
theorem szLogFrameS_any (v : Value) (ps : List StLogFrame) (left : Int) (w : World) (h0 : 0 ≤ left) (h1 : left ≤ 1048576) (hp : RdFr w v ps) :
    Calls Try.prog 14 #[v, .int .i64 left] w fun e w' => ∃ r : Int, e = .returned (.int .i64 r) ∧ (r = -1 ∨ (r = left - ps.length - sizeFr ps ∧ 0 ≤ r)) ∧ Same w w' := by
  have hn := hp.row.max
  unfold maxLen at hn
  rcases hp.row.row with ⟨rfl, a, c, rfl⟩ | ⟨b, off, c, rfl, hc⟩
  · clear hp hn
    go_enter Try.func14, Try.ntmps14
    go_wp2
    refine wp_loop_rounds 1 ?_
    rw [rounds_succ]
    go_wp2
    go_ret
    exact ⟨_, rfl, .inr ⟨by simp [sizeFr], by omega⟩, Kept.refl _ _⟩
  · have HP := hid hp
    have HC : Hid (∀ j i, (h : j < ps.length) → i < 16 → w.cell? ⟨b, off + (j * 16 + i), none⟩ = (kFr.cells ps[j])[i]?) := hc
    clear hp hc
    generalize hl : ps.length = len at hn HP ⊢
    have HL : Hid (ps.length = len) := hl
    clear hl
    by_cases h : left < len
    · go_enter Try.func14, Try.ntmps14
      go_wp2
      go_ret
      exact ⟨_, rfl, .inl rfl, Kept.refl _ _⟩
    · go_enter Try.func14, Try.ntmps14
      go_wp2
      go_loopw [1, 5] (fun u i wr => ∃ (k : Nat) (r : Int), k ≤ len ∧ i = .int .i64 k ∧ u = .int .i64 r ∧ 0 ≤ r ∧ r ≤ left ∧ Hid (r = left - len - sizeFr (ps.take k)) ∧ Hid (Same w wr)) (fun _ i _ => len - (intOf i).toNat)
      case atStart => exact ⟨0, left - len, Nat.zero_le _, rfl, rfl, by omega, by omega, by simp [sizeFr, Hid], Kept.refl _ _⟩
      case round =>
        obtain ⟨k, r, hk, rfl, rfl, hr0, hr1, HR, HK⟩ := hrel
        by_cases hlt : k < len
        · have hlp : k < ps.length := by rw [HL.out]; exact hlt
          have HST := hid (sizeFr_step ps k hlp)
          have hrd := (HP.out.data _ (List.getElem_mem hlp)).same HK.out
          obtain ⟨P, hP⟩ : ∃ P, ps[k] = P := ⟨_, rfl⟩
          rw [hP] at HST hrd
          have q0 : wr.cell? ⟨b, off + k * 16, none⟩ = some (.int .i64 P.lsn) := HK.out.cellOf (p := ⟨b, off + k * 16, none⟩) (by have h := HC.out k 0 hlp (by decide); rw [hP] at h; exact h) id
          have q1 : wr.cell? ⟨b, off + k * 16 + 1, none⟩ = some (.int .i64 P.epoch) := HK.out.cellOf (p := ⟨b, off + k * 16 + 1, none⟩) (by have h := HC.out k 1 hlp (by decide); rw [hP, ← Nat.add_assoc] at h; exact h) id
          have q2 : wr.cell? ⟨b, off + k * 16 + 2, none⟩ = some (.int .i64 P.record.kind) := HK.out.cellOf (p := ⟨b, off + k * 16 + 2, none⟩) (by have h := HC.out k 2 hlp (by decide); rw [hP, ← Nat.add_assoc] at h; exact h) id
          have q3 : wr.cell? ⟨b, off + k * 16 + 3, none⟩ = some (.int .i64 P.record.txn) := HK.out.cellOf (p := ⟨b, off + k * 16 + 3, none⟩) (by have h := HC.out k 3 hlp (by decide); rw [hP, ← Nat.add_assoc] at h; exact h) id
          have q4 : wr.cell? ⟨b, off + k * 16 + 4, none⟩ = some (.int .i64 P.record.prev) := HK.out.cellOf (p := ⟨b, off + k * 16 + 4, none⟩) (by have h := HC.out k 4 hlp (by decide); rw [hP, ← Nat.add_assoc] at h; exact h) id
          have q5 : wr.cell? ⟨b, off + k * 16 + 5, none⟩ = some (.int .i64 P.record.page) := HK.out.cellOf (p := ⟨b, off + k * 16 + 5, none⟩) (by have h := HC.out k 5 hlp (by decide); rw [hP, ← Nat.add_assoc] at h; exact h) id
          have q6 : wr.cell? ⟨b, off + k * 16 + 6, none⟩ = some (.int .i64 P.record.slot) := HK.out.cellOf (p := ⟨b, off + k * 16 + 6, none⟩) (by have h := HC.out k 6 hlp (by decide); rw [hP, ← Nat.add_assoc] at h; exact h) id
          have q7 : wr.cell? ⟨b, off + k * 16 + 7, none⟩ = some (.bool P.record.before.used) := HK.out.cellOf (p := ⟨b, off + k * 16 + 7, none⟩) (by have h := HC.out k 7 hlp (by decide); rw [hP, ← Nat.add_assoc] at h; exact h) id
          have q8 : wr.cell? ⟨b, off + k * 16 + 8, none⟩ = some (P.record.before.data.v) := HK.out.cellOf (p := ⟨b, off + k * 16 + 8, none⟩) (by have h := HC.out k 8 hlp (by decide); rw [hP, ← Nat.add_assoc] at h; exact h) id
          have q9 : wr.cell? ⟨b, off + k * 16 + 9, none⟩ = some (.bool P.record.after.used) := HK.out.cellOf (p := ⟨b, off + k * 16 + 9, none⟩) (by have h := HC.out k 9 hlp (by decide); rw [hP, ← Nat.add_assoc] at h; exact h) id
          have q10 : wr.cell? ⟨b, off + k * 16 + 10, none⟩ = some (P.record.after.data.v) := HK.out.cellOf (p := ⟨b, off + k * 16 + 10, none⟩) (by have h := HC.out k 10 hlp (by decide); rw [hP, ← Nat.add_assoc] at h; exact h) id
          have q11 : wr.cell? ⟨b, off + k * 16 + 11, none⟩ = some (.int .i64 P.record.uN) := HK.out.cellOf (p := ⟨b, off + k * 16 + 11, none⟩) (by have h := HC.out k 11 hlp (by decide); rw [hP, ← Nat.add_assoc] at h; exact h) id
          have q12 : wr.cell? ⟨b, off + k * 16 + 12, none⟩ = some (.int .i64 P.record.nT) := HK.out.cellOf (p := ⟨b, off + k * 16 + 12, none⟩) (by have h := HC.out k 12 hlp (by decide); rw [hP, ← Nat.add_assoc] at h; exact h) id
          have q13 : wr.cell? ⟨b, off + k * 16 + 13, none⟩ = some (P.record.txns.v) := HK.out.cellOf (p := ⟨b, off + k * 16 + 13, none⟩) (by have h := HC.out k 13 hlp (by decide); rw [hP, ← Nat.add_assoc] at h; exact h) id
          have q14 : wr.cell? ⟨b, off + k * 16 + 14, none⟩ = some (P.record.dirty.v) := HK.out.cellOf (p := ⟨b, off + k * 16 + 14, none⟩) (by have h := HC.out k 14 hlp (by decide); rw [hP, ← Nat.add_assoc] at h; exact h) id
          have q15 : wr.cell? ⟨b, off + k * 16 + 15, none⟩ = some (P.record.image.v) := HK.out.cellOf (p := ⟨b, off + k * 16 + 15, none⟩) (by have h := HC.out k 15 hlp (by decide); rw [hP, ← Nat.add_assoc] at h; exact h) id
          have HRD := hid hrd
          clear hrd hP
          go_wp2_with fail
          refine (szLogFrame_any P r _ hr0 (by omega) HRD.out).mono ?_
          rintro e w1 ⟨r1, rfl, hr2, hk1⟩
          have HK1 : Hid (Same w w1) := HK.out.trans hk1
          clear q0 q1 q2 q3 q4 q5 q6 q7 q8 q9 q10 q11 q12 q13 q14 q15 hk1
          rcases hr2 with rfl | ⟨hr2, hr3⟩
          · go_wp2
            go_ret
            exact ⟨_, rfl, .inl rfl, HK1.out⟩
          · have hr4 : r1 ≤ left := by have := P.szs_le; omega
            have HR1 : Hid (r1 = r - P.szs) := hr2
            clear hr2
            go_wp2
            go_roundw
            case rel => exact ⟨k + 1, r1, by omega, by go_num, rfl, hr3, hr4, by have h1 := HR1.out; have h2 := HR.out; have h3 := HST.out; unfold Hid; omega, HK1⟩
            case measure => simp [intOf]; omega
        · go_wp2
          go_ret
          obtain rfl : k = len := by omega
          have h1 := HR.out
          have h2 := HL.out
          rw [← h2, List.take_length] at h1
          exact ⟨r, rfl, .inr ⟨by omega, hr0⟩, HK.out⟩
end Go.Proofs.Ytknmledgpgkhpaa

namespace Go.Proofs.Ytknmledgpgkhpaa
set_option maxRecDepth 100000
set_option maxHeartbeats 8000000
open Go Go.RowKit
set_option linter.unusedVariables false
set_option linter.unusedSimpArgs false
theorem Try.infoFr : (Try.prog.info? 74).map (fun i => (i.zero, i.size, i.bytes)) = some (some (.agg #[.int .i64 0, .int .i64 0, .int .i64 0, .int .i64 0, .int .i64 0, .int .i64 0, .int .i64 0, .bool false, .slice none 0 0, .bool false, .slice none 0 0, .int .i64 0, .int .i64 0, .slice none 0 0, .slice none 0 0, .slice none 0 0]), 16, 208) := by kernel_rfl
theorem toLogFrameS_any (v : Value) (ps : List StLogFrame) (w : World) (hn : ps.length ≤ 1048576) (hs : ∀ p ∈ ps, p.szs ≤ 1073741824) (hv : RdFr w v ps) :
    Calls Try.prog 16 #[v] w fun e w' => ∃ g qs, e = .returned (.slice (some ⟨g, 0, none⟩) ps.length ps.length) ∧ datFr qs = datFr ps ∧ szsFr qs = szsFr ps ∧ (∀ b, footFr (.slice (some ⟨g, 0, none⟩) ps.length ps.length) qs b → w.heap.size ≤ b) ∧
      OwnFr w' (.slice (some ⟨g, 0, none⟩) ps.length ps.length) qs ∧ Same w w' := by
  obtain ⟨i0, hi, hz0, hz1, hz2⟩ := info_parts Try.infoFr
  rcases hv.row.row with ⟨rfl, a, c, rfl⟩ | ⟨b, off, c, rfl, hc⟩
  · clear hv hn hs
    go_enter Try.func16, Try.ntmps16
    go_wp2_with (at_make; refine wpList_make_full _ rfl (.tmp 6) (.tmp 6) 23 rfl 0 74 i0 (.agg #[.int .i64 0, .int .i64 0, .int .i64 0, .int .i64 0, .int .i64 0, .int .i64 0, .int .i64 0, .bool false, .slice none 0 0, .bool false, .slice none 0 0, .int .i64 0, .int .i64 0, .slice none 0 0, .slice none 0 0, .slice none 0 0]) 16 Try.underlying23 hi hz0 hz1 .i64 .i64 _ _ 0 rfl rfl (by simp) (by simp) (by simp) (by simp) (Nat.zero_le _) ?_; intro w1 hown1 hgrow1; have HO : Hid (OwnR kFr 0 74 5 w1 (.slice (some ⟨w.heap.size, 0, none⟩) 0 0) []) := ownR_made (K := kFr) (zp := zFr) (z := .agg #[.int .i64 0, .int .i64 0, .int .i64 0, .int .i64 0, .int .i64 0, .int .i64 0, .int .i64 0, .bool false, .slice none 0 0, .bool false, .slice none 0 0, .int .i64 0, .int .i64 0, .slice none 0 0, .slice none 0 0, .slice none 0 0]) (by decide) rfl rfl rfl (n := 0) (by first | exact hown1 | simpa [kFr] using hown1); have HK : Hid (Same w w1) := Kept.of_grown hgrow1 (fun k e => by cases e); clear hown1 hgrow1)
    refine wp_loop_rounds 1 ?_
    rw [rounds_succ]
    go_wp2
    go_ret
    refine ⟨w.heap.size, [], rfl, rfl, rfl, fun b hb => ?_, ⟨HO.out, OwnL.nil _, fun b _ h => FootL_nil b h⟩, HK.out⟩
    rcases hb with hb | hb
    · simp [Value.ownBlock] at hb; omega
    · exact absurd hb (FootL_nil b)
  · have HP := hid hv
    have HC : Hid (∀ j i, (h : j < ps.length) → i < 16 → w.cell? ⟨b, off + (j * 16 + i), none⟩ = (kFr.cells ps[j])[i]?) := hc
    have HS : Hid (∀ p ∈ ps, p.szs ≤ 1073741824) := hs
    clear hc hv hs
    generalize hl : ps.length = len at hn HP ⊢
    have HL : Hid (ps.length = len) := hl
    clear hl
    go_enter Try.func16, Try.ntmps16
    go_wp2_with (at_make; refine wpList_make_full _ rfl (.tmp 6) (.tmp 6) 23 rfl 0 74 i0 (.agg #[.int .i64 0, .int .i64 0, .int .i64 0, .int .i64 0, .int .i64 0, .int .i64 0, .int .i64 0, .bool false, .slice none 0 0, .bool false, .slice none 0 0, .int .i64 0, .int .i64 0, .slice none 0 0, .slice none 0 0, .slice none 0 0]) 16 Try.underlying23 hi hz0 hz1 .i64 .i64 _ _ len rfl rfl (by simp) (by simp) (by rw [hz2]; omega) (by unfold maxLen; omega) (Nat.zero_le _) ?_; intro w1 hown1 hgrow1; have HO : Hid (OwnR kFr 0 74 5 w1 (.slice (some ⟨w.heap.size, 0, none⟩) len len) (List.replicate len zFr)) := ownR_made (K := kFr) (zp := zFr) (z := .agg #[.int .i64 0, .int .i64 0, .int .i64 0, .int .i64 0, .int .i64 0, .int .i64 0, .int .i64 0, .bool false, .slice none 0 0, .bool false, .slice none 0 0, .int .i64 0, .int .i64 0, .slice none 0 0, .slice none 0 0, .slice none 0 0]) (by decide) rfl rfl rfl (by first | exact hown1 | simpa [kFr] using hown1); have HK : Hid (Same w w1) := Kept.of_grown hgrow1 (fun k e => by cases e); clear hown1 hgrow1)
    go_loopw [4] (fun i wr => ∃ (k : Nat) (qs : List StLogFrame), k ≤ len ∧ i = .int .i64 k ∧ qs.length = k ∧ Hid (datFr qs = datFr (ps.take k) ∧ szsFr qs = szsFr (ps.take k)) ∧ Hid (∀ b, FootL (frRows qs) b → w.heap.size < b) ∧ Hid (OwnR kFr 0 74 5 wr (.slice (some ⟨w.heap.size, 0, none⟩) len len) (qs ++ List.replicate (len - k) zFr)) ∧ Hid (OwnL wr (frRows qs)) ∧ Hid (Same w wr)) (fun i _ => len - (intOf i).toNat)
    case atStart => exact ⟨0, [], Nat.zero_le _, rfl, rfl, ⟨rfl, rfl⟩, fun b h => absurd h (FootL_nil b), by simpa using HO, OwnL.nil _, HK⟩
    case round =>
      obtain ⟨k, qs, hk, rfl, hql, HQ, HF, HOr, HRr, HKr⟩ := hrel
      have HQL : Hid (qs.length = k) := hql
      clear hql
      by_cases hlt : k < len
      · have hlp : k < ps.length := by rw [HL.out]; exact hlt
        have HREP : Hid (List.replicate (len - k) zFr = zFr :: List.replicate (len - (k + 1)) zFr) := by unfold Hid; rw [show len - k = len - (k + 1) + 1 from by omega, List.replicate_succ]
        have hd := (HP.out.data _ (List.getElem_mem hlp)).same HKr.out
        have hm1 := HS.out _ (List.getElem_mem hlp)
        have HTK := hid (List.take_succ_eq_append_getElem hlp)
        obtain ⟨P, hP⟩ : ∃ P, ps[k] = P := ⟨_, rfl⟩
        rw [hP] at hd hm1 HTK
        obtain ⟨cs, hcs⟩ : ∃ cs, kFr.cells P = cs := ⟨_, rfl⟩
        have hcl : cs.length = 16 := by rw [← hcs]; exact kFr.len P
        have HRG : Hid (wr.rangeAt b (off + k * 16) cs) := fun j v hv => by
          have hj : j < 16 := by have := (List.getElem?_eq_some_iff.1 hv).1; omega
          have h := HC.out k j hlp hj
          rw [hP, hcs, hv, ← Nat.add_assoc] at h
          exact HKr.out.cellOf h id
        have HI : Hid ((Try.prog.info? 100).map (·.size) = some cs.length) := by unfold Hid; rw [hcl]; kernel_rfl
        have HTO : Hid (Calls Try.prog 55 #[.agg cs.toArray] wr fun e w' => ∃ y : StLogFrame, e = .returned y.val ∧ y.dat = P.dat ∧ y.szs = P.szs ∧ (∀ b, FootL y.rows b → wr.heap.size ≤ b) ∧ OwnL w' y.rows ∧ Same wr w') := by rw [← hcs]; exact toLogFrame_any P wr hm1 hd
        have HLN : Hid (len = (qs ++ zFr :: List.replicate (len - (k + 1)) zFr).length) := by unfold Hid; simp [HQL.out]; omega
        have hz0w := (HOr.out.lt w.heap.size (.inl rfl)).2
        clear hd hm1 hP hcs hcl
        go_wp2_with (first | (refine wpList_load_mid rfl 100 _ rfl b (off + k * 16) rfl cs _ HRG.out Try.underlying100 rfl HI.out ?_))
        refine HTO.out.mono ?_
        rintro e w2 ⟨y, rfl, hyd, hyz, hyf, hyo, hk2⟩
        have HO2 : Hid (OwnR kFr 0 74 5 w2 (.slice (some ⟨w.heap.size, 0, none⟩) len len) (qs ++ zFr :: List.replicate (len - (k + 1)) zFr)) := by have h := HOr.out.same hk2; rw [HREP.out] at h; exact h
        have HK2 : Hid (Same w w2) := HKr.out.trans hk2
        have HYF := (show Hid (∀ b, FootL y.rows b → w.heap.size < b) from fun b hb => by have := hyf b hb; omega)
        have HFIN : Hid (OwnR kFr 0 74 5 (w2.setCells w.heap.size (k * 16) (kFr.cells y)) (.slice (some ⟨w.heap.size, 0, none⟩) len len) (qs ++ y :: List.replicate (len - (k + 1)) zFr)) := HO2.out.setElem (p' := y) HLN.out (k * 16) (by rw [HQL.out]; rfl) (Own.nil _ _ _ _) (fun b hb => by simp [kFr, Value.ownBlock] at hb)
        have HROW : Hid (OwnL (w2.setCells w.heap.size (k * 16) (kFr.cells y)) (frRows (qs ++ [y]))) := by
          unfold Hid
          rw [frRows_append, frRows_cons, show frRows [] = [] from rfl, List.append_nil]
          refine OwnL.kept (R := fun b => b = w.heap.size) ((HRr.out.same hk2).append hyo (fun b h1 h2 => by have h3 := HRr.out.lt b h1; have h4 := hyf b h2; omega)) (Kept.setCells (R := fun b => b = w.heap.size) (.inr rfl) _ _ (Kept.refl _ _)) (fun b hb e => ?_)
          rcases (FootL_append _ _ _).1 hb with h | h
          · have := HF.out b h; omega
          · have := HYF.out b h; omega
        have HKF : Hid (Same w (w2.setCells w.heap.size (k * 16) (kFr.cells y))) := Kept.setCells (.inl (Nat.le_refl _)) _ _ HK2.out
        have HYD := hid hyd
        have HYZ := hid hyz
        obtain ⟨ds, hds⟩ : ∃ ds, kFr.cells y = ds := ⟨_, rfl⟩
        have hdl : ds.length = 16 := by rw [← hds]; exact kFr.len y
        have hyv : y.val = .agg ds.toArray := by rw [← hds]; rfl
        have HONE : Hid (ds.toArray.all (·.oneCell') = true) := all_oneCell_toArray (fun v hv => by
          rw [← hds] at hv
          simp only [kFr, StLogFrame.cells, List.mem_cons, List.not_mem_nil, or_false] at hv
          rcases hv with rfl | rfl | rfl | rfl | rfl | rfl | rfl | rfl | rfl | rfl | rfl | rfl | rfl | rfl | rfl | rfl <;> rfl)
        have HI2 : Hid ((Try.prog.info? 74).map (·.size) = some ds.toArray.size) := by unfold Hid; rw [List.size_toArray, hdl]; kernel_rfl
        have HTH : Hid (w2.there w.heap.size (k * 16) ds.toArray.size) := fun j hj => by
          rw [List.size_toArray, hdl] at hj
          refine ⟨?_, HO2.out.frozen HLN.out _⟩
          rw [HO2.out.cellMid HLN.out j hj _ (by rw [HQL.out]; rfl), List.getElem?_eq_getElem (by rw [kFr.len]; exact hj)]
          rfl
        rw [hyv]
        rw [hds] at HFIN HROW HKF
        clear hyd hyz hyf hyo hk2 HO2 HK2 HOr HRr HKr HTO HRG HI hds hdl hyv
        go_wp2_with (first | (refine wpList_store_mid rfl 74 _ _ rfl w.heap.size (k * 16) ds.toArray rfl rfl HTH.out HI2.out HONE.out ?_; rw [List.toList_toArray]))
        go_roundw
        case rel =>
          refine ⟨k + 1, qs ++ [y], by omega, by go_num, by simp [HQL.out], ?_, ?_, ?_, HROW, HKF⟩
          · obtain ⟨h1, h2⟩ := HQ.out
            have h3 := HTK.out
            have h4 := HYD.out
            have h5 := HYZ.out
            unfold Hid
            rw [h3]
            simp only [datFr, szsFr, List.map_append, List.map_cons, List.map_nil] at h1 h2 ⊢
            rw [h1, h2, h4, h5]
            exact ⟨rfl, rfl⟩
          · unfold Hid
            intro b hb
            rw [frRows_append, frRows_cons, show frRows [] = [] from rfl, List.append_nil] at hb
            rcases (FootL_append _ _ _).1 hb with h | h
            · exact HF.out b h
            · exact HYF.out b h
          · rw [List.append_assoc]
            exact HFIN
        case measure => simp [intOf]; omega
      · go_wp2
        go_ret
        obtain rfl : k = len := by omega
        have h := HOr.out
        have h2 := HL.out
        obtain ⟨h3, h4⟩ := HQ.out
        rw [Nat.sub_self, List.replicate_zero, List.append_nil] at h
        rw [← h2, List.take_length] at h3 h4
        refine ⟨w.heap.size, qs, rfl, h3, h4, fun b hb => ?_, ⟨h, HRr.out, fun b hb hf => ?_⟩, HKr.out⟩
        · rcases hb with hb | hb
          · simp [Value.ownBlock] at hb; omega
          · have := HF.out b hb; omega
        · have h5 := HF.out b hf
          simp [Value.ownBlock] at hb
          omega
end Go.Proofs.Ytknmledgpgkhpaa

namespace Go.Proofs.Ytknmledgpgkhpaa
set_option maxRecDepth 100000
set_option maxHeartbeats 2000000
open Go.RowKit
set_option linter.unusedVariables false
set_option linter.unusedSimpArgs false
theorem markTxnEntryS_own (x : FR) (k0 : Int) (w : World) (h0 : 0 ≤ k0) (h1 : k0 + (x.bs.length : Int) ≤ 1125899906842624) (ha : OwnL w (x.rows 4)) :
    Calls Try.prog 32 #[x.v, .int .i64 k0] w fun e w' => e = .returned (.int .i64 (k0 + (x.bs.length : Int))) ∧ OwnL w' ((x.marked k0).rows 4) ∧ Kept (FootL (x.rows 4)) w w' := by
  have hl := FR.own_len ha
  have hf := FR.own_form ha
  obtain ⟨xe, xa, xn, xc, bs⟩ := x
  dsimp only [FR.v] at *
  have HA := (show Hid (OwnL w (FR.rows 4 ⟨xe, xa, xn, xc, bs⟩)) from ha)
  clear ha
  rcases hf with ⟨rfl, rfl, rfl⟩ | ⟨g, rfl, hac, hcm, ho⟩
  · obtain rfl : bs = [] := List.length_eq_zero_iff.1 (by omega)
    clear hl
    go_enter Try.func32, Try.ntmps32
    go_wp2
    refine wp_loop_rounds 1 ?_
    rw [rounds_succ]
    go_wp2
    go_ret
    exact ⟨by simp, HA.out, Kept.refl _ _⟩
  · have HL := (show Hid (bs.length = xn * 4) from hl)
    have HO0 := (show Hid (OwnF 4 xe w g xn xc bs) from ho)
    rw [hl] at h1 ⊢
    have hxn : k0 + (xn : Int) * 4 ≤ 1125899906842624 := by simpa using h1
    unfold maxLen at hcm
    clear ho hl HA h1
    go_enter Try.func32, Try.ntmps32
    go_wp2
    go_loopw [1, 5] (fun v i wr => ∃ k : Nat, k ≤ xn ∧ i = .int .i64 k ∧ v = .int .i64 (k0 + (k : Int) * 4) ∧ Hid (OwnF 4 xe wr g xn xc (partI k0 bs (k * 4))) ∧ Hid (Kept (fun b => b = g) w wr)) (fun _ i _ => xn - (intOf i).toNat)
    case atStart => exact ⟨0, Nat.zero_le _, rfl, by simp, by rw [Nat.zero_mul, partI_zero]; exact HO0, Kept.refl _ _⟩
    case round =>
      obtain ⟨k, hk, rfl, rfl, HO, HK⟩ := hrel
      by_cases hlt : k < xn
      · have c0 := HO.out.cell (k * 4) (by omega)
        have f0 := HO.out.frozen (k * 4)
        have c1 := HO.out.cell (k * 4 + 1) (by omega)
        have f1 := HO.out.frozen (k * 4 + 1)
        have c2 := HO.out.cell (k * 4 + 2) (by omega)
        have f2 := HO.out.frozen (k * 4 + 2)
        have c3 := HO.out.cell (k * 4 + 3) (by omega)
        have f3 := HO.out.frozen (k * 4 + 3)
        go_wp2
        go_roundw
        case rel =>
          have hl := HL.out
          have q0 := HO.out
          have q1 := q0.stored (k * 4) (k0 + ((k * 4 : Nat) : Int))
          rw [partI_step _ _ _ (by omega)] at q1
          have q2 := q1.stored (k * 4 + 1) (k0 + ((k * 4 + 1 : Nat) : Int))
          rw [partI_step _ _ _ (by omega)] at q2
          have q3 := q2.stored (k * 4 + 2) (k0 + ((k * 4 + 2 : Nat) : Int))
          rw [partI_step _ _ _ (by omega)] at q3
          have q4 := q3.stored (k * 4 + 3) (k0 + ((k * 4 + 3 : Nat) : Int))
          rw [partI_step _ _ _ (by omega)] at q4
          refine ⟨k + 1, by omega, by go_num, by go_num, ?_, ?_⟩
          · rw [show (k + 1) * 4 = k * 4 + 1 + 1 + 1 + 1 from by omega]; simpa [Hid, Int.add_assoc] using q4
          · exact ((((HK.out.setCell (.inr rfl) _).setCell (.inr rfl) _).setCell (.inr rfl) _).setCell (.inr rfl) _)
        case measure => simp [intOf]; omega
      · go_wp2
        go_ret
        obtain rfl : k = xn := by omega
        have h := HO.out
        rw [← HL.out, partI_all] at h
        refine ⟨ret_int (by push_cast; rfl), ?_, HK.out.mono (fun b _ hb => (FootL_one _ _).2 (by simp [FR.v, Value.ownBlock, hb]))⟩
        exact h.out
end Go.Proofs.Ytknmledgpgkhpaa

namespace Go.Proofs.Ytknmledgpgkhpaa
set_option maxRecDepth 100000
set_option maxHeartbeats 2000000
open Go.RowKit
set_option linter.unusedVariables false
set_option linter.unusedSimpArgs false
theorem markDirtyEntryS_own (x : FR) (k0 : Int) (w : World) (h0 : 0 ≤ k0) (h1 : k0 + (x.bs.length : Int) ≤ 1125899906842624) (ha : OwnL w (x.rows 2)) :
    Calls Try.prog 59 #[x.v, .int .i64 k0] w fun e w' => e = .returned (.int .i64 (k0 + (x.bs.length : Int))) ∧ OwnL w' ((x.marked k0).rows 2) ∧ Kept (FootL (x.rows 2)) w w' := by
  have hl := FR.own_len ha
  have hf := FR.own_form ha
  obtain ⟨xe, xa, xn, xc, bs⟩ := x
  dsimp only [FR.v] at *
  have HA := (show Hid (OwnL w (FR.rows 2 ⟨xe, xa, xn, xc, bs⟩)) from ha)
  clear ha
  rcases hf with ⟨rfl, rfl, rfl⟩ | ⟨g, rfl, hac, hcm, ho⟩
  · obtain rfl : bs = [] := List.length_eq_zero_iff.1 (by omega)
    clear hl
    go_enter Try.func59, Try.ntmps59
    go_wp2
    refine wp_loop_rounds 1 ?_
    rw [rounds_succ]
    go_wp2
    go_ret
    exact ⟨by simp, HA.out, Kept.refl _ _⟩
  · have HL := (show Hid (bs.length = xn * 2) from hl)
    have HO0 := (show Hid (OwnF 2 xe w g xn xc bs) from ho)
    rw [hl] at h1 ⊢
    have hxn : k0 + (xn : Int) * 2 ≤ 1125899906842624 := by simpa using h1
    unfold maxLen at hcm
    clear ho hl HA h1
    go_enter Try.func59, Try.ntmps59
    go_wp2
    go_loopw [1, 5] (fun v i wr => ∃ k : Nat, k ≤ xn ∧ i = .int .i64 k ∧ v = .int .i64 (k0 + (k : Int) * 2) ∧ Hid (OwnF 2 xe wr g xn xc (partI k0 bs (k * 2))) ∧ Hid (Kept (fun b => b = g) w wr)) (fun _ i _ => xn - (intOf i).toNat)
    case atStart => exact ⟨0, Nat.zero_le _, rfl, by simp, by rw [Nat.zero_mul, partI_zero]; exact HO0, Kept.refl _ _⟩
    case round =>
      obtain ⟨k, hk, rfl, rfl, HO, HK⟩ := hrel
      by_cases hlt : k < xn
      · have c0 := HO.out.cell (k * 2) (by omega)
        have f0 := HO.out.frozen (k * 2)
        have c1 := HO.out.cell (k * 2 + 1) (by omega)
        have f1 := HO.out.frozen (k * 2 + 1)
        go_wp2
        go_roundw
        case rel =>
          have hl := HL.out
          have q0 := HO.out
          have q1 := q0.stored (k * 2) (k0 + ((k * 2 : Nat) : Int))
          rw [partI_step _ _ _ (by omega)] at q1
          have q2 := q1.stored (k * 2 + 1) (k0 + ((k * 2 + 1 : Nat) : Int))
          rw [partI_step _ _ _ (by omega)] at q2
          refine ⟨k + 1, by omega, by go_num, by go_num, ?_, ?_⟩
          · rw [show (k + 1) * 2 = k * 2 + 1 + 1 from by omega]; simpa [Hid, Int.add_assoc] using q2
          · exact ((HK.out.setCell (.inr rfl) _).setCell (.inr rfl) _)
        case measure => simp [intOf]; omega
      · go_wp2
        go_ret
        obtain rfl : k = xn := by omega
        have h := HO.out
        rw [← HL.out, partI_all] at h
        refine ⟨ret_int (by push_cast; rfl), ?_, HK.out.mono (fun b _ hb => (FootL_one _ _).2 (by simp [FR.v, Value.ownBlock, hb]))⟩
        exact h.out
end Go.Proofs.Ytknmledgpgkhpaa
