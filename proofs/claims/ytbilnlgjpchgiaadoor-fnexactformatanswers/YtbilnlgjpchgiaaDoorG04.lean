import Derived.Test.YtbilnlgjpchgiaaDoorG03
import Derived.Test.YtbilnlgjpchgiaaDoorG01
import Derived.Test.YtbilnlgjpchgiaaDoorG02
import Derived.Test.YtbilnlgjpchgiaaDoorG00
import Derived.Deep.RegionWith
import Derived.Deep.DeepMust
import Derived.Deep.MidRow
import Derived.Deep.DeepCutAuto
import Derived.Deep.RegionHeld3
namespace Go.Proofs.YtbilnlgjpchgiaaDoor
set_option maxRecDepth 100000
set_option maxHeartbeats 8000000
set_option linter.unusedVariables false
set_option linter.unusedSimpArgs false
open Go Go.RowKit
theorem szAnswerS_any (v : Value) (ps : List EAn) (left : Int) (w : World) (h0 : 0 ≤ left) (h1 : left ≤ 1048576) (hp : RdAn w v ps) :
  Calls Tryd.prog 31 #[v, .int .i64 left] w fun e w' => ∃ r : Int, e = .returned (.int .i64 r) ∧ (r = -1 ∨ (r = left - ps.length - sizeAn ps ∧ 0 ≤ r)) ∧ Same w w' := by
 have hn := hp.row.max
 unfold maxLen at hn
 rcases hp.row.row with ⟨rfl, a, c, rfl⟩ | ⟨b, off, c, rfl, hc⟩
 ·clear hp hn
  go_enter Tryd.func31, Tryd.ntmps31
  go_wp2
  refine wp_loop_rounds 1 ?_
  rw [rounds_succ]
  go_wp2
  go_ret
  exact ⟨_, rfl, .inr ⟨by simp [sizeAn], by omega⟩, Kept.refl _ _⟩
 ·have HP := hid hp
  have HC : Hid (∀ j i, (h : j < ps.length) → i < 6 → w.cell? ⟨b, off + (j * 6 + i), none⟩ = (kAn.cells ps[j])[i]?) := hc
  clear hp hc
  generalize hl : ps.length = len at hn HP ⊢
  have HL : Hid (ps.length = len) := hl
  clear hl
  by_cases h : left < len
  ·go_enter Tryd.func31, Tryd.ntmps31
   go_wp2
   go_ret
   exact ⟨_, rfl, .inl rfl, Kept.refl _ _⟩
  ·go_enter Tryd.func31, Tryd.ntmps31
   go_wp2
   go_loopw [1, 5] (fun u i wr => ∃ (k : Nat) (r : Int), k ≤ len ∧ i = .int .i64 k ∧ u = .int .i64 r ∧ 0 ≤ r ∧ r ≤ left ∧ Hid (r = left - len - sizeAn (ps.take k)) ∧ Hid (Same w wr)) (fun _ i _ => len - (intOf i).toNat)
   case atStart => exact ⟨0, left - len, Nat.zero_le _, rfl, rfl, by omega, by omega, by simp [sizeAn, Hid], Kept.refl _ _⟩
   case round =>
    obtain ⟨k, r, hk, rfl, rfl, hr0, hr1, HR, HK⟩ := hrel
    by_cases hlt : k < len
    ·have hlp : k < ps.length := by rw [HL.out]; exact hlt
     have HST := hid (sizeAn_step ps k hlp)
     have hrd := And.intro ((show Rd .u8 w ps[k].dv ps[k].db from HP.out.row.data _ (List.getElem_mem hlp)).same HK.out) ((HP.out.recs _ (List.getElem_mem hlp)).same HK.out)
     obtain ⟨P, hP⟩ : ∃ P, ps[k] = P := ⟨_, rfl⟩
     rw [hP] at HST hrd
     have q0 : wr.cell? ⟨b, off + k * 6, none⟩ = some (.int .i64 P.cd) := HK.out.cellOf (p := ⟨b, off + k * 6, none⟩) (by have h := HC.out k 0 hlp (by decide); rw [hP] at h; exact h) id
     have q1 : wr.cell? ⟨b, off + k * 6 + 1, none⟩ = some (.int .i64 P.tx) := HK.out.cellOf (p := ⟨b, off + k * 6 + 1, none⟩) (by have h := HC.out k 1 hlp (by decide); rw [hP, ← Nat.add_assoc] at h; exact h) id
     have q2 : wr.cell? ⟨b, off + k * 6 + 2, none⟩ = some (.int .i64 P.rid) := HK.out.cellOf (p := ⟨b, off + k * 6 + 2, none⟩) (by have h := HC.out k 2 hlp (by decide); rw [hP, ← Nat.add_assoc] at h; exact h) id
     have q3 : wr.cell? ⟨b, off + k * 6 + 3, none⟩ = some (P.dv) := HK.out.cellOf (p := ⟨b, off + k * 6 + 3, none⟩) (by have h := HC.out k 3 hlp (by decide); rw [hP, ← Nat.add_assoc] at h; exact h) id
     have q4 : wr.cell? ⟨b, off + k * 6 + 4, none⟩ = some (P.rv) := HK.out.cellOf (p := ⟨b, off + k * 6 + 4, none⟩) (by have h := HC.out k 4 hlp (by decide); rw [hP, ← Nat.add_assoc] at h; exact h) id
     have q5 : wr.cell? ⟨b, off + k * 6 + 5, none⟩ = some (.int .i64 P.us) := HK.out.cellOf (p := ⟨b, off + k * 6 + 5, none⟩) (by have h := HC.out k 5 hlp (by decide); rw [hP, ← Nat.add_assoc] at h; exact h) id
     have HRD := hid hrd
     clear hrd hP
     go_wp2_with fail
     refine (szAnswer_any P r _ hr0 (by omega) HRD.out.1 HRD.out.2).mono ?_
     rintro e w1 ⟨r1, rfl, hr2, hk1⟩
     have HK1 : Hid (Same w w1) := HK.out.trans hk1
     clear q0 q1 q2 q3 q4 q5 hk1
     rcases hr2 with rfl | ⟨hr2, hr3⟩
     ·go_wp2
      go_ret
      exact ⟨_, rfl, .inl rfl, HK1.out⟩
     ·have hr4 : r1 ≤ left := by have := P.szs_le; omega
      have HR1 : Hid (r1 = r - P.szs) := hr2
      clear hr2
      go_wp2
      go_roundw
      case rel => exact ⟨k + 1, r1, by omega, by go_num, rfl, hr3, hr4, by have h1 := HR1.out; have h2 := HR.out; have h3 := HST.out; unfold Hid; omega, HK1⟩
      case measure => simp [intOf]; omega
    ·go_wp2
     go_ret
     obtain rfl : k = len := by omega
     have h1 := HR.out
     have h2 := HL.out
     rw [← h2, List.take_length] at h1
     exact ⟨r, rfl, .inr ⟨by omega, hr0⟩, HK.out⟩
theorem Tryd.infoAn : (Tryd.prog.info? 85).map (fun i => (i.zero, i.size, i.bytes)) = some (some (.agg #[.int .i64 0, .int .i64 0, .int .i64 0, .slice none 0 0, .slice none 0 0, .int .i64 0]), 6, 80) := by kernel_rfl
theorem toAnswerS_any (v : Value) (ps : List EAn) (w : World) (hn : ps.length ≤ 1048576) (hs : ∀ p ∈ ps, p.szs ≤ 1073741824) (hv : RdAn w v ps) :
  Calls Tryd.prog 37 #[v] w fun e w' => ∃ g qs, e = .returned (.slice (some ⟨g, 0, none⟩) ps.length ps.length) ∧ datAn qs = datAn ps ∧ (∀ b, footAn (.slice (some ⟨g, 0, none⟩) ps.length ps.length) qs b → w.heap.size ≤ b) ∧ OwnAn w' (.slice (some ⟨g, 0, none⟩) ps.length ps.length) qs ∧ Same w w' := by
 obtain ⟨i0, hi, hz0, hz1, hz2⟩ := info_parts Tryd.infoAn
 rcases hv.row.row with ⟨rfl, a, c, rfl⟩ | ⟨b, off, c, rfl, hc⟩
 ·clear hv hn hs
  go_enter Tryd.func37, Tryd.ntmps37
  go_wp2_with (at_make; refine wpList_make_full _ rfl (.tmp 6) (.tmp 6) 45 rfl 0 85 i0 (.agg #[.int .i64 0, .int .i64 0, .int .i64 0, .slice none 0 0, .slice none 0 0, .int .i64 0]) 6 Tryd.underlying45 hi hz0 hz1 .i64 .i64 _ _ 0 rfl rfl (by simp) (by simp) (by simp) (by simp) (Nat.zero_le _) ?_; intro w1 hown1 hgrow1; have HO : Hid (OwnR kAn 0 85 5 w1 (.slice (some ⟨w.heap.size, 0, none⟩) 0 0) []) := ownR_made (K := kAn) (zp := zAn) (z := .agg #[.int .i64 0, .int .i64 0, .int .i64 0, .slice none 0 0, .slice none 0 0, .int .i64 0]) (by decide) rfl rfl rfl (n := 0) (by first | exact hown1 | simpa [kAn] using hown1); have HK : Hid (Same w w1) := Kept.of_grown hgrow1 (fun k e => by cases e); clear hown1 hgrow1)
  refine wp_loop_rounds 1 ?_
  rw [rounds_succ]
  go_wp2
  go_ret
  exact ⟨w.heap.size, [], rfl, rfl, fun b hb => by rcases hb with hb | ⟨x, hx, _⟩; (simp [Value.ownBlock] at hb; omega); simp at hx, ⟨HO.out, fun x hx => by simp at hx⟩, HK.out⟩
 ·have HP := hid hv
  have HC : Hid (∀ j i, (h : j < ps.length) → i < 6 → w.cell? ⟨b, off + (j * 6 + i), none⟩ = (kAn.cells ps[j])[i]?) := hc
  have HS : Hid (∀ p ∈ ps, p.szs ≤ 1073741824) := hs
  clear hc hv hs
  generalize hl : ps.length = len at hn HP ⊢
  have HL : Hid (ps.length = len) := hl
  clear hl
  go_enter Tryd.func37, Tryd.ntmps37
  go_wp2_with (at_make; refine wpList_make_full _ rfl (.tmp 6) (.tmp 6) 45 rfl 0 85 i0 (.agg #[.int .i64 0, .int .i64 0, .int .i64 0, .slice none 0 0, .slice none 0 0, .int .i64 0]) 6 Tryd.underlying45 hi hz0 hz1 .i64 .i64 _ _ len rfl rfl (by simp) (by simp) (by rw [hz2]; omega) (by unfold maxLen; omega) (Nat.zero_le _) ?_; intro w1 hown1 hgrow1; have HO : Hid (OwnR kAn 0 85 5 w1 (.slice (some ⟨w.heap.size, 0, none⟩) len len) (List.replicate len zAn)) := ownR_made (K := kAn) (zp := zAn) (z := .agg #[.int .i64 0, .int .i64 0, .int .i64 0, .slice none 0 0, .slice none 0 0, .int .i64 0]) (by decide) rfl rfl rfl (by first | exact hown1 | simpa [kAn] using hown1); have HK : Hid (Same w w1) := Kept.of_grown hgrow1 (fun k e => by cases e); clear hown1 hgrow1)
  go_loopw [4] (fun i wr => ∃ (k : Nat) (qs : List EAn), k ≤ len ∧ i = .int .i64 k ∧ qs.length = k ∧ Hid (datAn qs = datAn (ps.take k)) ∧ Hid (∀ x ∈ qs, ∀ b, x.dv.ownBlock = some b ∨ footR kHeapRecord x.rv x.rs b → w.heap.size < b) ∧ Hid (OwnR kAn 0 85 5 wr (.slice (some ⟨w.heap.size, 0, none⟩) len len) (qs ++ List.replicate (len - k) zAn)) ∧ Hid (∀ x ∈ qs, OwnR kHeapRecord 0 88 5 wr x.rv x.rs) ∧ Hid (Same w wr)) (fun i _ => len - (intOf i).toNat)
  case atStart => exact ⟨0, [], Nat.zero_le _, rfl, rfl, rfl, fun x hx => by simp at hx, by simpa using HO, fun x hx => by simp at hx, HK⟩
  case round =>
   obtain ⟨k, qs, hk, rfl, hql, HQ, HF, HOr, HRr, HKr⟩ := hrel
   have HQL : Hid (qs.length = k) := hql
   clear hql
   by_cases hlt : k < len
   ·have hlp : k < ps.length := by rw [HL.out]; exact hlt
    have HREP : Hid (List.replicate (len - k) zAn = zAn :: List.replicate (len - (k + 1)) zAn) := by unfold Hid; rw [show len - k = len - (k + 1) + 1 from by omega, List.replicate_succ]
    have hd1 := (show Rd .u8 w ps[k].dv ps[k].db from HP.out.row.data _ (List.getElem_mem hlp)).same HKr.out
    have hd2 := (HP.out.recs _ (List.getElem_mem hlp)).same HKr.out
    have hm1 := HS.out _ (List.getElem_mem hlp)
    have HTK := hid (List.take_succ_eq_append_getElem hlp)
    obtain ⟨P, hP⟩ : ∃ P, ps[k] = P := ⟨_, rfl⟩
    rw [hP] at hd1 hd2 hm1 HTK
    obtain ⟨cs, hcs⟩ : ∃ cs, kAn.cells P = cs := ⟨_, rfl⟩
    have hcl : cs.length = 6 := by rw [← hcs]; exact kAn.len P
    have HRG : Hid (wr.rangeAt b (off + k * 6) cs) := fun j v hv => by
     have hj : j < 6 := by have := (List.getElem?_eq_some_iff.1 hv).1; omega
     have h := HC.out k j hlp hj
     rw [hP, hcs, hv, ← Nat.add_assoc] at h
     exact HKr.out.cellOf h id
    have HI : Hid ((Tryd.prog.info? 119).map (·.size) = some cs.length) := by unfold Hid; rw [hcl]; kernel_rfl
    have HTO := hid (toAnswer_any P wr hm1 hd1 hd2)
    rw [show Value.agg #[.int .i64 P.cd, .int .i64 P.tx, .int .i64 P.rid, P.dv, P.rv, .int .i64 P.us] = .agg (kAn.cells P).toArray from rfl, hcs] at HTO
    have HLN : Hid (len = (qs ++ zAn :: List.replicate (len - (k + 1)) zAn).length) := by unfold Hid; simp [HQL.out]; omega
    have hz0w := (HOr.out.lt w.heap.size (.inl rfl)).2
    clear hd1 hd2 hm1 hP hcs hcl
    go_wp2_with (first | (refine wpList_load_mid rfl 119 _ rfl b (off + k * 6) rfl cs _ HRG.out Tryd.underlying119 rfl HI.out ?_))
    refine HTO.out.mono ?_
    rintro e w2 ⟨y, rfl, hyd, hyo, hyr, hyf, hk2⟩
    have HO2 : Hid (OwnR kAn 0 85 5 w2 (.slice (some ⟨w.heap.size, 0, none⟩) len len) (qs ++ zAn :: List.replicate (len - (k + 1)) zAn)) := by have h := HOr.out.same hk2; rw [HREP.out] at h; exact h
    have HK2 : Hid (Same w w2) := HKr.out.trans hk2
    have HYF := (show Hid (∀ b, y.dv.ownBlock = some b ∨ footR kHeapRecord y.rv y.rs b → w.heap.size < b) from fun b hb => by have := hyf b hb; omega)
    have HFIN : Hid (OwnR kAn 0 85 5 (w2.setCells w.heap.size (k * 6) (kAn.cells y)) (.slice (some ⟨w.heap.size, 0, none⟩) len len) (qs ++ y :: List.replicate (len - (k + 1)) zAn)) := HO2.out.setElem (p' := y) HLN.out (k * 6) (by rw [HQL.out]; rfl) hyo (fun b hb hf => by have hor := HOr.out; rw [HREP.out] at hor; have h1 := hyf b (.inl hb); have h2 := (hor.lt b hf).2; omega)
    have HROW := (show Hid (∀ x ∈ qs ++ [y], OwnR kHeapRecord 0 88 5 (w2.setCells w.heap.size (k * 6) (kAn.cells y)) x.rv x.rs) from fun x hx => by
     have hkk : Kept (fun b => b = w.heap.size) w2 (w2.setCells w.heap.size (k * 6) (kAn.cells y)) := Kept.setCells (R := fun b => b = w.heap.size) (.inr rfl) _ _ (Kept.refl _ _)
     rcases List.mem_append.1 hx with hx | hx
     ·exact ((HRr.out x hx).same hk2).kept hkk (fun b hb e => by have := HF.out x hx b (.inr hb); omega)
     ·obtain rfl : x = y := by simpa using hx
      exact hyr.kept hkk (fun b hb e => by have := HYF.out b (.inr hb); omega))
    have HKF : Hid (Same w (w2.setCells w.heap.size (k * 6) (kAn.cells y))) := Kept.setCells (.inl (Nat.le_refl _)) _ _ HK2.out
    have HYD := hid hyd
    have HYO := hid hyo
    have HYR := hid hyr
    obtain ⟨ds, hds⟩ : ∃ ds, kAn.cells y = ds := ⟨_, rfl⟩
    have hdl : ds.length = 6 := by rw [← hds]; exact kAn.len y
    have hyv : Value.agg #[.int .i64 y.cd, .int .i64 y.tx, .int .i64 y.rid, y.dv, y.rv, .int .i64 y.us] = .agg ds.toArray := by rw [← hds]; rfl
    have HONE : Hid (ds.toArray.all (·.oneCell') = true) := all_oneCell_toArray (fun v hv => by
     rw [← hds] at hv
     simp only [kAn, List.mem_cons, List.not_mem_nil, or_false] at hv
     obtain ⟨ya, yb, yc, ye⟩ := slice_of_own HYO.out
     obtain ⟨za, zc, ze⟩ := HYR.out.slice
     rw [ye, ze] at hv
     rcases hv with rfl | rfl | rfl | rfl | rfl | rfl <;> rfl)
    have HI2 : Hid ((Tryd.prog.info? 85).map (·.size) = some ds.toArray.size) := by unfold Hid; rw [List.size_toArray, hdl]; kernel_rfl
    have HTH : Hid (w2.there w.heap.size (k * 6) ds.toArray.size) := fun j hj => by
     rw [List.size_toArray, hdl] at hj
     refine ⟨?_, HO2.out.frozen HLN.out _⟩
     rw [HO2.out.cellMid HLN.out j hj _ (by rw [HQL.out]; rfl), List.getElem?_eq_getElem (by rw [kAn.len]; exact hj)]
     rfl
    rw [hyv]
    rw [hds] at HFIN HROW HKF
    clear hyd hyf hyo hyr hk2 HO2 HK2 HOr HRr HKr HTO HRG HI hds hdl hyv HYO HYR
    go_wp2_with (first | (refine wpList_store_mid rfl 85 _ _ rfl w.heap.size (k * 6) ds.toArray rfl rfl HTH.out HI2.out HONE.out ?_; rw [List.toList_toArray]))
    go_roundw
    case rel =>
     refine ⟨k + 1, qs ++ [y], by omega, by go_num, by simp [HQL.out], ?_, ?_, ?_, HROW, HKF⟩
     ·have h1 := HQ.out
      have h3 := HTK.out
      have h4 := HYD.out
      unfold Hid
      rw [h3]
      simp only [datAn, List.map_append, List.map_cons, List.map_nil] at h1 ⊢
      rw [h1, h4]
     ·intro x hx
      rcases List.mem_append.1 hx with hx | hx
      ·exact HF.out x hx
      ·obtain rfl : x = y := by simpa using hx
       exact HYF.out
     ·rw [List.append_assoc]
      exact HFIN
    case measure => simp [intOf]; omega
   ·go_wp2
    go_ret
    obtain rfl : k = len := by omega
    have h := HOr.out
    have h2 := HL.out
    have h3 := HQ.out
    rw [Nat.sub_self, List.replicate_zero, List.append_nil] at h
    rw [← h2, List.take_length] at h3
    exact ⟨w.heap.size, qs, rfl, h3, fun b hb => by rcases hb with hb | ⟨x, hx, hb⟩; (simp [Value.ownBlock] at hb; omega); (have := HF.out x hx b hb; omega), ⟨h, HRr.out⟩, HKr.out⟩
theorem eqAnswerS_own (va vb : Value) (ps qs : List EAn) (w : World) (hn : ps.length ≤ 1125899906842624) (hs : datAn ps = datAn qs) (hsm : ∀ p ∈ ps, p.szs ≤ 1073741824)
  (ha : OwnAn w va ps) (hb : OwnAn w vb qs) :
  Calls Tryd.prog 46 #[va, vb] w fun e w' => e = .returned (.bool true) ∧ Same w w' := by
 have hlen : qs.length = ps.length := by rw [← datAn_length, ← datAn_length, hs]
 by_cases hz : ps.length = 0
 ·obtain rfl : ps = [] := List.length_eq_zero_iff.1 hz
  obtain rfl : qs = [] := List.length_eq_zero_iff.1 hlen
  obtain ⟨aa, ca, rfl⟩ : ∃ aa ca, va = .slice aa 0 ca := by rcases ha.row.form with ⟨rfl, _⟩ | ⟨g, cap, rfl, _⟩ <;> exact ⟨_, _, rfl⟩
  obtain ⟨ab, cb, rfl⟩ : ∃ aa ca, vb = .slice aa 0 ca := by rcases hb.row.form with ⟨rfl, _⟩ | ⟨g, cap, rfl, _⟩ <;> exact ⟨_, _, rfl⟩
  clear ha hb hn hz hs
  go_enter Tryd.func46, Tryd.ntmps46
  go_wp2
  refine wp_loop_rounds 1 ?_
  rw [rounds_succ]
  go_wp2
  go_ret
  exact ⟨rfl, Kept.refl _ _⟩
 ·obtain ⟨ga, ca, rfl⟩ : ∃ g cap, va = .slice (some ⟨g, 0, none⟩) ps.length cap := by
   rcases ha.row.form with ⟨_, h⟩ | ⟨g, cap, h, _⟩
   ·simp [h] at hz
   ·exact ⟨g, cap, h⟩
  obtain ⟨gb, cb, rfl⟩ : ∃ g cap, vb = .slice (some ⟨g, 0, none⟩) ps.length cap := by
   rcases hb.row.form with ⟨_, h⟩ | ⟨g, cap, h, _⟩
   ·simp [h] at hlen; omega
   ·exact ⟨g, cap, by rw [h, hlen]⟩
  have HA := hid ha
  have HB := hid hb
  have HQ : Hid (qs.length = ps.length) := hlen
  have HS : Hid (datAn ps = datAn qs) := hs
  have HM : Hid (∀ p ∈ ps, p.szs ≤ 1073741824) := hsm
  clear ha hb hs hlen hsm
  generalize hl : ps.length = len at hn hz HA HB ⊢
  have HL : Hid (ps.length = len) := hl
  clear hl
  go_enter Tryd.func46, Tryd.ntmps46
  go_wp2
  go_loopw [5] (fun i wr => ∃ (k : Nat), k ≤ len ∧ i = .int .i64 k ∧ Hid (Same w wr)) (fun i _ => len - (intOf i).toNat)
  case atStart => exact ⟨0, Nat.zero_le _, rfl, Kept.refl _ _⟩
  case round =>
   obtain ⟨k, hk, rfl, HK⟩ := hrel
   by_cases hlt : k < len
   ·have hlp : k < ps.length := by rw [HL.out]; exact hlt
    have hlq : k < qs.length := by rw [HQ.out]; exact hlp
    have hoa := (HA.out.same HK.out).row
    have hob := (HB.out.same HK.out).row
    have hdd := datAn_at HS.out k hlp hlq
    have s3 := HM.out _ (List.getElem_mem hlp)
    have hra := And.intro (show Own 0 5 .u8 wr ps[k].dv ps[k].db from hoa.data _ (List.getElem_mem hlp)) ((HA.out.same HK.out).recs _ (List.getElem_mem hlp))
    have hrb := And.intro (show Own 0 5 .u8 wr qs[k].dv qs[k].db from hob.data _ (List.getElem_mem hlq)) ((HB.out.same HK.out).recs _ (List.getElem_mem hlq))
    obtain ⟨P, hP⟩ : ∃ P, ps[k] = P := ⟨_, rfl⟩
    obtain ⟨Q, hQ⟩ : ∃ Q, qs[k] = Q := ⟨_, rfl⟩
    rw [hP] at hdd s3 hra
    rw [hQ] at hdd hrb
    have ha0 : wr.cell? ⟨ga, k * 6, none⟩ = some (.int .i64 P.cd) := by have h := hoa.cell HL.out.symm k 0 hlp (by decide); rw [hP] at h; exact h
    have ha1 : wr.cell? ⟨ga, k * 6 + 1, none⟩ = some (.int .i64 P.tx) := by have h := hoa.cell HL.out.symm k 1 hlp (by decide); rw [hP] at h; exact h
    have ha2 : wr.cell? ⟨ga, k * 6 + 2, none⟩ = some (.int .i64 P.rid) := by have h := hoa.cell HL.out.symm k 2 hlp (by decide); rw [hP] at h; exact h
    have ha3 : wr.cell? ⟨ga, k * 6 + 3, none⟩ = some (P.dv) := by have h := hoa.cell HL.out.symm k 3 hlp (by decide); rw [hP] at h; exact h
    have ha4 : wr.cell? ⟨ga, k * 6 + 4, none⟩ = some (P.rv) := by have h := hoa.cell HL.out.symm k 4 hlp (by decide); rw [hP] at h; exact h
    have ha5 : wr.cell? ⟨ga, k * 6 + 5, none⟩ = some (.int .i64 P.us) := by have h := hoa.cell HL.out.symm k 5 hlp (by decide); rw [hP] at h; exact h
    have hb0 : wr.cell? ⟨gb, k * 6, none⟩ = some (.int .i64 Q.cd) := by have h := hob.cell (by rw [HQ.out, HL.out]) k 0 hlq (by decide); rw [hQ] at h; exact h
    have hb1 : wr.cell? ⟨gb, k * 6 + 1, none⟩ = some (.int .i64 Q.tx) := by have h := hob.cell (by rw [HQ.out, HL.out]) k 1 hlq (by decide); rw [hQ] at h; exact h
    have hb2 : wr.cell? ⟨gb, k * 6 + 2, none⟩ = some (.int .i64 Q.rid) := by have h := hob.cell (by rw [HQ.out, HL.out]) k 2 hlq (by decide); rw [hQ] at h; exact h
    have hb3 : wr.cell? ⟨gb, k * 6 + 3, none⟩ = some (Q.dv) := by have h := hob.cell (by rw [HQ.out, HL.out]) k 3 hlq (by decide); rw [hQ] at h; exact h
    have hb4 : wr.cell? ⟨gb, k * 6 + 4, none⟩ = some (Q.rv) := by have h := hob.cell (by rw [HQ.out, HL.out]) k 4 hlq (by decide); rw [hQ] at h; exact h
    have hb5 : wr.cell? ⟨gb, k * 6 + 5, none⟩ = some (.int .i64 Q.us) := by have h := hob.cell (by rw [HQ.out, HL.out]) k 5 hlq (by decide); rw [hQ] at h; exact h
    have HD := hid hdd
    have HS3 := hid s3
    have HDA := hid hra
    have HDB := hid hrb
    clear hoa hob hdd hra hrb s3 hP hQ
    go_wp2_with fail
    let Y1 : World → Prop := fun wx : World => (wx.cell? ⟨ga, k * 6, none⟩ = some (.int .i64 P.cd) ∧ wx.cell? ⟨ga, k * 6 + 1, none⟩ = some (.int .i64 P.tx) ∧ wx.cell? ⟨ga, k * 6 + 2, none⟩ = some (.int .i64 P.rid) ∧ wx.cell? ⟨ga, k * 6 + 3, none⟩ = some (P.dv) ∧ wx.cell? ⟨ga, k * 6 + 4, none⟩ = some (P.rv) ∧ wx.cell? ⟨ga, k * 6 + 5, none⟩ = some (.int .i64 P.us)) ∧ (wx.cell? ⟨gb, k * 6, none⟩ = some (.int .i64 Q.cd) ∧ wx.cell? ⟨gb, k * 6 + 1, none⟩ = some (.int .i64 Q.tx) ∧ wx.cell? ⟨gb, k * 6 + 2, none⟩ = some (.int .i64 Q.rid) ∧ wx.cell? ⟨gb, k * 6 + 3, none⟩ = some (Q.dv) ∧ wx.cell? ⟨gb, k * 6 + 4, none⟩ = some (Q.rv) ∧ wx.cell? ⟨gb, k * 6 + 5, none⟩ = some (.int .i64 Q.us))
    have hS : Y1 wr.drew := ⟨⟨ha0, ha1, ha2, ha3, ha4, ha5⟩, ⟨hb0, hb1, hb2, hb3, hb4, hb5⟩⟩
    refine wp_region_V Y1 99 10 rfl (by kernel_rfl) ?_
    refine tk 0 17 hS ?_
    refine tk 1 18 hS ?_
    refine tkV 2 19 (.pointer (some ⟨ga, k * 6, none⟩)) hS ?_
    refine tk 3 20 hS ?_
    refine tk 4 21 hS ?_
    refine tk 5 22 hS ?_
    refine tkV 6 23 (.pointer (some ⟨gb, k * 6, none⟩)) hS ?_
    refine tk 7 24 hS ?_
    refine wpAnyV_one (i := 8) (by kernel_rfl) rfl (fun K hK => ?_)
    go_simp
    refine (eqAnswer_own P Q _ HS3.out HD.out (HDA.out.1.same (Kept.refl _ _).drew) (HDB.out.1.same (Kept.refl _ _).drew) (HDA.out.2.same (Kept.refl _ _).drew) (HDB.out.2.same (Kept.refl _ _).drew)).mono ?_
    rintro e w1 ⟨rfl, hk1⟩
    have HK1 : Hid (Same w w1) := HK.out.drew.trans hk1
    have HK7 : Hid (Same wr w1) := (Kept.refl _ _).drew.trans hk1
    refine hK.out _ _ (fun _ => ⟨⟨(HK7.out.cellOf ha0 id), (HK7.out.cellOf ha1 id), (HK7.out.cellOf ha2 id), (HK7.out.cellOf ha3 id), (HK7.out.cellOf ha4 id), (HK7.out.cellOf ha5 id)⟩, ⟨(HK7.out.cellOf hb0 id), (HK7.out.cellOf hb1 id), (HK7.out.cellOf hb2 id), (HK7.out.cellOf hb3 id), (HK7.out.cellOf hb4 id), (HK7.out.cellOf hb5 id)⟩⟩) ?_
    clear hK K
    try simp only [Act.put, sA, s0, sS]
    refine wpAnyV_one (i := 9) (by kernel_rfl) rfl (fun K hK => ?_)
    go_simp
    refine hK.out _ _ (fun h => ⟨⟨(HK7.out.cellOf ha0 id), (HK7.out.cellOf ha1 id), (HK7.out.cellOf ha2 id), (HK7.out.cellOf ha3 id), (HK7.out.cellOf ha4 id), (HK7.out.cellOf ha5 id)⟩, ⟨(HK7.out.cellOf hb0 id), (HK7.out.cellOf hb1 id), (HK7.out.cellOf hb2 id), (HK7.out.cellOf hb3 id), (HK7.out.cellOf hb4 id), (HK7.out.cellOf hb5 id)⟩⟩) ?_
    clear hK K hk1
    try simp only [Act.put, sA, s0, sS]
    refine wpAnyV_done (by kernel_rfl) ?_
    go_wp2
    go_roundw
    case rel => exact ⟨k + 1, by omega, by go_num, HK1⟩
    case measure => simp [intOf]; omega
   ·go_wp2
    go_ret
    exact ⟨rfl, HK.out⟩
theorem Tryd.infoLock : (Tryd.prog.info? 124).map (fun i => (i.zero, i.size, i.bytes)) = some (some (.agg #[.int .i64 0, .int .i64 0, .int .i64 0]), 3, 24) := by kernel_rfl
theorem eqLock_any (x0 x1 x2 : Int) (w : World) : Calls Tryd.prog 79 #[.agg #[.int .i64 x0, .int .i64 x1, .int .i64 x2], .agg #[.int .i64 x0, .int .i64 x1, .int .i64 x2]] w fun e w' => e = .returned (.bool true) ∧ Same w w' := by
 go_enter Tryd.func79, Tryd.ntmps79
 go_wp2
 go_ret
 exact ⟨rfl, ((Kept.refl _ _).alloc _).alloc _⟩
theorem toLock_any (x0 x1 x2 : Int) (w : World) : Calls Tryd.prog 72 #[.agg #[.int .i64 x0, .int .i64 x1, .int .i64 x2]] w fun e w' => e = .returned (.agg #[.int .i64 x0, .int .i64 x1, .int .i64 x2]) ∧ Same w w' := by
 go_enter Tryd.func72, Tryd.ntmps72
 go_wp2
 refine bodyPost_ret (v := .agg #[.int .i64 x0, .int .i64 x1, .int .i64 x2]) (by simp [results, Tryd.results72, go_sem]) rfl ⟨rfl, ?_⟩
 repeat (first | exact Kept.refl _ _ | refine Kept.alloc ?_ _ | refine Kept.setCell ?_ (.inl (by simp)) _)
theorem eqLockS_own (x y : FR) (w : World) (hn : (x.bs.length : Int) ≤ 1125899906842624) (hd : x.bs = y.bs) (ha : OwnL w (x.rows 3)) (hb : OwnL w (y.rows 3)) :
  Calls Tryd.prog 48 #[x.v, y.v] w fun e w' => e = .returned (.bool true) ∧ Same w w' := by
 have hla := FR.own_len ha
 have hlb := FR.own_len hb
 have hfa := FR.own_form ha
 have hfb := FR.own_form hb
 obtain ⟨xe, xa, xn, xc, bs⟩ := x
 obtain ⟨ye, ya, yn, yc, bs'⟩ := y
 dsimp only at hn hd hla hlb hfa hfb
 subst hd
 obtain rfl : xn = yn := by omega
 dsimp only [FR.v]
 clear ha hb
 rcases hfa with ⟨rfl, rfl, rfl⟩ | ⟨ga, rfl, hac, hcm, hoa⟩
 ·have hz : (0 : Nat) = 0 := rfl
  go_enter Tryd.func48, Tryd.ntmps48
  go_wp2
  refine wp_loop_rounds 1 ?_
  rw [rounds_succ]
  go_wp2
  go_ret
  exact ⟨rfl, Kept.refl _ _⟩
 rcases hfb with ⟨rfl, rfl, rfl⟩ | ⟨gb, rfl, hbc, hcm', hob⟩
 ·clear hoa
  go_enter Tryd.func48, Tryd.ntmps48
  go_wp2
  refine wp_loop_rounds 1 ?_
  rw [rounds_succ]
  go_wp2
  go_ret
  exact ⟨rfl, Kept.refl _ _⟩
 have HA := (show Hid (OwnF 3 xe w ga xn xc bs) from hoa)
 have HB := (show Hid (OwnF 3 ye w gb xn yc bs) from hob)
 have hxn : (xn : Int) ≤ 1125899906842624 := by omega
 clear hoa hob hla hlb hn
 go_enter Tryd.func48, Tryd.ntmps48
 go_wp2
 go_loopw [5] (fun i wr => ∃ (k : Nat), k ≤ xn ∧ i = .int .i64 k ∧ Hid (Same w wr)) (fun i _ => xn - (intOf i).toNat)
 case atStart => exact ⟨0, Nat.zero_le _, rfl, Kept.refl _ _⟩
 case round =>
  obtain ⟨k, hk, rfl, HK⟩ := hrel
  by_cases hlt : k < xn
  ·have hoa := HA.out.same HK.out
   have hob := HB.out.same HK.out
   have ha0 : wr.cell? ⟨ga, k * 3, none⟩ = some (.int .i64 (bs.getD (k * 3) 0)) := hoa.cell _ (by omega)
   have ha1 : wr.cell? ⟨ga, k * 3 + 1, none⟩ = some (.int .i64 (bs.getD (k * 3 + 1) 0)) := hoa.cell _ (by omega)
   have ha2 : wr.cell? ⟨ga, k * 3 + 2, none⟩ = some (.int .i64 (bs.getD (k * 3 + 2) 0)) := hoa.cell _ (by omega)
   have hb0 : wr.cell? ⟨gb, k * 3, none⟩ = some (.int .i64 (bs.getD (k * 3) 0)) := hob.cell _ (by omega)
   have hb1 : wr.cell? ⟨gb, k * 3 + 1, none⟩ = some (.int .i64 (bs.getD (k * 3 + 1) 0)) := hob.cell _ (by omega)
   have hb2 : wr.cell? ⟨gb, k * 3 + 2, none⟩ = some (.int .i64 (bs.getD (k * 3 + 2) 0)) := hob.cell _ (by omega)
   clear hoa hob
   generalize bs.getD (k * 3) 0 = x0 at *
   generalize bs.getD (k * 3 + 1) 0 = x1 at *
   generalize bs.getD (k * 3 + 2) 0 = x2 at *
   go_wp2_with fail
   go_region_with (go_at_call 79; refine (eqLock_any x0 x1 x2 _).mono ?_; rintro e w1 ⟨rfl, hk1⟩)
   all_goals
    have HK1 : Hid (Same w w1) := HK.out.drew.trans hk1
    clear hk1 ha0 hb0 ha1 hb1 ha2 hb2
    go_wp2
    go_roundw
    case rel => exact ⟨k + 1, by omega, by go_num, HK1⟩
    case measure => simp [intOf]; omega
  ·go_wp2
   go_ret
   exact ⟨rfl, HK.out⟩
theorem szLockS_any (a : Option Addr) (n c : Nat) (left : Int) (w : World) (h0 : 0 ≤ left) (h1 : left ≤ 1048576) (hn : n ≤ maxLen) :
  Calls Tryd.prog 33 #[.slice a n c, .int .i64 left] w fun e w' => ∃ r : Int, e = .returned (.int .i64 r) ∧ ((r = -1 ∧ left < n) ∨ (r = left - n ∧ 0 ≤ r)) ∧ w' = w := by
 unfold maxLen at hn
 by_cases h : left < n
 ·go_enter Tryd.func33, Tryd.ntmps33
  go_wp2
  go_ret
  exact ⟨_, rfl, .inl ⟨rfl, h⟩, rfl⟩
 ·go_enter Tryd.func33, Tryd.ntmps33
  go_wp2
  go_ret
  exact ⟨_, rfl, .inr ⟨rfl, by omega⟩, rfl⟩
theorem toLockS_any (x : FR) (w : World) (hn : (x.n : Int) ≤ 1073741824) (hv : RdF 3 w x) :
  Calls Tryd.prog 39 #[x.v] w fun e w' => ∃ y : FR, e = .returned y.v ∧ y.bs = x.bs ∧ y.n = x.n ∧ (∀ b, FootL (y.rows 3) b → w.heap.size ≤ b) ∧ OwnL w' (y.rows 3) ∧ Same w w' := by
 obtain ⟨i0, hi, hz0, hz1, hz2⟩ := info_parts Tryd.infoLock
 obtain ⟨hmax, hlen, hform⟩ := hv
 obtain ⟨xe, xa, len, xc, bs⟩ := x
 dsimp only [FR.v] at *
 by_cases h0 : len = 0
 ·subst h0
  obtain rfl : bs = [] := List.length_eq_zero_iff.1 (by omega)
  clear hform hmax hlen hn
  go_enter Tryd.func39, Tryd.ntmps39
  go_wp2_with (at_make; refine wpList_make_full _ rfl (.tmp 6) (.tmp 6) 49 rfl 0 124 i0 (.agg #[.int .i64 0, .int .i64 0, .int .i64 0]) 3 Tryd.underlying49 hi hz0 hz1 .i64 .i64 _ _ 0 rfl rfl (by simp) (by simp) (by simp) (by simp) (Nat.zero_le _) ?_; intro w1 hown1 hgrow1; have HO : Hid (OwnF 3 124 w1 w.heap.size 0 0 (List.replicate (0 * 3) 0)) := ownF_made (z := .agg #[.int .i64 0, .int .i64 0, .int .i64 0]) (by decide) (by simp [Value.cells, List.replicate]) (by simpa using hown1); have HK : Hid (Same w w1) := Kept.of_grown hgrow1 (fun k e => by cases e); clear hown1 hgrow1)
  refine wp_loop_rounds 1 ?_
  rw [rounds_succ]
  go_wp2
  go_ret
  exact ⟨⟨124, some ⟨w.heap.size, 0, none⟩, 0, 0, []⟩, rfl, rfl, rfl, fun b hb => by have h := (FootL_one _ _).1 hb; simp [FR.v, Value.ownBlock] at h; omega, HO.out.out, HK.out⟩
 ·obtain ⟨b, off, rfl, hle, hc⟩ := hform.resolve_left h0
  have HC := (show Hid (∀ i, i < len * 3 → w.cell? ⟨b, off + i, none⟩ = some (.int .i64 (bs.getD i 0))) from hc)
  have HLB := (show Hid (bs.length = len * 3) from hlen)
  clear hc hform hlen
  go_enter Tryd.func39, Tryd.ntmps39
  go_wp2_with (at_make; refine wpList_make_full _ rfl (.tmp 6) (.tmp 6) 49 rfl 0 124 i0 (.agg #[.int .i64 0, .int .i64 0, .int .i64 0]) 3 Tryd.underlying49 hi hz0 hz1 .i64 .i64 _ _ len rfl rfl (by simp) (by simp) (by rw [hz2]; omega) (by unfold maxLen; omega) (Nat.zero_le _) ?_; intro w1 hown1 hgrow1; have HO : Hid (OwnF 3 124 w1 w.heap.size len len (List.replicate (len * 3) 0)) := ownF_made (z := .agg #[.int .i64 0, .int .i64 0, .int .i64 0]) (by decide) (by simp [Value.cells, List.replicate]) (by simpa using hown1); have HK : Hid (Same w w1) := Kept.of_grown hgrow1 (fun k e => by cases e); clear hown1 hgrow1)
  go_loopw [4] (fun i wr => ∃ (k : Nat), k ≤ len ∧ i = .int .i64 k ∧ Hid (OwnF 3 124 wr w.heap.size len len (fillUp bs (k * 3))) ∧ Hid (Same w wr)) (fun i _ => len - (intOf i).toNat)
  case atStart => exact ⟨0, Nat.zero_le _, rfl, by rw [Nat.zero_mul, fillUp_zero, HLB.out]; exact HO, HK⟩
  case round =>
   obtain ⟨k, hk, rfl, HOr, HKr⟩ := hrel
   by_cases hlt : k < len
   ·have q0 : wr.cell? ⟨b, off + k * 3, none⟩ = some (.int .i64 (bs.getD (k * 3) 0)) := by have h := HKr.out.cellOf (HC.out (k * 3) (by omega)) id; simpa only [Nat.add_assoc] using h
    have q1 : wr.cell? ⟨b, off + k * 3 + 1, none⟩ = some (.int .i64 (bs.getD (k * 3 + 1) 0)) := by have h := HKr.out.cellOf (HC.out (k * 3 + 1) (by omega)) id; simpa only [Nat.add_assoc] using h
    have q2 : wr.cell? ⟨b, off + k * 3 + 2, none⟩ = some (.int .i64 (bs.getD (k * 3 + 2) 0)) := by have h := HKr.out.cellOf (HC.out (k * 3 + 2) (by omega)) id; simpa only [Nat.add_assoc] using h
    go_wp2_with fail
    refine (toLock_any (bs.getD (k * 3) 0) (bs.getD (k * 3 + 1) 0) (bs.getD (k * 3 + 2) 0) _).mono ?_
    rintro e w2 ⟨rfl, hk2⟩
    have HO2 := hid (HOr.out.same hk2)
    have HK2 := hid (HKr.out.trans hk2)
    clear hk2
    have r0 := HO2.out.cell (k * 3) (by omega)
    have f0 := HO2.out.frozen (k * 3)
    have r1 := HO2.out.cell (k * 3 + 1) (by omega)
    have f1 := HO2.out.frozen (k * 3 + 1)
    have r2 := HO2.out.cell (k * 3 + 2) (by omega)
    have f2 := HO2.out.frozen (k * 3 + 2)
    go_wp2
    go_roundw
    case rel =>
     have h0 := HO2.out
     have h1 := h0.stored (k * 3) (bs.getD (k * 3) 0)
     rw [fillUp_step _ _ (by have := HLB.out; omega)] at h1
     have h2 := h1.stored (k * 3 + 1) (bs.getD (k * 3 + 1) 0)
     rw [fillUp_step _ _ (by have := HLB.out; omega)] at h2
     have h3 := h2.stored (k * 3 + 2) (bs.getD (k * 3 + 2) 0)
     rw [fillUp_step _ _ (by have := HLB.out; omega)] at h3
     refine ⟨k + 1, by omega, by go_num, ?_, ?_⟩
     ·rw [show (k + 1) * 3 = k * 3 + 1 + 1 + 1 from by omega]; simpa [List.getD, Hid] using h3
     ·exact (((HK2.out.setCell (.inl (Nat.le_refl _)) _).setCell (.inl (Nat.le_refl _)) _).setCell (.inl (Nat.le_refl _)) _)
    case measure => simp [intOf]; omega
   ·go_wp2
    go_ret
    obtain rfl : k = len := by omega
    have h := HOr.out
    rw [← HLB.out, fillUp_all] at h
    exact ⟨⟨124, some ⟨w.heap.size, 0, none⟩, k, k, bs⟩, rfl, rfl, rfl, fun b hb => by have h := (FootL_one _ _).1 hb; simp [FR.v, Value.ownBlock] at h; omega, h.out, HKr.out⟩
theorem Tryd.infoHold : (Tryd.prog.info? 128).map (fun i => (i.zero, i.size, i.bytes)) = some (some (.agg #[.int .i64 0, .int .i64 0, .int .i64 0]), 3, 24) := by kernel_rfl
theorem eqHold_any (x0 x1 x2 : Int) (w : World) : Calls Tryd.prog 80 #[.agg #[.int .i64 x0, .int .i64 x1, .int .i64 x2], .agg #[.int .i64 x0, .int .i64 x1, .int .i64 x2]] w fun e w' => e = .returned (.bool true) ∧ Same w w' := by
 go_enter Tryd.func80, Tryd.ntmps80
 go_wp2
 go_ret
 exact ⟨rfl, ((Kept.refl _ _).alloc _).alloc _⟩
theorem toHold_any (x0 x1 x2 : Int) (w : World) : Calls Tryd.prog 73 #[.agg #[.int .i64 x0, .int .i64 x1, .int .i64 x2]] w fun e w' => e = .returned (.agg #[.int .i64 x0, .int .i64 x1, .int .i64 x2]) ∧ Same w w' := by
 go_enter Tryd.func73, Tryd.ntmps73
 go_wp2
 refine bodyPost_ret (v := .agg #[.int .i64 x0, .int .i64 x1, .int .i64 x2]) (by simp [results, Tryd.results73, go_sem]) rfl ⟨rfl, ?_⟩
 repeat (first | exact Kept.refl _ _ | refine Kept.alloc ?_ _ | refine Kept.setCell ?_ (.inl (by simp)) _)
theorem eqHoldS_own (x y : FR) (w : World) (hn : (x.bs.length : Int) ≤ 1125899906842624) (hd : x.bs = y.bs) (ha : OwnL w (x.rows 3)) (hb : OwnL w (y.rows 3)) :
  Calls Tryd.prog 49 #[x.v, y.v] w fun e w' => e = .returned (.bool true) ∧ Same w w' := by
 have hla := FR.own_len ha
 have hlb := FR.own_len hb
 have hfa := FR.own_form ha
 have hfb := FR.own_form hb
 obtain ⟨xe, xa, xn, xc, bs⟩ := x
 obtain ⟨ye, ya, yn, yc, bs'⟩ := y
 dsimp only at hn hd hla hlb hfa hfb
 subst hd
 obtain rfl : xn = yn := by omega
 dsimp only [FR.v]
 clear ha hb
 rcases hfa with ⟨rfl, rfl, rfl⟩ | ⟨ga, rfl, hac, hcm, hoa⟩
 ·have hz : (0 : Nat) = 0 := rfl
  go_enter Tryd.func49, Tryd.ntmps49
  go_wp2
  refine wp_loop_rounds 1 ?_
  rw [rounds_succ]
  go_wp2
  go_ret
  exact ⟨rfl, Kept.refl _ _⟩
 rcases hfb with ⟨rfl, rfl, rfl⟩ | ⟨gb, rfl, hbc, hcm', hob⟩
 ·clear hoa
  go_enter Tryd.func49, Tryd.ntmps49
  go_wp2
  refine wp_loop_rounds 1 ?_
  rw [rounds_succ]
  go_wp2
  go_ret
  exact ⟨rfl, Kept.refl _ _⟩
 have HA := (show Hid (OwnF 3 xe w ga xn xc bs) from hoa)
 have HB := (show Hid (OwnF 3 ye w gb xn yc bs) from hob)
 have hxn : (xn : Int) ≤ 1125899906842624 := by omega
 clear hoa hob hla hlb hn
 go_enter Tryd.func49, Tryd.ntmps49
 go_wp2
 go_loopw [5] (fun i wr => ∃ (k : Nat), k ≤ xn ∧ i = .int .i64 k ∧ Hid (Same w wr)) (fun i _ => xn - (intOf i).toNat)
 case atStart => exact ⟨0, Nat.zero_le _, rfl, Kept.refl _ _⟩
 case round =>
  obtain ⟨k, hk, rfl, HK⟩ := hrel
  by_cases hlt : k < xn
  ·have hoa := HA.out.same HK.out
   have hob := HB.out.same HK.out
   have ha0 : wr.cell? ⟨ga, k * 3, none⟩ = some (.int .i64 (bs.getD (k * 3) 0)) := hoa.cell _ (by omega)
   have ha1 : wr.cell? ⟨ga, k * 3 + 1, none⟩ = some (.int .i64 (bs.getD (k * 3 + 1) 0)) := hoa.cell _ (by omega)
   have ha2 : wr.cell? ⟨ga, k * 3 + 2, none⟩ = some (.int .i64 (bs.getD (k * 3 + 2) 0)) := hoa.cell _ (by omega)
   have hb0 : wr.cell? ⟨gb, k * 3, none⟩ = some (.int .i64 (bs.getD (k * 3) 0)) := hob.cell _ (by omega)
   have hb1 : wr.cell? ⟨gb, k * 3 + 1, none⟩ = some (.int .i64 (bs.getD (k * 3 + 1) 0)) := hob.cell _ (by omega)
   have hb2 : wr.cell? ⟨gb, k * 3 + 2, none⟩ = some (.int .i64 (bs.getD (k * 3 + 2) 0)) := hob.cell _ (by omega)
   clear hoa hob
   generalize bs.getD (k * 3) 0 = x0 at *
   generalize bs.getD (k * 3 + 1) 0 = x1 at *
   generalize bs.getD (k * 3 + 2) 0 = x2 at *
   go_wp2_with fail
   go_region_with (go_at_call 80; refine (eqHold_any x0 x1 x2 _).mono ?_; rintro e w1 ⟨rfl, hk1⟩)
   all_goals
    have HK1 : Hid (Same w w1) := HK.out.drew.trans hk1
    clear hk1 ha0 hb0 ha1 hb1 ha2 hb2
    go_wp2
    go_roundw
    case rel => exact ⟨k + 1, by omega, by go_num, HK1⟩
    case measure => simp [intOf]; omega
  ·go_wp2
   go_ret
   exact ⟨rfl, HK.out⟩
theorem szHoldS_any (a : Option Addr) (n c : Nat) (left : Int) (w : World) (h0 : 0 ≤ left) (h1 : left ≤ 1048576) (hn : n ≤ maxLen) :
  Calls Tryd.prog 34 #[.slice a n c, .int .i64 left] w fun e w' => ∃ r : Int, e = .returned (.int .i64 r) ∧ ((r = -1 ∧ left < n) ∨ (r = left - n ∧ 0 ≤ r)) ∧ w' = w := by
 unfold maxLen at hn
 by_cases h : left < n
 ·go_enter Tryd.func34, Tryd.ntmps34
  go_wp2
  go_ret
  exact ⟨_, rfl, .inl ⟨rfl, h⟩, rfl⟩
 ·go_enter Tryd.func34, Tryd.ntmps34
  go_wp2
  go_ret
  exact ⟨_, rfl, .inr ⟨rfl, by omega⟩, rfl⟩
theorem toHoldS_any (x : FR) (w : World) (hn : (x.n : Int) ≤ 1073741824) (hv : RdF 3 w x) :
  Calls Tryd.prog 40 #[x.v] w fun e w' => ∃ y : FR, e = .returned y.v ∧ y.bs = x.bs ∧ y.n = x.n ∧ (∀ b, FootL (y.rows 3) b → w.heap.size ≤ b) ∧ OwnL w' (y.rows 3) ∧ Same w w' := by
 obtain ⟨i0, hi, hz0, hz1, hz2⟩ := info_parts Tryd.infoHold
 obtain ⟨hmax, hlen, hform⟩ := hv
 obtain ⟨xe, xa, len, xc, bs⟩ := x
 dsimp only [FR.v] at *
 by_cases h0 : len = 0
 ·subst h0
  obtain rfl : bs = [] := List.length_eq_zero_iff.1 (by omega)
  clear hform hmax hlen hn
  go_enter Tryd.func40, Tryd.ntmps40
  go_wp2_with (at_make; refine wpList_make_full _ rfl (.tmp 6) (.tmp 6) 50 rfl 0 128 i0 (.agg #[.int .i64 0, .int .i64 0, .int .i64 0]) 3 Tryd.underlying50 hi hz0 hz1 .i64 .i64 _ _ 0 rfl rfl (by simp) (by simp) (by simp) (by simp) (Nat.zero_le _) ?_; intro w1 hown1 hgrow1; have HO : Hid (OwnF 3 128 w1 w.heap.size 0 0 (List.replicate (0 * 3) 0)) := ownF_made (z := .agg #[.int .i64 0, .int .i64 0, .int .i64 0]) (by decide) (by simp [Value.cells, List.replicate]) (by simpa using hown1); have HK : Hid (Same w w1) := Kept.of_grown hgrow1 (fun k e => by cases e); clear hown1 hgrow1)
  refine wp_loop_rounds 1 ?_
  rw [rounds_succ]
  go_wp2
  go_ret
  exact ⟨⟨128, some ⟨w.heap.size, 0, none⟩, 0, 0, []⟩, rfl, rfl, rfl, fun b hb => by have h := (FootL_one _ _).1 hb; simp [FR.v, Value.ownBlock] at h; omega, HO.out.out, HK.out⟩
 ·obtain ⟨b, off, rfl, hle, hc⟩ := hform.resolve_left h0
  have HC := (show Hid (∀ i, i < len * 3 → w.cell? ⟨b, off + i, none⟩ = some (.int .i64 (bs.getD i 0))) from hc)
  have HLB := (show Hid (bs.length = len * 3) from hlen)
  clear hc hform hlen
  go_enter Tryd.func40, Tryd.ntmps40
  go_wp2_with (at_make; refine wpList_make_full _ rfl (.tmp 6) (.tmp 6) 50 rfl 0 128 i0 (.agg #[.int .i64 0, .int .i64 0, .int .i64 0]) 3 Tryd.underlying50 hi hz0 hz1 .i64 .i64 _ _ len rfl rfl (by simp) (by simp) (by rw [hz2]; omega) (by unfold maxLen; omega) (Nat.zero_le _) ?_; intro w1 hown1 hgrow1; have HO : Hid (OwnF 3 128 w1 w.heap.size len len (List.replicate (len * 3) 0)) := ownF_made (z := .agg #[.int .i64 0, .int .i64 0, .int .i64 0]) (by decide) (by simp [Value.cells, List.replicate]) (by simpa using hown1); have HK : Hid (Same w w1) := Kept.of_grown hgrow1 (fun k e => by cases e); clear hown1 hgrow1)
  go_loopw [4] (fun i wr => ∃ (k : Nat), k ≤ len ∧ i = .int .i64 k ∧ Hid (OwnF 3 128 wr w.heap.size len len (fillUp bs (k * 3))) ∧ Hid (Same w wr)) (fun i _ => len - (intOf i).toNat)
  case atStart => exact ⟨0, Nat.zero_le _, rfl, by rw [Nat.zero_mul, fillUp_zero, HLB.out]; exact HO, HK⟩
  case round =>
   obtain ⟨k, hk, rfl, HOr, HKr⟩ := hrel
   by_cases hlt : k < len
   ·have q0 : wr.cell? ⟨b, off + k * 3, none⟩ = some (.int .i64 (bs.getD (k * 3) 0)) := by have h := HKr.out.cellOf (HC.out (k * 3) (by omega)) id; simpa only [Nat.add_assoc] using h
    have q1 : wr.cell? ⟨b, off + k * 3 + 1, none⟩ = some (.int .i64 (bs.getD (k * 3 + 1) 0)) := by have h := HKr.out.cellOf (HC.out (k * 3 + 1) (by omega)) id; simpa only [Nat.add_assoc] using h
    have q2 : wr.cell? ⟨b, off + k * 3 + 2, none⟩ = some (.int .i64 (bs.getD (k * 3 + 2) 0)) := by have h := HKr.out.cellOf (HC.out (k * 3 + 2) (by omega)) id; simpa only [Nat.add_assoc] using h
    go_wp2_with fail
    refine (toHold_any (bs.getD (k * 3) 0) (bs.getD (k * 3 + 1) 0) (bs.getD (k * 3 + 2) 0) _).mono ?_
    rintro e w2 ⟨rfl, hk2⟩
    have HO2 := hid (HOr.out.same hk2)
    have HK2 := hid (HKr.out.trans hk2)
    clear hk2
    have r0 := HO2.out.cell (k * 3) (by omega)
    have f0 := HO2.out.frozen (k * 3)
    have r1 := HO2.out.cell (k * 3 + 1) (by omega)
    have f1 := HO2.out.frozen (k * 3 + 1)
    have r2 := HO2.out.cell (k * 3 + 2) (by omega)
    have f2 := HO2.out.frozen (k * 3 + 2)
    go_wp2
    go_roundw
    case rel =>
     have h0 := HO2.out
     have h1 := h0.stored (k * 3) (bs.getD (k * 3) 0)
     rw [fillUp_step _ _ (by have := HLB.out; omega)] at h1
     have h2 := h1.stored (k * 3 + 1) (bs.getD (k * 3 + 1) 0)
     rw [fillUp_step _ _ (by have := HLB.out; omega)] at h2
     have h3 := h2.stored (k * 3 + 2) (bs.getD (k * 3 + 2) 0)
     rw [fillUp_step _ _ (by have := HLB.out; omega)] at h3
     refine ⟨k + 1, by omega, by go_num, ?_, ?_⟩
     ·rw [show (k + 1) * 3 = k * 3 + 1 + 1 + 1 from by omega]; simpa [List.getD, Hid] using h3
     ·exact (((HK2.out.setCell (.inl (Nat.le_refl _)) _).setCell (.inl (Nat.le_refl _)) _).setCell (.inl (Nat.le_refl _)) _)
    case measure => simp [intOf]; omega
   ·go_wp2
    go_ret
    obtain rfl : k = len := by omega
    have h := HOr.out
    rw [← HLB.out, fillUp_all] at h
    exact ⟨⟨128, some ⟨w.heap.size, 0, none⟩, k, k, bs⟩, rfl, rfl, rfl, fun b hb => by have h := (FootL_one _ _).1 hb; simp [FR.v, Value.ownBlock] at h; omega, h.out, HKr.out⟩
end Go.Proofs.YtbilnlgjpchgiaaDoor
