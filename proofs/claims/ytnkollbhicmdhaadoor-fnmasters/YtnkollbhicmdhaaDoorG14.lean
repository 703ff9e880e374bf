import Derived.Test.YtnkollbhicmdhaaDoorG10
import Derived.Test.YtnkollbhicmdhaaDoorG07
import Derived.Test.YtnkollbhicmdhaaDoorG08
import Derived.Test.YtnkollbhicmdhaaDoorG09
import Derived.Test.YtnkollbhicmdhaaDoorG11
import Derived.Test.YtnkollbhicmdhaaDoorG04
import Derived.Test.YtnkollbhicmdhaaDoorG02
namespace Go.Proofs.YtnkollbhicmdhaaDoor
set_option maxRecDepth 100000
set_option maxHeartbeats 8000000
set_option linter.unusedVariables false
set_option linter.unusedSimpArgs false
open Go.RowKit
theorem rd_looks {w : World} {v : Value} {bs : List Int} (h : Rd .u8 w v bs) (hb : bs ≠ []) (b : Nat) (hl : looks v b) : b < w.heap.size := by
 obtain ⟨o, n, c, rfl⟩ := hl
 rcases h.2 with ⟨h0, _⟩ | ⟨b', off, c', e, _, hc⟩
 ·exact absurd h0 hb
 ·simp only [Value.slice.injEq, Option.some.injEq, Addr.mk.injEq, and_true] at e
  obtain ⟨⟨rfl, rfl⟩, _⟩ := e
  exact World.block_lt_of_cell? w _ (hc 0 (by cases bs with | nil => exact absurd rfl hb | cons _ _ => simp))
theorem implRunOps_any (dv pv : Value) (dur : List Int) (ps : List PW) (v : Value) (os : List EOp) (limit : Int) (w : World) (hd : dur.length ≤ 1099511627776) (hn : ps.length ≤ 1073741824) (hs : ∀ p ∈ ps, p.bs.length ≤ 1099511627776) (hv : RdD w dv pv dur ps) (hform : ∃ bo off co, v = .slice (some ⟨bo, off, none⟩) os.length co ∧ os.length ≤ co) (ho : RdR kOp w v os) :
  Calls Tryd.prog 17 #[.agg #[dv, pv], v, .int .i64 limit] w fun e w' => ∃ a n c a' n' c' r qs, e = .returned (.agg #[.bool (allO limit (datOpS os).length), .int .i64 (usedO limit (datOpS os).length), .slice a n c, .slice a' n' c']) ∧ IsRun limit dur (dataP ps) (datOpS os) r (dataP qs) ∧
   (∀ b, footD (.slice a n c) (.slice a' n' c') qs b → w.heap.size ≤ b) ∧ OwnD 0 70 5 w' (.slice a n c) (.slice a' n' c') r qs ∧ Same w w' := by
 obtain ⟨a1, c1, rfl⟩ := hv.dur.form
 obtain ⟨a2, c2, rfl⟩ := hv.pend.form
 obtain ⟨bo, off, co, rfl, hco⟩ := hform
 have hmax := ho.max
 unfold maxLen at hmax
 have HV := (show Hid (RdD w (.slice a1 dur.length c1) (.slice a2 ps.length c2) dur ps) from hv)
 have HOS := (show Hid (RdR kOp w (.slice (some ⟨bo, off, none⟩) os.length co) os) from ho)
 have HSP : Hid (∀ p ∈ ps, p.bs.length ≤ 1099511627776) := hs
 have HDL := hid hd
 have HNL := hid hn
 clear hv ho hs hd hn
 obtain ⟨len, hl⟩ : ∃ x, os.length = x := ⟨_, rfl⟩
 have HL : Hid (os.length = len) := hl
 rw [hl] at HOS hmax hco ⊢
 have hdo : (datOpS os).length = len := by rw [datOpS_length, hl]
 have hua : allO limit (datOpS os).length = decide (usedO limit len = len) := by rw [hdo]; rfl
 rw [hua, hdo]
 have HDO := hid hdo
 clear hl hua hdo
 have hul := usedO_le limit len
 obtain ⟨u, hu⟩ : ∃ x, usedO limit len = x := ⟨_, rfl⟩
 rw [hu] at hul ⊢
 have HU := hid hu
 obtain ⟨dn, hdn⟩ : ∃ x, decide (u = len) = x := ⟨_, rfl⟩
 rw [hdn]
 have hIS : ∀ (r : List Int) (qs : List (Int × List Int)), (Valid dur.length (dataP ps) → (r, qs) = runD dur (dataP ps) ((datOpS os).take u)) → (¬ Valid dur.length (dataP ps) → r = dur ∧ qs = dataP ps) → IsRun limit dur (dataP ps) (datOpS os) r qs := fun r qs h1 h2 => ⟨by rw [HDO.out, HU.out]; exact h1, h2⟩
 have HIS := hid hIS
 have hbu : ((u : Int) == (len : Int)) = dn := by
  rw [← hdn, Bool.eq_iff_iff]
  simp
  omega
 have hcl : (0 ≤ limit ∧ limit < (len : Int) ∧ limit = (u : Int)) ∨ (¬ (0 ≤ limit ∧ limit < (len : Int)) ∧ u = len) := by
  unfold usedO at hu
  by_cases h : 0 ≤ limit ∧ limit < (len : Int)
  ·rw [if_pos h] at hu; exact .inl ⟨h.1, h.2, by omega⟩
  ·rw [if_neg h] at hu; exact .inr ⟨h, hu.symm⟩
 clear hIS hdn hu
 obtain ⟨wa, hwa⟩ : ∃ x, x = ((w.alloc (.cells #[.slice a1 dur.length c1, .slice a2 ps.length c2] 25)).alloc (.cells #[.bool false, .int .i64 0, .slice none 0 0, .slice none 0 0] 39)).alloc (.cells #[.bool dn, .int .i64 u, .slice none 0 0, .slice none 0 0] 39) := ⟨_, rfl⟩
 have hka : Same w wa := by rw [hwa]; exact (((Kept.refl _ _).alloc _).alloc _).alloc _
 have hza : wa.heap.size = w.heap.size + 1 + 1 + 1 := by rw [hwa]; simp
 have b0 : Blk wa w.heap.size 25 [.slice a1 dur.length c1, .slice a2 ps.length c2] := by rw [hwa]; exact (Blk.newA w _ _ _ _).alloc _
 have b1 : Blk wa (w.heap.size + 1) 39 [.bool false, .int .i64 0, .slice none 0 0, .slice none 0 0] := by rw [hwa]; exact (Blk.newB w _ _ _ _).alloc _
 have b2 : Blk wa (w.heap.size + 1 + 1) 39 [.bool dn, .int .i64 u, .slice none 0 0, .slice none 0 0] := by
  rw [hwa]
  have h := Blk.newL ((w.alloc (.cells #[.slice a1 dur.length c1, .slice a2 ps.length c2] 25)).alloc (.cells #[.bool false, .int .i64 0, .slice none 0 0, .slice none 0 0] 39)) [.bool dn, .int .i64 u, .slice none 0 0, .slice none 0 0] 39
  simpa using h
 have HKA := hid hka
 have HB0 := hid b0
 have HB1 := hid b1
 have HB2 := hid b2
 have HZA := hid hza
 clear hka b0 b1 b2
 rcases hcl with ⟨q0, q1, rfl⟩ | ⟨q0, rfl⟩
 ·have q0b : 0 ≤ (u : Int) := q0
  go_enter Tryd.func17, Tryd.ntmps17
  go_wp2_with fail
  rw [← hwa]
  clear hwa
  refine (implValid_any _ _ dur ps _ (HV.out.same HKA.out)).mono ?_
  rintro e w1 ⟨⟨B, rfl, hB⟩, hk1⟩
  have HBV : Hid (B = true ↔ Valid dur.length (dataP ps)) := hB
  have HK1 := hid (HKA.out.trans hk1)
  have HB01 := hid (HB0.out.same hk1)
  have HB11 := hid (HB1.out.same hk1)
  have HB21 := hid (HB2.out.same hk1)
  have hz1 : w.heap.size + 1 + 1 < w1.heap.size := HB21.out.lt
  clear hk1 hB
  obtain ⟨g0, g1⟩ := HB01.out.all2
  cases B with
  | false =>
   have hno : ¬ Valid dur.length (dataP ps) := fun h => by have := HBV.out.2 h; cases this
   have HNO := hid hno
   clear hno
   go_wp2_with fail
   refine (cloneDisk_any _ _ dur ps _ HDL.out HNL.out HSP.out (HV.out.same HK1.out)).mono ?_
   rintro e w2 ⟨a, n, c, a', n', c', qs, rfl, hq, hf, ho, hk⟩
   have HIS2 := hid (HIS.out dur (dataP qs) (fun h => absurd h HNO.out) (fun _ => ⟨rfl, hq⟩))
   have HO2 := hid ho
   have HF2 : Hid (∀ b, footD (.slice a n c) (.slice a' n' c') qs b → w.heap.size + 1 + 1 < b) := fun b hb => by have := hf b hb; omega
   have HKW := hid (HK1.out.trans hk)
   have HB12 := hid (HB11.out.same hk)
   have HB22 := hid (HB21.out.same hk)
   clear hq hf ho hk g0 g1
   obtain ⟨y0, y1, y2, y3⟩ := HB22.out.all4
   have fy := HB22.out.frozen
   have ly := HB22.out.lt
   obtain ⟨z0, z1, z2, z3⟩ := HB12.out.all4
   have fz := HB12.out.frozen
   have lz := HB12.out.lt
   have HYF := (show Hid (Blk ((w2.setCell ⟨w.heap.size + 1 + 1, 2, none⟩ (.slice a n c)).setCell ⟨w.heap.size + 1 + 1, 3, none⟩ (.slice a' n' c')) (w.heap.size + 1 + 1) 39 [.bool dn, .int .i64 u, .slice a n c, .slice a' n' c']) from (HB22.out.stored 2 _).stored 3 _)
   have HS1 := (show Hid (Kept (fun b => b = w.heap.size + 1 + 1) w2 ((w2.setCell ⟨w.heap.size + 1 + 1, 2, none⟩ (.slice a n c)).setCell ⟨w.heap.size + 1 + 1, 3, none⟩ (.slice a' n' c'))) from Kept.setCell (R := fun b => b = w.heap.size + 1 + 1) (Kept.setCell (R := fun b => b = w.heap.size + 1 + 1) (Kept.refl _ _) (p := ⟨w.heap.size + 1 + 1, 2, none⟩) (.inr rfl) _) (p := ⟨w.heap.size + 1 + 1, 3, none⟩) (.inr rfl) _)
   have HZF := (show Hid (Blk ((w2.setCell ⟨w.heap.size + 1 + 1, 2, none⟩ (.slice a n c)).setCell ⟨w.heap.size + 1 + 1, 3, none⟩ (.slice a' n' c')) (w.heap.size + 1) 39 [.bool false, .int .i64 0, .slice none 0 0, .slice none 0 0]) from HB12.out.kept HS1.out (by intro e; omega))
   have HOF := (show Hid (OwnD 0 70 5 ((w2.setCell ⟨w.heap.size + 1 + 1, 2, none⟩ (.slice a n c)).setCell ⟨w.heap.size + 1 + 1, 3, none⟩ (.slice a' n' c')) (.slice a n c) (.slice a' n' c') dur qs) from HO2.out.kept HS1.out (fun b hb e => by have := HF2.out b hb; omega))
   have HKF := (show Hid (Same w ((w2.setCell ⟨w.heap.size + 1 + 1, 2, none⟩ (.slice a n c)).setCell ⟨w.heap.size + 1 + 1, 3, none⟩ (.slice a' n' c'))) from HKW.out.next HS1.out (fun i hi e => by omega))
   go_wp2
   have hbf := (((HZF.out.stored 0 (.bool dn)).stored 1 (.int .i64 u)).stored 2 (.slice a n c)).stored 3 (.slice a' n' c')
   obtain ⟨f0, f1, f2, f3⟩ := hbf.all4
   refine bodyPost_ret (v := .agg #[.bool dn, .int .i64 u, .slice a n c, .slice a' n' c']) (by simp [results, Tryd.results17, go_sem, f0, f1, f2, f3]) rfl ?_
   have q3 := HOF.out.kept (w' := ((((((w2.setCell ⟨w.heap.size + 1 + 1, 2, none⟩ (.slice a n c)).setCell ⟨w.heap.size + 1 + 1, 3, none⟩ (.slice a' n' c')).setCell ⟨w.heap.size + 1, 0, none⟩ (.bool dn)).setCell ⟨w.heap.size + 1, 1, none⟩ (.int .i64 u)).setCell ⟨w.heap.size + 1, 2, none⟩ (.slice a n c)).setCell ⟨w.heap.size + 1, 3, none⟩ (.slice a' n' c'))) (R := fun b => b = w.heap.size + 1) (by
    (iterate 4 refine Kept.setCell (R := fun b => b = w.heap.size + 1) ?_ (.inr rfl) _)
    exact Kept.refl _ _) (fun b hb e => by have := HF2.out b hb; omega)
   have q4 : Same w ((((((w2.setCell ⟨w.heap.size + 1 + 1, 2, none⟩ (.slice a n c)).setCell ⟨w.heap.size + 1 + 1, 3, none⟩ (.slice a' n' c')).setCell ⟨w.heap.size + 1, 0, none⟩ (.bool dn)).setCell ⟨w.heap.size + 1, 1, none⟩ (.int .i64 u)).setCell ⟨w.heap.size + 1, 2, none⟩ (.slice a n c)).setCell ⟨w.heap.size + 1, 3, none⟩ (.slice a' n' c')) := by
    (iterate 4 refine Kept.setCell ?_ (.inl (Nat.le_succ _)) _)
    exact HKF.out
   have q2 : ∀ b, footD (.slice a n c) (.slice a' n' c') qs b → w.heap.size ≤ b := fun b hb => by have := HF2.out b hb; omega
   first | exact ⟨a, n, c, a', n', c', dur, qs, rfl, HIS2.out, q2, q3, q4⟩ | exact ⟨a, n, c, a', n', c', rfl, dur, qs, HIS2.out, q2, q3, q4⟩
  | true =>
   have HYS : Hid (Valid dur.length (dataP ps)) := HBV.out.1 rfl
   go_wp2_with fail
   refine (openDisk_any _ _ dur ps _ (HV.out.same HK1.out) HYS.out).mono ?_
   rintro e w2 ⟨P, dv', pv', rfl, hp, ⟨hP, hdv, hpv⟩, hk⟩
   have HP2 := hid hp
   have HKW2 := hid (HK1.out.trans hk)
   have HB12 := hid (HB11.out.same hk)
   have HB22 := hid (HB21.out.same hk)
   have HPN : Hid (∀ b, dv'.ownBlock = some b → w.heap.size + 1 + 1 < b) := fun b hb => by have := hdv b hb; omega
   have HPV : Hid (∀ b, pv'.ownBlock = some b → w.heap.size + 1 + 1 < b) := fun b hb => by have := hpv b hb; omega
   have hP2 : w.heap.size + 1 + 1 < P := by omega
   have hz2 := hk.size
   clear hp hdv hpv hk g0 g1 hP
   go_wp2_with fail
   go_loopw [42] (fun i wr => ∃ (k : Nat) (pw : Value), k ≤ u ∧ i = .int .i64 k ∧ Hid (Plat wr P dv' pw (runD dur (dataP ps) ((datOpS os).take k)).1 (runD dur (dataP ps) ((datOpS os).take k)).2) ∧ Hid (∀ b, pw.ownBlock = some b → w.heap.size + 1 + 1 < b) ∧ Hid (Blk wr (w.heap.size + 1) 39 [.bool false, .int .i64 0, .slice none 0 0, .slice none 0 0]) ∧ Hid (Blk wr (w.heap.size + 1 + 1) 39 [.bool dn, .int .i64 u, .slice none 0 0, .slice none 0 0]) ∧ Hid (Same w wr)) (fun i _ => u - (intOf i).toNat)
   case atStart => exact ⟨0, pv', Nat.zero_le _, rfl, HP2, HPV, HB12, HB22, HKW2⟩
   case round =>
    obtain ⟨k, pw, hk, rfl, HPr, HPW, HB1r, HB2r, HKr⟩ := hrel
    have hvv := runD_valid HYS.out (datOpS os) k (by rw [HDO.out]; omega)
    have HVV := hid hvv
    have HVL : Hid (Valid (runD dur (dataP ps) ((datOpS os).take k)).1.length (runD dur (dataP ps) ((datOpS os).take k)).2) := by unfold Hid; rw [hvv.1]; exact hvv.2
    have hlz := HB2r.out.lt
    clear hvv
    by_cases hlt : k < u
    ·have hlp : k < os.length := by rw [HL.out]; omega
     have hki : (k : Int) < (u : Int) := by omega
     have hc : ∀ i, i < 3 → w.cell? ⟨bo, off + (k * 3 + i), none⟩ = (kOp.cells os[k])[i]? := fun i hi => by
      rcases HOS.out.row with ⟨hps, _⟩ | ⟨b, off', c', he, hc⟩
      ·rw [hps] at hlp; simp at hlp
      ·injection he with he1 he2 he3
       obtain ⟨rfl, rfl⟩ : b = bo ∧ off' = off := by injection he1 with he1; injection he1 with e1 e2; exact ⟨e1.symm, e2.symm⟩
       exact hc k i hlp hi
     have hrd : Rd .u8 w os[k].v os[k].bs := HOS.out.data _ (List.getElem_mem hlp)
     have hok : (datOpS os)[k]'(by rw [HDO.out]; omega) = os[k].dat := by simp [datOpS]
     obtain ⟨p, hp⟩ : ∃ p, os[k] = p := ⟨_, rfl⟩
     have d0 : wr.cell? ⟨bo, off + k * 3, none⟩ = some (.int .i64 p.kind) := HKr.out.cellOf (p := ⟨bo, off + k * 3, none⟩) (by have h := hc 0 (by decide); rw [hp] at h; exact h) id
     have d1 : wr.cell? ⟨bo, off + k * 3 + 1, none⟩ = some (.int .i64 p.sec) := HKr.out.cellOf (p := ⟨bo, off + k * 3 + 1, none⟩) (by have h := hc 1 (by decide); rw [← Nat.add_assoc, hp] at h; exact h) id
     have d2 : wr.cell? ⟨bo, off + k * 3 + 2, none⟩ = some p.v := HKr.out.cellOf (p := ⟨bo, off + k * 3 + 2, none⟩) (by have h := hc 2 (by decide); rw [← Nat.add_assoc, hp] at h; exact h) id
     rw [hp] at hrd hok
     clear hp hc
     obtain ⟨kd, sc, pz, ob⟩ := p
     dsimp only at hrd d0 d1 d2
     obtain ⟨av, cv, e1⟩ := hrd.form
     subst e1
     obtain ⟨nv, hnv⟩ : ∃ x, ob.length = x := ⟨_, rfl⟩
     rw [hnv] at hrd d2
     have HRB := (show Hid (Rd .u8 w (.slice av nv cv) ob) from hrd)
     have HST : Hid (runD dur (dataP ps) ((datOpS os).take (k + 1)) = doD (runD dur (dataP ps) ((datOpS os).take k)).1 (runD dur (dataP ps) ((datOpS os).take k)).2 (kd, sc, ob)) := by
      unfold Hid
      rw [runD_step (by rw [HDO.out]; omega), hok]
      rfl
     clear hrd hok hnv
     have hkal : Same wr (wr.alloc (.cells #[.int .i64 kd, .int .i64 sc, .slice av nv cv] 78)) := (Kept.refl _ _).alloc _
     have HKAL := hid hkal
     clear hkal
     go_wp2_with fail
     refine (doOp_any P dv' pw _ _ kd sc (.slice av nv cv) ob _ (HPr.out.same HKAL.out) HVL.out (HRB.out.same (HKr.out.trans HKAL.out)) (fun hb b hl => ?_)).mono ?_
     ·have h1 := rd_looks HRB.out hb b hl
      exact ⟨by omega, fun e => by have := HPN.out b e; omega, fun e => by have := HPW.out b e; omega⟩
     rintro e w3 ⟨rfl, ⟨pw2, hp2, hn2⟩, hk2⟩
     have H1 := hid hp2
     have H2 : Hid (∀ b, pw2.ownBlock = some b → w.heap.size + 1 + 1 < b) := fun b hb => by
      rcases hn2 b hb with h | h
      ·exact HPW.out b h
      ·simp only [World.size_alloc] at h; omega
     have HNR : Hid (∀ b, (b = P ∨ dv'.ownBlock = some b ∨ pw.ownBlock = some b) → w.heap.size + 1 + 1 < b) := fun b hb => by
      rcases hb with rfl | hb | hb
      ·exact hP2
      ·exact HPN.out b hb
      ·exact HPW.out b hb
     have H3 := hid ((HB1r.out.alloc _).kept hk2 (fun e => by have := HNR.out _ e; omega))
     have H4 := hid ((HB2r.out.alloc _).kept hk2 (fun e => by have := HNR.out _ e; omega))
     have H5 := (show Hid (Same w w3) from (HKr.out.trans HKAL.out).next hk2 (fun i hi e => by have := HNR.out i e; omega))
     clear hp2 hn2 hk2 d0 d1 d2
     go_wp2
     go_roundw
     case rel => exact ⟨k + 1, pw2, by omega, by go_num, by unfold Hid; rw [HST.out]; exact H1.out, H2, H3, H4, H5⟩
     case measure => simp [intOf]; omega
    ·have hku : k = u := by omega
     subst hku
     go_wp2_with fail
     refine (disk_any P dv' pw _ _ _ HPr.out HVL.out).mono ?_
     rintro e w4 ⟨a, n, c, a', n', c', qs, rfl, hq, hf, ho, hk⟩
     have HIS2 := hid (HIS.out (runD dur (dataP ps) ((datOpS os).take k)).1 (dataP qs) (fun _ => by rw [hq]) (fun h => absurd HYS.out h))
     have HO2 := hid ho
     have HF2 : Hid (∀ b, footD (.slice a n c) (.slice a' n' c') qs b → w.heap.size + 1 + 1 < b) := fun b hb => by have := hf b hb; omega
     have HKW := hid (HKr.out.trans hk)
     have HB12 := hid (HB1r.out.same hk)
     have HB22 := hid (HB2r.out.same hk)
     clear hq hf ho hk
     obtain ⟨y0, y1, y2, y3⟩ := HB22.out.all4
     have fy := HB22.out.frozen
     have ly := HB22.out.lt
     obtain ⟨z0, z1, z2, z3⟩ := HB12.out.all4
     have fz := HB12.out.frozen
     have lz := HB12.out.lt
     have HYF := (show Hid (Blk ((w4.setCell ⟨w.heap.size + 1 + 1, 2, none⟩ (.slice a n c)).setCell ⟨w.heap.size + 1 + 1, 3, none⟩ (.slice a' n' c')) (w.heap.size + 1 + 1) 39 [.bool dn, .int .i64 k, .slice a n c, .slice a' n' c']) from (HB22.out.stored 2 _).stored 3 _)
     have HS1 := (show Hid (Kept (fun b => b = w.heap.size + 1 + 1) w4 ((w4.setCell ⟨w.heap.size + 1 + 1, 2, none⟩ (.slice a n c)).setCell ⟨w.heap.size + 1 + 1, 3, none⟩ (.slice a' n' c'))) from Kept.setCell (R := fun b => b = w.heap.size + 1 + 1) (Kept.setCell (R := fun b => b = w.heap.size + 1 + 1) (Kept.refl _ _) (p := ⟨w.heap.size + 1 + 1, 2, none⟩) (.inr rfl) _) (p := ⟨w.heap.size + 1 + 1, 3, none⟩) (.inr rfl) _)
     have HZF := (show Hid (Blk ((w4.setCell ⟨w.heap.size + 1 + 1, 2, none⟩ (.slice a n c)).setCell ⟨w.heap.size + 1 + 1, 3, none⟩ (.slice a' n' c')) (w.heap.size + 1) 39 [.bool false, .int .i64 0, .slice none 0 0, .slice none 0 0]) from HB12.out.kept HS1.out (by intro e; omega))
     have HOF := (show Hid (OwnD 0 70 5 ((w4.setCell ⟨w.heap.size + 1 + 1, 2, none⟩ (.slice a n c)).setCell ⟨w.heap.size + 1 + 1, 3, none⟩ (.slice a' n' c')) (.slice a n c) (.slice a' n' c') (runD dur (dataP ps) ((datOpS os).take k)).1 qs) from HO2.out.kept HS1.out (fun b hb e => by have := HF2.out b hb; omega))
     have HKF := (show Hid (Same w ((w4.setCell ⟨w.heap.size + 1 + 1, 2, none⟩ (.slice a n c)).setCell ⟨w.heap.size + 1 + 1, 3, none⟩ (.slice a' n' c'))) from HKW.out.next HS1.out (fun i hi e => by omega))
     go_wp2
     have hbf := (((HZF.out.stored 0 (.bool dn)).stored 1 (.int .i64 k)).stored 2 (.slice a n c)).stored 3 (.slice a' n' c')
     obtain ⟨f0, f1, f2, f3⟩ := hbf.all4
     refine bodyPost_ret (v := .agg #[.bool dn, .int .i64 k, .slice a n c, .slice a' n' c']) (by simp [results, Tryd.results17, go_sem, f0, f1, f2, f3]) rfl ?_
     have q3 := HOF.out.kept (w' := ((((((w4.setCell ⟨w.heap.size + 1 + 1, 2, none⟩ (.slice a n c)).setCell ⟨w.heap.size + 1 + 1, 3, none⟩ (.slice a' n' c')).setCell ⟨w.heap.size + 1, 0, none⟩ (.bool dn)).setCell ⟨w.heap.size + 1, 1, none⟩ (.int .i64 k)).setCell ⟨w.heap.size + 1, 2, none⟩ (.slice a n c)).setCell ⟨w.heap.size + 1, 3, none⟩ (.slice a' n' c'))) (R := fun b => b = w.heap.size + 1) (by
      (iterate 4 refine Kept.setCell (R := fun b => b = w.heap.size + 1) ?_ (.inr rfl) _)
      exact Kept.refl _ _) (fun b hb e => by have := HF2.out b hb; omega)
     have q4 : Same w ((((((w4.setCell ⟨w.heap.size + 1 + 1, 2, none⟩ (.slice a n c)).setCell ⟨w.heap.size + 1 + 1, 3, none⟩ (.slice a' n' c')).setCell ⟨w.heap.size + 1, 0, none⟩ (.bool dn)).setCell ⟨w.heap.size + 1, 1, none⟩ (.int .i64 k)).setCell ⟨w.heap.size + 1, 2, none⟩ (.slice a n c)).setCell ⟨w.heap.size + 1, 3, none⟩ (.slice a' n' c')) := by
      (iterate 4 refine Kept.setCell ?_ (.inl (Nat.le_succ _)) _)
      exact HKF.out
     have q2 : ∀ b, footD (.slice a n c) (.slice a' n' c') qs b → w.heap.size ≤ b := fun b hb => by have := HF2.out b hb; omega
     first | exact ⟨a, n, c, a', n', c', (runD dur (dataP ps) ((datOpS os).take k)).1, qs, rfl, HIS2.out, q2, q3, q4⟩ | exact ⟨a, n, c, a', n', c', rfl, (runD dur (dataP ps) ((datOpS os).take k)).1, qs, HIS2.out, q2, q3, q4⟩
 ·obtain rfl : dn = true := by rw [← hbu]; simp
  by_cases q1 : 0 ≤ limit
  ·have q2 : ¬ limit < (u : Int) := by omega
   go_enter Tryd.func17, Tryd.ntmps17
   go_wp2_with fail
   rw [← hwa]
   clear hwa
   refine (implValid_any _ _ dur ps _ (HV.out.same HKA.out)).mono ?_
   rintro e w1 ⟨⟨B, rfl, hB⟩, hk1⟩
   have HBV : Hid (B = true ↔ Valid dur.length (dataP ps)) := hB
   have HK1 := hid (HKA.out.trans hk1)
   have HB01 := hid (HB0.out.same hk1)
   have HB11 := hid (HB1.out.same hk1)
   have HB21 := hid (HB2.out.same hk1)
   have hz1 : w.heap.size + 1 + 1 < w1.heap.size := HB21.out.lt
   clear hk1 hB
   obtain ⟨g0, g1⟩ := HB01.out.all2
   cases B with
   | false =>
    have hno : ¬ Valid dur.length (dataP ps) := fun h => by have := HBV.out.2 h; cases this
    have HNO := hid hno
    clear hno
    go_wp2_with fail
    refine (cloneDisk_any _ _ dur ps _ HDL.out HNL.out HSP.out (HV.out.same HK1.out)).mono ?_
    rintro e w2 ⟨a, n, c, a', n', c', qs, rfl, hq, hf, ho, hk⟩
    have HIS2 := hid (HIS.out dur (dataP qs) (fun h => absurd h HNO.out) (fun _ => ⟨rfl, hq⟩))
    have HO2 := hid ho
    have HF2 : Hid (∀ b, footD (.slice a n c) (.slice a' n' c') qs b → w.heap.size + 1 + 1 < b) := fun b hb => by have := hf b hb; omega
    have HKW := hid (HK1.out.trans hk)
    have HB12 := hid (HB11.out.same hk)
    have HB22 := hid (HB21.out.same hk)
    clear hq hf ho hk g0 g1
    obtain ⟨y0, y1, y2, y3⟩ := HB22.out.all4
    have fy := HB22.out.frozen
    have ly := HB22.out.lt
    obtain ⟨z0, z1, z2, z3⟩ := HB12.out.all4
    have fz := HB12.out.frozen
    have lz := HB12.out.lt
    have HYF := (show Hid (Blk ((w2.setCell ⟨w.heap.size + 1 + 1, 2, none⟩ (.slice a n c)).setCell ⟨w.heap.size + 1 + 1, 3, none⟩ (.slice a' n' c')) (w.heap.size + 1 + 1) 39 [.bool true, .int .i64 u, .slice a n c, .slice a' n' c']) from (HB22.out.stored 2 _).stored 3 _)
    have HS1 := (show Hid (Kept (fun b => b = w.heap.size + 1 + 1) w2 ((w2.setCell ⟨w.heap.size + 1 + 1, 2, none⟩ (.slice a n c)).setCell ⟨w.heap.size + 1 + 1, 3, none⟩ (.slice a' n' c'))) from Kept.setCell (R := fun b => b = w.heap.size + 1 + 1) (Kept.setCell (R := fun b => b = w.heap.size + 1 + 1) (Kept.refl _ _) (p := ⟨w.heap.size + 1 + 1, 2, none⟩) (.inr rfl) _) (p := ⟨w.heap.size + 1 + 1, 3, none⟩) (.inr rfl) _)
    have HZF := (show Hid (Blk ((w2.setCell ⟨w.heap.size + 1 + 1, 2, none⟩ (.slice a n c)).setCell ⟨w.heap.size + 1 + 1, 3, none⟩ (.slice a' n' c')) (w.heap.size + 1) 39 [.bool false, .int .i64 0, .slice none 0 0, .slice none 0 0]) from HB12.out.kept HS1.out (by intro e; omega))
    have HOF := (show Hid (OwnD 0 70 5 ((w2.setCell ⟨w.heap.size + 1 + 1, 2, none⟩ (.slice a n c)).setCell ⟨w.heap.size + 1 + 1, 3, none⟩ (.slice a' n' c')) (.slice a n c) (.slice a' n' c') dur qs) from HO2.out.kept HS1.out (fun b hb e => by have := HF2.out b hb; omega))
    have HKF := (show Hid (Same w ((w2.setCell ⟨w.heap.size + 1 + 1, 2, none⟩ (.slice a n c)).setCell ⟨w.heap.size + 1 + 1, 3, none⟩ (.slice a' n' c'))) from HKW.out.next HS1.out (fun i hi e => by omega))
    go_wp2
    have hbf := (((HZF.out.stored 0 (.bool true)).stored 1 (.int .i64 u)).stored 2 (.slice a n c)).stored 3 (.slice a' n' c')
    obtain ⟨f0, f1, f2, f3⟩ := hbf.all4
    refine bodyPost_ret (v := .agg #[.bool true, .int .i64 u, .slice a n c, .slice a' n' c']) (by simp [results, Tryd.results17, go_sem, f0, f1, f2, f3]) rfl ?_
    have q3 := HOF.out.kept (w' := ((((((w2.setCell ⟨w.heap.size + 1 + 1, 2, none⟩ (.slice a n c)).setCell ⟨w.heap.size + 1 + 1, 3, none⟩ (.slice a' n' c')).setCell ⟨w.heap.size + 1, 0, none⟩ (.bool true)).setCell ⟨w.heap.size + 1, 1, none⟩ (.int .i64 u)).setCell ⟨w.heap.size + 1, 2, none⟩ (.slice a n c)).setCell ⟨w.heap.size + 1, 3, none⟩ (.slice a' n' c'))) (R := fun b => b = w.heap.size + 1) (by
     (iterate 4 refine Kept.setCell (R := fun b => b = w.heap.size + 1) ?_ (.inr rfl) _)
     exact Kept.refl _ _) (fun b hb e => by have := HF2.out b hb; omega)
    have q4 : Same w ((((((w2.setCell ⟨w.heap.size + 1 + 1, 2, none⟩ (.slice a n c)).setCell ⟨w.heap.size + 1 + 1, 3, none⟩ (.slice a' n' c')).setCell ⟨w.heap.size + 1, 0, none⟩ (.bool true)).setCell ⟨w.heap.size + 1, 1, none⟩ (.int .i64 u)).setCell ⟨w.heap.size + 1, 2, none⟩ (.slice a n c)).setCell ⟨w.heap.size + 1, 3, none⟩ (.slice a' n' c')) := by
     (iterate 4 refine Kept.setCell ?_ (.inl (Nat.le_succ _)) _)
     exact HKF.out
    have q2 : ∀ b, footD (.slice a n c) (.slice a' n' c') qs b → w.heap.size ≤ b := fun b hb => by have := HF2.out b hb; omega
    first | exact ⟨a, n, c, a', n', c', dur, qs, rfl, HIS2.out, q2, q3, q4⟩ | exact ⟨a, n, c, a', n', c', rfl, dur, qs, HIS2.out, q2, q3, q4⟩
   | true =>
    have HYS : Hid (Valid dur.length (dataP ps)) := HBV.out.1 rfl
    go_wp2_with fail
    refine (openDisk_any _ _ dur ps _ (HV.out.same HK1.out) HYS.out).mono ?_
    rintro e w2 ⟨P, dv', pv', rfl, hp, ⟨hP, hdv, hpv⟩, hk⟩
    have HP2 := hid hp
    have HKW2 := hid (HK1.out.trans hk)
    have HB12 := hid (HB11.out.same hk)
    have HB22 := hid (HB21.out.same hk)
    have HPN : Hid (∀ b, dv'.ownBlock = some b → w.heap.size + 1 + 1 < b) := fun b hb => by have := hdv b hb; omega
    have HPV : Hid (∀ b, pv'.ownBlock = some b → w.heap.size + 1 + 1 < b) := fun b hb => by have := hpv b hb; omega
    have hP2 : w.heap.size + 1 + 1 < P := by omega
    have hz2 := hk.size
    clear hp hdv hpv hk g0 g1 hP
    go_wp2_with fail
    go_loopw [42] (fun i wr => ∃ (k : Nat) (pw : Value), k ≤ u ∧ i = .int .i64 k ∧ Hid (Plat wr P dv' pw (runD dur (dataP ps) ((datOpS os).take k)).1 (runD dur (dataP ps) ((datOpS os).take k)).2) ∧ Hid (∀ b, pw.ownBlock = some b → w.heap.size + 1 + 1 < b) ∧ Hid (Blk wr (w.heap.size + 1) 39 [.bool false, .int .i64 0, .slice none 0 0, .slice none 0 0]) ∧ Hid (Blk wr (w.heap.size + 1 + 1) 39 [.bool true, .int .i64 u, .slice none 0 0, .slice none 0 0]) ∧ Hid (Same w wr)) (fun i _ => u - (intOf i).toNat)
    case atStart => exact ⟨0, pv', Nat.zero_le _, rfl, HP2, HPV, HB12, HB22, HKW2⟩
    case round =>
     obtain ⟨k, pw, hk, rfl, HPr, HPW, HB1r, HB2r, HKr⟩ := hrel
     have hvv := runD_valid HYS.out (datOpS os) k (by rw [HDO.out]; omega)
     have HVV := hid hvv
     have HVL : Hid (Valid (runD dur (dataP ps) ((datOpS os).take k)).1.length (runD dur (dataP ps) ((datOpS os).take k)).2) := by unfold Hid; rw [hvv.1]; exact hvv.2
     have hlz := HB2r.out.lt
     clear hvv
     by_cases hlt : k < u
     ·have hlp : k < os.length := by rw [HL.out]; omega
      have hki : (k : Int) < (u : Int) := by omega
      have hc : ∀ i, i < 3 → w.cell? ⟨bo, off + (k * 3 + i), none⟩ = (kOp.cells os[k])[i]? := fun i hi => by
       rcases HOS.out.row with ⟨hps, _⟩ | ⟨b, off', c', he, hc⟩
       ·rw [hps] at hlp; simp at hlp
       ·injection he with he1 he2 he3
        obtain ⟨rfl, rfl⟩ : b = bo ∧ off' = off := by injection he1 with he1; injection he1 with e1 e2; exact ⟨e1.symm, e2.symm⟩
        exact hc k i hlp hi
      have hrd : Rd .u8 w os[k].v os[k].bs := HOS.out.data _ (List.getElem_mem hlp)
      have hok : (datOpS os)[k]'(by rw [HDO.out]; omega) = os[k].dat := by simp [datOpS]
      obtain ⟨p, hp⟩ : ∃ p, os[k] = p := ⟨_, rfl⟩
      have d0 : wr.cell? ⟨bo, off + k * 3, none⟩ = some (.int .i64 p.kind) := HKr.out.cellOf (p := ⟨bo, off + k * 3, none⟩) (by have h := hc 0 (by decide); rw [hp] at h; exact h) id
      have d1 : wr.cell? ⟨bo, off + k * 3 + 1, none⟩ = some (.int .i64 p.sec) := HKr.out.cellOf (p := ⟨bo, off + k * 3 + 1, none⟩) (by have h := hc 1 (by decide); rw [← Nat.add_assoc, hp] at h; exact h) id
      have d2 : wr.cell? ⟨bo, off + k * 3 + 2, none⟩ = some p.v := HKr.out.cellOf (p := ⟨bo, off + k * 3 + 2, none⟩) (by have h := hc 2 (by decide); rw [← Nat.add_assoc, hp] at h; exact h) id
      rw [hp] at hrd hok
      clear hp hc
      obtain ⟨kd, sc, pz, ob⟩ := p
      dsimp only at hrd d0 d1 d2
      obtain ⟨av, cv, e1⟩ := hrd.form
      subst e1
      obtain ⟨nv, hnv⟩ : ∃ x, ob.length = x := ⟨_, rfl⟩
      rw [hnv] at hrd d2
      have HRB := (show Hid (Rd .u8 w (.slice av nv cv) ob) from hrd)
      have HST : Hid (runD dur (dataP ps) ((datOpS os).take (k + 1)) = doD (runD dur (dataP ps) ((datOpS os).take k)).1 (runD dur (dataP ps) ((datOpS os).take k)).2 (kd, sc, ob)) := by
       unfold Hid
       rw [runD_step (by rw [HDO.out]; omega), hok]
       rfl
      clear hrd hok hnv
      have hkal : Same wr (wr.alloc (.cells #[.int .i64 kd, .int .i64 sc, .slice av nv cv] 78)) := (Kept.refl _ _).alloc _
      have HKAL := hid hkal
      clear hkal
      go_wp2_with fail
      refine (doOp_any P dv' pw _ _ kd sc (.slice av nv cv) ob _ (HPr.out.same HKAL.out) HVL.out (HRB.out.same (HKr.out.trans HKAL.out)) (fun hb b hl => ?_)).mono ?_
      ·have h1 := rd_looks HRB.out hb b hl
       exact ⟨by omega, fun e => by have := HPN.out b e; omega, fun e => by have := HPW.out b e; omega⟩
      rintro e w3 ⟨rfl, ⟨pw2, hp2, hn2⟩, hk2⟩
      have H1 := hid hp2
      have H2 : Hid (∀ b, pw2.ownBlock = some b → w.heap.size + 1 + 1 < b) := fun b hb => by
       rcases hn2 b hb with h | h
       ·exact HPW.out b h
       ·simp only [World.size_alloc] at h; omega
      have HNR : Hid (∀ b, (b = P ∨ dv'.ownBlock = some b ∨ pw.ownBlock = some b) → w.heap.size + 1 + 1 < b) := fun b hb => by
       rcases hb with rfl | hb | hb
       ·exact hP2
       ·exact HPN.out b hb
       ·exact HPW.out b hb
      have H3 := hid ((HB1r.out.alloc _).kept hk2 (fun e => by have := HNR.out _ e; omega))
      have H4 := hid ((HB2r.out.alloc _).kept hk2 (fun e => by have := HNR.out _ e; omega))
      have H5 := (show Hid (Same w w3) from (HKr.out.trans HKAL.out).next hk2 (fun i hi e => by have := HNR.out i e; omega))
      clear hp2 hn2 hk2 d0 d1 d2
      go_wp2
      go_roundw
      case rel => exact ⟨k + 1, pw2, by omega, by go_num, by unfold Hid; rw [HST.out]; exact H1.out, H2, H3, H4, H5⟩
      case measure => simp [intOf]; omega
     ·have hku : k = u := by omega
      subst hku
      go_wp2_with fail
      refine (disk_any P dv' pw _ _ _ HPr.out HVL.out).mono ?_
      rintro e w4 ⟨a, n, c, a', n', c', qs, rfl, hq, hf, ho, hk⟩
      have HIS2 := hid (HIS.out (runD dur (dataP ps) ((datOpS os).take k)).1 (dataP qs) (fun _ => by rw [hq]) (fun h => absurd HYS.out h))
      have HO2 := hid ho
      have HF2 : Hid (∀ b, footD (.slice a n c) (.slice a' n' c') qs b → w.heap.size + 1 + 1 < b) := fun b hb => by have := hf b hb; omega
      have HKW := hid (HKr.out.trans hk)
      have HB12 := hid (HB1r.out.same hk)
      have HB22 := hid (HB2r.out.same hk)
      clear hq hf ho hk
      obtain ⟨y0, y1, y2, y3⟩ := HB22.out.all4
      have fy := HB22.out.frozen
      have ly := HB22.out.lt
      obtain ⟨z0, z1, z2, z3⟩ := HB12.out.all4
      have fz := HB12.out.frozen
      have lz := HB12.out.lt
      have HYF := (show Hid (Blk ((w4.setCell ⟨w.heap.size + 1 + 1, 2, none⟩ (.slice a n c)).setCell ⟨w.heap.size + 1 + 1, 3, none⟩ (.slice a' n' c')) (w.heap.size + 1 + 1) 39 [.bool true, .int .i64 k, .slice a n c, .slice a' n' c']) from (HB22.out.stored 2 _).stored 3 _)
      have HS1 := (show Hid (Kept (fun b => b = w.heap.size + 1 + 1) w4 ((w4.setCell ⟨w.heap.size + 1 + 1, 2, none⟩ (.slice a n c)).setCell ⟨w.heap.size + 1 + 1, 3, none⟩ (.slice a' n' c'))) from Kept.setCell (R := fun b => b = w.heap.size + 1 + 1) (Kept.setCell (R := fun b => b = w.heap.size + 1 + 1) (Kept.refl _ _) (p := ⟨w.heap.size + 1 + 1, 2, none⟩) (.inr rfl) _) (p := ⟨w.heap.size + 1 + 1, 3, none⟩) (.inr rfl) _)
      have HZF := (show Hid (Blk ((w4.setCell ⟨w.heap.size + 1 + 1, 2, none⟩ (.slice a n c)).setCell ⟨w.heap.size + 1 + 1, 3, none⟩ (.slice a' n' c')) (w.heap.size + 1) 39 [.bool false, .int .i64 0, .slice none 0 0, .slice none 0 0]) from HB12.out.kept HS1.out (by intro e; omega))
      have HOF := (show Hid (OwnD 0 70 5 ((w4.setCell ⟨w.heap.size + 1 + 1, 2, none⟩ (.slice a n c)).setCell ⟨w.heap.size + 1 + 1, 3, none⟩ (.slice a' n' c')) (.slice a n c) (.slice a' n' c') (runD dur (dataP ps) ((datOpS os).take k)).1 qs) from HO2.out.kept HS1.out (fun b hb e => by have := HF2.out b hb; omega))
      have HKF := (show Hid (Same w ((w4.setCell ⟨w.heap.size + 1 + 1, 2, none⟩ (.slice a n c)).setCell ⟨w.heap.size + 1 + 1, 3, none⟩ (.slice a' n' c'))) from HKW.out.next HS1.out (fun i hi e => by omega))
      go_wp2
      have hbf := (((HZF.out.stored 0 (.bool true)).stored 1 (.int .i64 k)).stored 2 (.slice a n c)).stored 3 (.slice a' n' c')
      obtain ⟨f0, f1, f2, f3⟩ := hbf.all4
      refine bodyPost_ret (v := .agg #[.bool true, .int .i64 k, .slice a n c, .slice a' n' c']) (by simp [results, Tryd.results17, go_sem, f0, f1, f2, f3]) rfl ?_
      have q3 := HOF.out.kept (w' := ((((((w4.setCell ⟨w.heap.size + 1 + 1, 2, none⟩ (.slice a n c)).setCell ⟨w.heap.size + 1 + 1, 3, none⟩ (.slice a' n' c')).setCell ⟨w.heap.size + 1, 0, none⟩ (.bool true)).setCell ⟨w.heap.size + 1, 1, none⟩ (.int .i64 k)).setCell ⟨w.heap.size + 1, 2, none⟩ (.slice a n c)).setCell ⟨w.heap.size + 1, 3, none⟩ (.slice a' n' c'))) (R := fun b => b = w.heap.size + 1) (by
       (iterate 4 refine Kept.setCell (R := fun b => b = w.heap.size + 1) ?_ (.inr rfl) _)
       exact Kept.refl _ _) (fun b hb e => by have := HF2.out b hb; omega)
      have q4 : Same w ((((((w4.setCell ⟨w.heap.size + 1 + 1, 2, none⟩ (.slice a n c)).setCell ⟨w.heap.size + 1 + 1, 3, none⟩ (.slice a' n' c')).setCell ⟨w.heap.size + 1, 0, none⟩ (.bool true)).setCell ⟨w.heap.size + 1, 1, none⟩ (.int .i64 k)).setCell ⟨w.heap.size + 1, 2, none⟩ (.slice a n c)).setCell ⟨w.heap.size + 1, 3, none⟩ (.slice a' n' c')) := by
       (iterate 4 refine Kept.setCell ?_ (.inl (Nat.le_succ _)) _)
       exact HKF.out
      have q2 : ∀ b, footD (.slice a n c) (.slice a' n' c') qs b → w.heap.size ≤ b := fun b hb => by have := HF2.out b hb; omega
      first | exact ⟨a, n, c, a', n', c', (runD dur (dataP ps) ((datOpS os).take k)).1, qs, rfl, HIS2.out, q2, q3, q4⟩ | exact ⟨a, n, c, a', n', c', rfl, (runD dur (dataP ps) ((datOpS os).take k)).1, qs, HIS2.out, q2, q3, q4⟩
  ·go_enter Tryd.func17, Tryd.ntmps17
   go_wp2_with fail
   rw [← hwa]
   clear hwa
   refine (implValid_any _ _ dur ps _ (HV.out.same HKA.out)).mono ?_
   rintro e w1 ⟨⟨B, rfl, hB⟩, hk1⟩
   have HBV : Hid (B = true ↔ Valid dur.length (dataP ps)) := hB
   have HK1 := hid (HKA.out.trans hk1)
   have HB01 := hid (HB0.out.same hk1)
   have HB11 := hid (HB1.out.same hk1)
   have HB21 := hid (HB2.out.same hk1)
   have hz1 : w.heap.size + 1 + 1 < w1.heap.size := HB21.out.lt
   clear hk1 hB
   obtain ⟨g0, g1⟩ := HB01.out.all2
   cases B with
   | false =>
    have hno : ¬ Valid dur.length (dataP ps) := fun h => by have := HBV.out.2 h; cases this
    have HNO := hid hno
    clear hno
    go_wp2_with fail
    refine (cloneDisk_any _ _ dur ps _ HDL.out HNL.out HSP.out (HV.out.same HK1.out)).mono ?_
    rintro e w2 ⟨a, n, c, a', n', c', qs, rfl, hq, hf, ho, hk⟩
    have HIS2 := hid (HIS.out dur (dataP qs) (fun h => absurd h HNO.out) (fun _ => ⟨rfl, hq⟩))
    have HO2 := hid ho
    have HF2 : Hid (∀ b, footD (.slice a n c) (.slice a' n' c') qs b → w.heap.size + 1 + 1 < b) := fun b hb => by have := hf b hb; omega
    have HKW := hid (HK1.out.trans hk)
    have HB12 := hid (HB11.out.same hk)
    have HB22 := hid (HB21.out.same hk)
    clear hq hf ho hk g0 g1
    obtain ⟨y0, y1, y2, y3⟩ := HB22.out.all4
    have fy := HB22.out.frozen
    have ly := HB22.out.lt
    obtain ⟨z0, z1, z2, z3⟩ := HB12.out.all4
    have fz := HB12.out.frozen
    have lz := HB12.out.lt
    have HYF := (show Hid (Blk ((w2.setCell ⟨w.heap.size + 1 + 1, 2, none⟩ (.slice a n c)).setCell ⟨w.heap.size + 1 + 1, 3, none⟩ (.slice a' n' c')) (w.heap.size + 1 + 1) 39 [.bool true, .int .i64 u, .slice a n c, .slice a' n' c']) from (HB22.out.stored 2 _).stored 3 _)
    have HS1 := (show Hid (Kept (fun b => b = w.heap.size + 1 + 1) w2 ((w2.setCell ⟨w.heap.size + 1 + 1, 2, none⟩ (.slice a n c)).setCell ⟨w.heap.size + 1 + 1, 3, none⟩ (.slice a' n' c'))) from Kept.setCell (R := fun b => b = w.heap.size + 1 + 1) (Kept.setCell (R := fun b => b = w.heap.size + 1 + 1) (Kept.refl _ _) (p := ⟨w.heap.size + 1 + 1, 2, none⟩) (.inr rfl) _) (p := ⟨w.heap.size + 1 + 1, 3, none⟩) (.inr rfl) _)
    have HZF := (show Hid (Blk ((w2.setCell ⟨w.heap.size + 1 + 1, 2, none⟩ (.slice a n c)).setCell ⟨w.heap.size + 1 + 1, 3, none⟩ (.slice a' n' c')) (w.heap.size + 1) 39 [.bool false, .int .i64 0, .slice none 0 0, .slice none 0 0]) from HB12.out.kept HS1.out (by intro e; omega))
    have HOF := (show Hid (OwnD 0 70 5 ((w2.setCell ⟨w.heap.size + 1 + 1, 2, none⟩ (.slice a n c)).setCell ⟨w.heap.size + 1 + 1, 3, none⟩ (.slice a' n' c')) (.slice a n c) (.slice a' n' c') dur qs) from HO2.out.kept HS1.out (fun b hb e => by have := HF2.out b hb; omega))
    have HKF := (show Hid (Same w ((w2.setCell ⟨w.heap.size + 1 + 1, 2, none⟩ (.slice a n c)).setCell ⟨w.heap.size + 1 + 1, 3, none⟩ (.slice a' n' c'))) from HKW.out.next HS1.out (fun i hi e => by omega))
    go_wp2
    have hbf := (((HZF.out.stored 0 (.bool true)).stored 1 (.int .i64 u)).stored 2 (.slice a n c)).stored 3 (.slice a' n' c')
    obtain ⟨f0, f1, f2, f3⟩ := hbf.all4
    refine bodyPost_ret (v := .agg #[.bool true, .int .i64 u, .slice a n c, .slice a' n' c']) (by simp [results, Tryd.results17, go_sem, f0, f1, f2, f3]) rfl ?_
    have q3 := HOF.out.kept (w' := ((((((w2.setCell ⟨w.heap.size + 1 + 1, 2, none⟩ (.slice a n c)).setCell ⟨w.heap.size + 1 + 1, 3, none⟩ (.slice a' n' c')).setCell ⟨w.heap.size + 1, 0, none⟩ (.bool true)).setCell ⟨w.heap.size + 1, 1, none⟩ (.int .i64 u)).setCell ⟨w.heap.size + 1, 2, none⟩ (.slice a n c)).setCell ⟨w.heap.size + 1, 3, none⟩ (.slice a' n' c'))) (R := fun b => b = w.heap.size + 1) (by
     (iterate 4 refine Kept.setCell (R := fun b => b = w.heap.size + 1) ?_ (.inr rfl) _)
     exact Kept.refl _ _) (fun b hb e => by have := HF2.out b hb; omega)
    have q4 : Same w ((((((w2.setCell ⟨w.heap.size + 1 + 1, 2, none⟩ (.slice a n c)).setCell ⟨w.heap.size + 1 + 1, 3, none⟩ (.slice a' n' c')).setCell ⟨w.heap.size + 1, 0, none⟩ (.bool true)).setCell ⟨w.heap.size + 1, 1, none⟩ (.int .i64 u)).setCell ⟨w.heap.size + 1, 2, none⟩ (.slice a n c)).setCell ⟨w.heap.size + 1, 3, none⟩ (.slice a' n' c')) := by
     (iterate 4 refine Kept.setCell ?_ (.inl (Nat.le_succ _)) _)
     exact HKF.out
    have q2 : ∀ b, footD (.slice a n c) (.slice a' n' c') qs b → w.heap.size ≤ b := fun b hb => by have := HF2.out b hb; omega
    first | exact ⟨a, n, c, a', n', c', dur, qs, rfl, HIS2.out, q2, q3, q4⟩ | exact ⟨a, n, c, a', n', c', rfl, dur, qs, HIS2.out, q2, q3, q4⟩
   | true =>
    have HYS : Hid (Valid dur.length (dataP ps)) := HBV.out.1 rfl
    go_wp2_with fail
    refine (openDisk_any _ _ dur ps _ (HV.out.same HK1.out) HYS.out).mono ?_
    rintro e w2 ⟨P, dv', pv', rfl, hp, ⟨hP, hdv, hpv⟩, hk⟩
    have HP2 := hid hp
    have HKW2 := hid (HK1.out.trans hk)
    have HB12 := hid (HB11.out.same hk)
    have HB22 := hid (HB21.out.same hk)
    have HPN : Hid (∀ b, dv'.ownBlock = some b → w.heap.size + 1 + 1 < b) := fun b hb => by have := hdv b hb; omega
    have HPV : Hid (∀ b, pv'.ownBlock = some b → w.heap.size + 1 + 1 < b) := fun b hb => by have := hpv b hb; omega
    have hP2 : w.heap.size + 1 + 1 < P := by omega
    have hz2 := hk.size
    clear hp hdv hpv hk g0 g1 hP
    go_wp2_with fail
    go_loopw [42] (fun i wr => ∃ (k : Nat) (pw : Value), k ≤ u ∧ i = .int .i64 k ∧ Hid (Plat wr P dv' pw (runD dur (dataP ps) ((datOpS os).take k)).1 (runD dur (dataP ps) ((datOpS os).take k)).2) ∧ Hid (∀ b, pw.ownBlock = some b → w.heap.size + 1 + 1 < b) ∧ Hid (Blk wr (w.heap.size + 1) 39 [.bool false, .int .i64 0, .slice none 0 0, .slice none 0 0]) ∧ Hid (Blk wr (w.heap.size + 1 + 1) 39 [.bool true, .int .i64 u, .slice none 0 0, .slice none 0 0]) ∧ Hid (Same w wr)) (fun i _ => u - (intOf i).toNat)
    case atStart => exact ⟨0, pv', Nat.zero_le _, rfl, HP2, HPV, HB12, HB22, HKW2⟩
    case round =>
     obtain ⟨k, pw, hk, rfl, HPr, HPW, HB1r, HB2r, HKr⟩ := hrel
     have hvv := runD_valid HYS.out (datOpS os) k (by rw [HDO.out]; omega)
     have HVV := hid hvv
     have HVL : Hid (Valid (runD dur (dataP ps) ((datOpS os).take k)).1.length (runD dur (dataP ps) ((datOpS os).take k)).2) := by unfold Hid; rw [hvv.1]; exact hvv.2
     have hlz := HB2r.out.lt
     clear hvv
     by_cases hlt : k < u
     ·have hlp : k < os.length := by rw [HL.out]; omega
      have hki : (k : Int) < (u : Int) := by omega
      have hc : ∀ i, i < 3 → w.cell? ⟨bo, off + (k * 3 + i), none⟩ = (kOp.cells os[k])[i]? := fun i hi => by
       rcases HOS.out.row with ⟨hps, _⟩ | ⟨b, off', c', he, hc⟩
       ·rw [hps] at hlp; simp at hlp
       ·injection he with he1 he2 he3
        obtain ⟨rfl, rfl⟩ : b = bo ∧ off' = off := by injection he1 with he1; injection he1 with e1 e2; exact ⟨e1.symm, e2.symm⟩
        exact hc k i hlp hi
      have hrd : Rd .u8 w os[k].v os[k].bs := HOS.out.data _ (List.getElem_mem hlp)
      have hok : (datOpS os)[k]'(by rw [HDO.out]; omega) = os[k].dat := by simp [datOpS]
      obtain ⟨p, hp⟩ : ∃ p, os[k] = p := ⟨_, rfl⟩
      have d0 : wr.cell? ⟨bo, off + k * 3, none⟩ = some (.int .i64 p.kind) := HKr.out.cellOf (p := ⟨bo, off + k * 3, none⟩) (by have h := hc 0 (by decide); rw [hp] at h; exact h) id
      have d1 : wr.cell? ⟨bo, off + k * 3 + 1, none⟩ = some (.int .i64 p.sec) := HKr.out.cellOf (p := ⟨bo, off + k * 3 + 1, none⟩) (by have h := hc 1 (by decide); rw [← Nat.add_assoc, hp] at h; exact h) id
      have d2 : wr.cell? ⟨bo, off + k * 3 + 2, none⟩ = some p.v := HKr.out.cellOf (p := ⟨bo, off + k * 3 + 2, none⟩) (by have h := hc 2 (by decide); rw [← Nat.add_assoc, hp] at h; exact h) id
      rw [hp] at hrd hok
      clear hp hc
      obtain ⟨kd, sc, pz, ob⟩ := p
      dsimp only at hrd d0 d1 d2
      obtain ⟨av, cv, e1⟩ := hrd.form
      subst e1
      obtain ⟨nv, hnv⟩ : ∃ x, ob.length = x := ⟨_, rfl⟩
      rw [hnv] at hrd d2
      have HRB := (show Hid (Rd .u8 w (.slice av nv cv) ob) from hrd)
      have HST : Hid (runD dur (dataP ps) ((datOpS os).take (k + 1)) = doD (runD dur (dataP ps) ((datOpS os).take k)).1 (runD dur (dataP ps) ((datOpS os).take k)).2 (kd, sc, ob)) := by
       unfold Hid
       rw [runD_step (by rw [HDO.out]; omega), hok]
       rfl
      clear hrd hok hnv
      have hkal : Same wr (wr.alloc (.cells #[.int .i64 kd, .int .i64 sc, .slice av nv cv] 78)) := (Kept.refl _ _).alloc _
      have HKAL := hid hkal
      clear hkal
      go_wp2_with fail
      refine (doOp_any P dv' pw _ _ kd sc (.slice av nv cv) ob _ (HPr.out.same HKAL.out) HVL.out (HRB.out.same (HKr.out.trans HKAL.out)) (fun hb b hl => ?_)).mono ?_
      ·have h1 := rd_looks HRB.out hb b hl
       exact ⟨by omega, fun e => by have := HPN.out b e; omega, fun e => by have := HPW.out b e; omega⟩
      rintro e w3 ⟨rfl, ⟨pw2, hp2, hn2⟩, hk2⟩
      have H1 := hid hp2
      have H2 : Hid (∀ b, pw2.ownBlock = some b → w.heap.size + 1 + 1 < b) := fun b hb => by
       rcases hn2 b hb with h | h
       ·exact HPW.out b h
       ·simp only [World.size_alloc] at h; omega
      have HNR : Hid (∀ b, (b = P ∨ dv'.ownBlock = some b ∨ pw.ownBlock = some b) → w.heap.size + 1 + 1 < b) := fun b hb => by
       rcases hb with rfl | hb | hb
       ·exact hP2
       ·exact HPN.out b hb
       ·exact HPW.out b hb
      have H3 := hid ((HB1r.out.alloc _).kept hk2 (fun e => by have := HNR.out _ e; omega))
      have H4 := hid ((HB2r.out.alloc _).kept hk2 (fun e => by have := HNR.out _ e; omega))
      have H5 := (show Hid (Same w w3) from (HKr.out.trans HKAL.out).next hk2 (fun i hi e => by have := HNR.out i e; omega))
      clear hp2 hn2 hk2 d0 d1 d2
      go_wp2
      go_roundw
      case rel => exact ⟨k + 1, pw2, by omega, by go_num, by unfold Hid; rw [HST.out]; exact H1.out, H2, H3, H4, H5⟩
      case measure => simp [intOf]; omega
     ·have hku : k = u := by omega
      subst hku
      go_wp2_with fail
      refine (disk_any P dv' pw _ _ _ HPr.out HVL.out).mono ?_
      rintro e w4 ⟨a, n, c, a', n', c', qs, rfl, hq, hf, ho, hk⟩
      have HIS2 := hid (HIS.out (runD dur (dataP ps) ((datOpS os).take k)).1 (dataP qs) (fun _ => by rw [hq]) (fun h => absurd HYS.out h))
      have HO2 := hid ho
      have HF2 : Hid (∀ b, footD (.slice a n c) (.slice a' n' c') qs b → w.heap.size + 1 + 1 < b) := fun b hb => by have := hf b hb; omega
      have HKW := hid (HKr.out.trans hk)
      have HB12 := hid (HB1r.out.same hk)
      have HB22 := hid (HB2r.out.same hk)
      clear hq hf ho hk
      obtain ⟨y0, y1, y2, y3⟩ := HB22.out.all4
      have fy := HB22.out.frozen
      have ly := HB22.out.lt
      obtain ⟨z0, z1, z2, z3⟩ := HB12.out.all4
      have fz := HB12.out.frozen
      have lz := HB12.out.lt
      have HYF := (show Hid (Blk ((w4.setCell ⟨w.heap.size + 1 + 1, 2, none⟩ (.slice a n c)).setCell ⟨w.heap.size + 1 + 1, 3, none⟩ (.slice a' n' c')) (w.heap.size + 1 + 1) 39 [.bool true, .int .i64 k, .slice a n c, .slice a' n' c']) from (HB22.out.stored 2 _).stored 3 _)
      have HS1 := (show Hid (Kept (fun b => b = w.heap.size + 1 + 1) w4 ((w4.setCell ⟨w.heap.size + 1 + 1, 2, none⟩ (.slice a n c)).setCell ⟨w.heap.size + 1 + 1, 3, none⟩ (.slice a' n' c'))) from Kept.setCell (R := fun b => b = w.heap.size + 1 + 1) (Kept.setCell (R := fun b => b = w.heap.size + 1 + 1) (Kept.refl _ _) (p := ⟨w.heap.size + 1 + 1, 2, none⟩) (.inr rfl) _) (p := ⟨w.heap.size + 1 + 1, 3, none⟩) (.inr rfl) _)
      have HZF := (show Hid (Blk ((w4.setCell ⟨w.heap.size + 1 + 1, 2, none⟩ (.slice a n c)).setCell ⟨w.heap.size + 1 + 1, 3, none⟩ (.slice a' n' c')) (w.heap.size + 1) 39 [.bool false, .int .i64 0, .slice none 0 0, .slice none 0 0]) from HB12.out.kept HS1.out (by intro e; omega))
      have HOF := (show Hid (OwnD 0 70 5 ((w4.setCell ⟨w.heap.size + 1 + 1, 2, none⟩ (.slice a n c)).setCell ⟨w.heap.size + 1 + 1, 3, none⟩ (.slice a' n' c')) (.slice a n c) (.slice a' n' c') (runD dur (dataP ps) ((datOpS os).take k)).1 qs) from HO2.out.kept HS1.out (fun b hb e => by have := HF2.out b hb; omega))
      have HKF := (show Hid (Same w ((w4.setCell ⟨w.heap.size + 1 + 1, 2, none⟩ (.slice a n c)).setCell ⟨w.heap.size + 1 + 1, 3, none⟩ (.slice a' n' c'))) from HKW.out.next HS1.out (fun i hi e => by omega))
      go_wp2
      have hbf := (((HZF.out.stored 0 (.bool true)).stored 1 (.int .i64 k)).stored 2 (.slice a n c)).stored 3 (.slice a' n' c')
      obtain ⟨f0, f1, f2, f3⟩ := hbf.all4
      refine bodyPost_ret (v := .agg #[.bool true, .int .i64 k, .slice a n c, .slice a' n' c']) (by simp [results, Tryd.results17, go_sem, f0, f1, f2, f3]) rfl ?_
      have q3 := HOF.out.kept (w' := ((((((w4.setCell ⟨w.heap.size + 1 + 1, 2, none⟩ (.slice a n c)).setCell ⟨w.heap.size + 1 + 1, 3, none⟩ (.slice a' n' c')).setCell ⟨w.heap.size + 1, 0, none⟩ (.bool true)).setCell ⟨w.heap.size + 1, 1, none⟩ (.int .i64 k)).setCell ⟨w.heap.size + 1, 2, none⟩ (.slice a n c)).setCell ⟨w.heap.size + 1, 3, none⟩ (.slice a' n' c'))) (R := fun b => b = w.heap.size + 1) (by
       (iterate 4 refine Kept.setCell (R := fun b => b = w.heap.size + 1) ?_ (.inr rfl) _)
       exact Kept.refl _ _) (fun b hb e => by have := HF2.out b hb; omega)
      have q4 : Same w ((((((w4.setCell ⟨w.heap.size + 1 + 1, 2, none⟩ (.slice a n c)).setCell ⟨w.heap.size + 1 + 1, 3, none⟩ (.slice a' n' c')).setCell ⟨w.heap.size + 1, 0, none⟩ (.bool true)).setCell ⟨w.heap.size + 1, 1, none⟩ (.int .i64 k)).setCell ⟨w.heap.size + 1, 2, none⟩ (.slice a n c)).setCell ⟨w.heap.size + 1, 3, none⟩ (.slice a' n' c')) := by
       (iterate 4 refine Kept.setCell ?_ (.inl (Nat.le_succ _)) _)
       exact HKF.out
      have q2 : ∀ b, footD (.slice a n c) (.slice a' n' c') qs b → w.heap.size ≤ b := fun b hb => by have := HF2.out b hb; omega
      first | exact ⟨a, n, c, a', n', c', (runD dur (dataP ps) ((datOpS os).take k)).1, qs, rfl, HIS2.out, q2, q3, q4⟩ | exact ⟨a, n, c, a', n', c', rfl, (runD dur (dataP ps) ((datOpS os).take k)).1, qs, HIS2.out, q2, q3, q4⟩
structure DkI (w0 w wr : World) (B : Nat) (v : Value) (cs : List Int) (k : Nat) (size : Int) (D : Nat) (dv pv : Value) (dur : List Int) (ps : List PW) : Prop where
 src : SrcR w0 wr B v cs k size
 box : Blk wr D 25 [dv, pv]
 own : OwnD 0 70 5 wr dv pv dur ps
 new : ∀ b, footD dv pv ps b → w.heap.size < b ∧ ¬ b = D
 kept : Kept (fun b => b = B) w wr
 len : ∀ p ∈ ps, p.bs.length ≤ 512
 res : Blk wr w.heap.size 25 [.slice none 0 0, .slice none 0 0]
section
variable {w0 w wr wx : World} {B : Nat} {v : Value} {cs : List Int} {k k' : Nat} {size : Int} {D : Nat} {dv pv : Value} {dur : List Int} {ps : List PW}
theorem DkI.same (h : DkI w0 w wr B v cs k size D dv pv dur ps) (hk : Same wr wx) : DkI w0 w wx B v cs k size D dv pv dur ps :=
 ⟨h.src.same hk, h.box.same hk, h.own.same hk, h.new, h.kept.trans (hk.mono (fun _ _ e => e.elim)), h.len, h.res.same hk⟩
theorem DkI.draw (h : DkI w0 w wr B v cs k size D dv pv dur ps) (hB : B < w.heap.size) (hD : w.heap.size < D) (hs : SrcR w0 wx B v cs k' size) (hk : Kept (fun b => b = B) wr wx) : DkI w0 w wx B v cs k' size D dv pv dur ps :=
 ⟨hs, h.box.kept hk (fun e => by omega), h.own.kept hk (fun b hb e => by have h1 := h.new b hb; have e' : b = B := e; omega), h.new, h.kept.trans hk, h.len, h.res.kept hk (fun e => by omega)⟩
theorem DkI.pend {a4 : Option Addr} {n4 c4 : Nat} {w3 : World} {s : Int} {a5 : Option Addr} {n5 c5 : Nat} {bs : List Int} {g6 cap6 : Nat} (h : DkI w0 w wr B v cs k size D dv (.slice a4 n4 c4) dur ps) (hB : B < w.heap.size) (hD : w.heap.size < D) (hDl : D < wr.heap.size) (hw : w0.heap.size ≤ w.heap.size)
  (hu : Own 0 5 .u8 wr (.slice a5 n5 c5) bs) (hul : bs.length ≤ 512) (huf : ∀ b, (Value.slice a5 n5 c5).ownBlock = some b → w.heap.size < b ∧ ¬ b = D ∧ ¬ footD dv (.slice a4 n4 c4) ps b)
  (hg : (wr.alloc (.cells #[.int .i64 s, .slice a5 n5 c5] 70)).grownBy w3 (Value.slice a4 n4 c4).ownBlock)
  (hown : w3.ownsRow 0 70 2 (.slice (some ⟨g6, 0, none⟩) (ps.length + 1) cap6) (ps.length + 1) (pwCells ps ++ [.int .i64 s, .slice a5 n5 c5])) (hat : (Value.slice a4 n4 c4).ownBlock = some g6 ∨ g6 = wr.heap.size + 1) :
  DkI w0 w (w3.setCell ⟨D, 1, none⟩ (.slice (some ⟨g6, 0, none⟩) (ps.length + 1) cap6)) B v cs k size D dv (.slice (some ⟨g6, 0, none⟩) (ps.length + 1) cap6) dur (ps ++ [⟨s, .slice a5 n5 c5, bs⟩]) := by
 have hk3 : Kept (fun b => (Value.slice a4 n4 c4).ownBlock = some b) wr w3 := ((Kept.refl _ _).alloc _).trans (Kept.of_grown hg (fun k e => e))
 have hsz := hk3.size
 have hpn : ∀ b, (Value.slice a4 n4 c4).ownBlock = some b → w.heap.size < b ∧ ¬ b = D := fun b hb => h.new b (.inr (.inl hb))
 have hk4 : Kept (fun b => (Value.slice a4 n4 c4).ownBlock = some b ∨ b = D) wr (w3.setCell ⟨D, 1, none⟩ (.slice (some ⟨g6, 0, none⟩) (ps.length + 1) cap6)) := (hk3.mono (fun _ _ e => .inl e)).setCell (p := ⟨D, 1, none⟩) (.inr (.inr rfl)) _
 have hwz := h.kept.size
 have hsn := OwnP.snoc (sec := s) (bs := bs) (h.own.pend.same ((Kept.refl (fun _ => False) _).alloc (.cells #[.int .i64 s, .slice a5 n5 c5] 70))) (hu.same ((Kept.refl (fun _ => False) _).alloc (.cells #[.int .i64 s, .slice a5 n5 c5] 70))) (fun b hb hf => (huf b hb).2.2 (.inr hf)) hg hown rfl (by rw [World.size_alloc]; exact hat)
 have hfoot : ∀ b, footP (.slice (some ⟨g6, 0, none⟩) (ps.length + 1) cap6) (ps ++ [⟨s, .slice a5 n5 c5, bs⟩]) b → (w.heap.size < b ∧ ¬ b = D) ∧ ¬ dv.ownBlock = some b := fun b hb => by
  rcases footP_snoc (v := .slice a4 n4 c4) b hb with rfl | hb | hb
  ·rcases hat with e | e
   ·exact ⟨hpn _ e, fun hd => h.own.apart _ (.inl e) hd⟩
   ·exact ⟨⟨by omega, by omega⟩, fun hd => by have := (h.own.dur.lt _ hd).2; omega⟩
  ·exact ⟨h.new b (.inr hb), fun hd => h.own.apart b hb hd⟩
  ·exact ⟨⟨(huf b hb).1, (huf b hb).2.1⟩, fun hd => (huf b hb).2.2 (.inl hd)⟩
 refine ⟨h.src.on hk4 ?_ ?_, ?_, ⟨?_, ?_, fun b hb hd => (hfoot b hb).2 hd⟩, ?_, ?_, ?_, ?_⟩
 ·rintro (e | e)
  ·have := hpn _ e; omega
  ·omega
 ·rintro i hi (e | e)
  ·have := hpn _ e; omega
  ·omega
 ·exact (h.box.kept hk3 (fun e => (hpn _ e).2 rfl)).stored 1 _
 ·refine h.own.dur.kept hk4 ?_
  rintro b hb (e | e)
  ·exact h.own.apart b (.inl e) hb
  ·exact (h.new b (.inl hb)).2 e
 ·refine hsn.kept (R := fun b => b = D) ((Kept.refl (fun b => b = D) _).setCell (p := ⟨D, 1, none⟩) (.inr rfl) _) (fun b hb e => (hfoot b hb).1.2 e)
 ·rintro b (hb | hb)
  ·exact h.new b (.inl hb)
  ·exact (hfoot b hb).1
 ·refine h.kept.next hk4 ?_
  rintro i hi (e | e)
  ·have := hpn _ e; omega
  ·omega
 ·intro p hp
  rcases List.mem_append.1 hp with hp | hp
  ·exact h.len p hp
  ·rw [List.mem_singleton.1 hp]; exact hul
 ·refine h.res.kept hk4 ?_
  rintro (e | e)
  ·have := hpn _ e; omega
  ·omega
theorem DkI.durs {g n c : Nat} {dur' : List Int} (h : DkI w0 w wr B v cs k size D (.slice (some ⟨g, 0, none⟩) n c) pv dur ps) (hB : B < w.heap.size) (hD : w.heap.size < D) (hw : w0.heap.size ≤ w.heap.size) (ho : Own 0 5 .u8 wx (.slice (some ⟨g, 0, none⟩) n c) dur') (hg : wr.grownBy wx (some g)) :
  DkI w0 w wx B v cs k size D (.slice (some ⟨g, 0, none⟩) n c) pv dur' ps := by
 have hk : Kept (fun b => b = g) wr wx := Kept.of_grown hg (fun k e => by cases e; rfl)
 have hgn := h.new g (.inl rfl)
 exact ⟨h.src.on hk (fun e => by omega) (fun i hi e => by omega), h.box.kept hk (fun e => hgn.2 e.symm), ⟨ho, h.own.pend.kept hk (fun b hb e => h.own.apart b hb (by rw [e]; rfl)), h.own.apart⟩, h.new, h.kept.next hk (fun i hi e => by omega), h.len, h.res.kept hk (fun e => by omega)⟩
end
variable {E : Type}
section
variable {K : RowK E} {base : Nat} {tw tb : TypeId} {w w' : World} {v : Value} {qs : List E}
theorem OwnR.snoc {g n cap : Nat} (p : E) (h : OwnR K base tw tb w v qs) (hu : Own base tb .u8 w (K.v p) (K.bs p)) (huf : ∀ b, (K.v p).ownBlock = some b → ¬ footR K v qs b)
  (hg : w.grownBy w' v.ownBlock) (hrow : w'.ownsRow base tw K.m (.slice (some ⟨g, 0, none⟩) (n + 1) cap) (n + 1) (K.all qs ++ K.cells p)) (hn : n = qs.length) (hat : v.ownBlock = some g ∨ g = w.heap.size) :
  OwnR K base tw tb w' (.slice (some ⟨g, 0, none⟩) (n + 1) cap) (qs ++ [p]) := by
 have hk : Kept (fun b => v.ownBlock = some b) w w' := Kept.of_grown hg (fun k e => e)
 have hul : ∀ b, (K.v p).ownBlock = some b → b < w.heap.size := fun b hb => (hu.lt b hb).2
 have hgu : (K.v p).ownBlock ≠ some g := fun e => by
  rcases hat with hat | hat
  ·exact huf g e (.inl hat)
  ·have := hul g e; omega
 have hgp : ∀ q ∈ qs, (K.v q).ownBlock ≠ some g := fun q hp e => by
  rcases hat with hat | hat
  ·exact h.out (K.v q) (List.mem_map_of_mem hp) g hat e
  ·have := (h.lt g (.inr ⟨q, hp, e⟩)).2; omega
 refine ⟨?_, fun q hp => ?_, fun x hx => ?_, ?_⟩
 ·have e : K.all (qs ++ [p]) = K.all qs ++ K.cells p := by rw [K.all_append]; simp [RowK.all]
  rw [e, List.length_append, List.length_singleton, ← hn]
  exact hrow
 ·rcases List.mem_append.1 hp with hp | hp
  ·exact (h.data q hp).kept hk (fun b hb e => h.out (K.v q) (List.mem_map_of_mem hp) b e hb)
  ·simp at hp
   subst hp
   exact hu.kept hk (fun b hb e => huf b hb (.inl e))
 ·rw [List.map_append, List.mem_append] at hx
  intro b hb
  have hb' : b = g := by simpa [Value.ownBlock] using hb.symm
  subst hb'
  rcases hx with hx | hx
  ·obtain ⟨q, hp, rfl⟩ := List.mem_map.1 hx
   exact hgp q hp
  ·simp at hx
   subst hx
   exact hgu
 ·rw [List.map_append]
  refine List.pairwise_append.2 ⟨h.each, by simp, fun x hx y hy => ?_⟩
  obtain ⟨q, hp, rfl⟩ := List.mem_map.1 hx
  simp at hy
  subst hy
  exact fun b hb hb' => huf b hb' (.inr ⟨q, hp, hb⟩)
theorem footR_snoc {g n cap : Nat} {p : E} (b : Nat) (hb : footR K (.slice (some ⟨g, 0, none⟩) n cap) (qs ++ [p]) b) : b = g ∨ footR K v qs b ∨ (K.v p).ownBlock = some b := by
 rcases hb with hb | ⟨q, hp, hb⟩
 ·exact .inl (by simpa [Value.ownBlock] using hb.symm)
 ·rcases List.mem_append.1 hp with hp | hp
  ·exact .inr (.inl (.inr ⟨q, hp, hb⟩))
  ·simp at hp
   subst hp
   exact .inr (.inr hb)
end
end Go.Proofs.YtnkollbhicmdhaaDoor
