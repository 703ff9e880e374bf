import Derived.Test.YtdbpaadndaoihaaGreatDoorG27
import Derived.Test.YtdbpaadndaoihaaGreatDoorG00
import Derived.Test.YtdbpaadndaoihaaGreatDoorG01
import Derived.Test.YtdbpaadndaoihaaGreatDoorG25
import Derived.Test.YtdbpaadndaoihaaGreatDoorG26
namespace Go.Proofs.YtdbpaadndaoihaaGreatDoor
set_option maxRecDepth 100000
set_option maxHeartbeats 8000000
set_option linter.unusedVariables false
set_option linter.unusedSimpArgs false
open Go Go.RowKit
structure TpD (w : World) (Dx : Nat) (da : Option Addr) (dn dc : Nat) (qa : Option Addr) (qn qc : Nat) (dur : List Int) : Prop where
 box : Blk w Dx 27 [.slice da dn dc, .slice qa qn qc]
 disk : RdD w (.slice da dn dc) (.slice qa qn qc) dur []
 len : dur.length = 30720
 whole : pageWhole (pgT 52 dur) = true
 isB : IsB (pgT 52 dur)
theorem TpD.same {w w' : World} {Dx : Nat} {da : Option Addr} {dn dc : Nat} {qa : Option Addr} {qn qc : Nat} {dur : List Int} (h : TpD w Dx da dn dc qa qn qc dur) (hk : Same w w') : TpD w' Dx da dn dc qa qn qc dur := ⟨h.box.same hk, h.disk.same hk, h.len, h.whole, h.isB⟩
structure TpF (w : World) (i : Nat) (fa : Option Addr) (fn fc : Nat) (ps : List StLogFrame) (pa : Option Addr) (pc : Nat) (P Bg : List Int) : Prop where
 page : Rd .u8 w (.slice pa 4096 pc) P
 good : GoodB P
 num : numAt P 12 4 = 1
 lsn : pageLSN P < 600 + 50 * (i : Int)
 fr : FrX w fa fn fc ps
 each : ∀ p ∈ ps, (IsB p.record.before.data.bs ∧ IsB p.record.after.data.bs ∧ IsB p.record.image.bs) ∧ p.record.szs ≤ 7000
 few : ps.length ≤ i + 1
 leads : Leads 1 Bg (datFr ps) P
 begins : Begins ps Bg
theorem TpF.same {w w' : World} {i : Nat} {fa : Option Addr} {fn fc : Nat} {ps : List StLogFrame} {pa : Option Addr} {pc : Nat} {P Bg : List Int} (h : TpF w i fa fn fc ps pa pc P Bg) (hk : Same w w') : TpF w' i fa fn fc ps pa pc P Bg :=
 ⟨h.page.same hk, h.good, h.num, h.lsn, h.fr.same hk, h.each, h.few, h.leads, h.begins⟩
theorem TpF.on {w : World} {i : Nat} {fa : Option Addr} {fn fc : Nat} {ps : List StLogFrame} {pa : Option Addr} {pc : Nat} {P Bg : List Int} (h : TpF w i fa fn fc ps pa pc P Bg) : TpF w (i + 1) fa fn fc ps pa pc P Bg :=
 ⟨h.page, h.good, h.num, by have := h.lsn; omega, h.fr, h.each, by have := h.few; omega, h.leads, h.begins⟩
theorem TpF.start {w : World} {Y : Nat} {pa : Option Addr} {pc : Nat} (hb : Blk w Y 51 []) (hp : Rd .u8 w (.slice pa 4096 pc) (pageSeal (pageNew 1))) : TpF w 0 (some ⟨Y, 0, none⟩) 0 0 [] pa pc (pageSeal (pageNew 1)) (pageNew 1) := by
 have hs := seal_sim new_one.1
 refine ⟨hp, hs.q, by rw [← hs.num]; exact new_one.2.1, by rw [← hs.lsn, new_one.2.2.2]; omega, FrX.none hb, fun p hp => by simp at hp, by simp, Leads.start hs new_one.2.1, Begins.none⟩
theorem TpF.more {w w' : World} {i : Nat} {fa : Option Addr} {fn fc g c : Nat} {ps : List StLogFrame} {pa pa' : Option Addr} {pc pc' : Nat} {P Bg : List Int} {p : StLogFrame} (h : TpF w i fa fn fc ps pa pc P Bg)
  (hp : ∀ w', Kept (fun b => (Value.slice fa fn fc).ownBlock = some b) w w' → StLogFrame.rd w' p) (hrow : w'.ownsRow 0 51 16 (.slice (some ⟨g, 0, none⟩) (fn + 1) c) (fn + 1) (kFr.all ps ++ p.cells)) (hg : w.grownBy w' (Value.slice fa fn fc).ownBlock) (hat : (Value.slice fa fn fc).ownBlock = some g ∨ g = w.heap.size)
  (hk : fKind p.dat = 1) (hpg : fPage p.dat = 1) (hl : fLsn p.dat = 600 + 50 * (i : Int)) (hB : (IsB p.record.before.data.bs ∧ IsB p.record.after.data.bs ∧ IsB p.record.image.bs) ∧ p.record.szs ≤ 7000) (hA : IsB (fAft p.dat).2) (h0 : (redoOne P p.dat).1 = 0) (hP : Rd .u8 w' (.slice pa' 4096 pc') (redoOne P p.dat).2) (hfew : ps.length ≤ i + 1) :
  TpF w' (i + 1) (some ⟨g, 0, none⟩) (fn + 1) c (ps ++ [p]) pa' pc' (redoOne P p.dat).2 Bg := by
 have hlsn := h.lsn
 obtain ⟨m1, m2⟩ := h.leads.more p.dat hk hpg (by omega) (by omega) hA h0
 have hq := m1.sim.q
 have e : datFr (ps ++ [p]) = datFr ps ++ [p.dat] := by simp [datFr]
 refine ⟨hP, hq, ?_, by rw [m2]; omega, h.fr.app hp hrow hg hat, fun q hq => ?_, by rw [List.length_append]; simp; omega, by rw [e]; exact m1, h.begins.more p (by rw [hk]; decide)⟩
 ·obtain ⟨s1, s2⟩ := set_sim (Sim.refl h.good) (fSlot p.dat) (fAft p.dat).1 (fAft p.dat).2 hA (fLsn p.dat)
  have := (s2 h0).2.2
  rw [h.num] at this
  exact this
 ·rcases List.mem_append.1 hq with hq | hq
  ·exact h.each q hq
  ·rw [List.mem_singleton.1 hq]
   exact hB
theorem TpF.image {w0 w : World} {i Y : Nat} {fa : Option Addr} {fn fc : Nat} {ps : List StLogFrame} {pa : Option Addr} {pc : Nat} {P Bg : List Int} {p : StLogFrame} (h : TpF w0 i fa fn fc ps pa pc P Bg) (hpage : Rd .u8 w (.slice pa 4096 pc) P) (hb : Blk w Y 51 p.cells) (hp : ∀ w', Kept (fun b => b = Y) w w' → StLogFrame.rd w' p)
  (hk : fKind p.dat = 8) (hpg : fPage p.dat = 1) (him : fImg p.dat = pageSeal P) (hB : (IsB p.record.before.data.bs ∧ IsB p.record.after.data.bs ∧ IsB p.record.image.bs) ∧ p.record.szs ≤ 7000) : TpF w i (some ⟨Y, 0, none⟩) 1 1 [p] pa pc P (pageSeal P) := by
 have hs := (seal_sim h.good).symm
 have e : datFr [p] = [] ++ [p.dat] := rfl
 refine ⟨hpage, h.good, h.num, h.lsn, FrX.one hb hp, fun q hq => by rw [List.mem_singleton.1 hq]; exact hB, by simp, ?_, .inl (by rw [last_one 1 p ⟨hk, hpg⟩, him])⟩
 rw [e]
 exact (Leads.start hs (by rw [hs.num]; exact h.num)).skip p.dat (by rw [hk]; decide)
theorem rd_looks {w : World} {v : Value} {bs : List Int} (h : Rd .u8 w v bs) (hb : bs ≠ []) (b : Nat) (hl : looks v b) : b < w.heap.size := by
 obtain ⟨o, n, c, rfl⟩ := hl
 rcases h.2 with ⟨h0, _⟩ | ⟨b', off, c', e, _, hc⟩
 ·exact absurd h0 hb
 ·simp only [Value.slice.injEq, Option.some.injEq, Addr.mk.injEq, and_true] at e
  obtain ⟨⟨rfl, rfl⟩, _⟩ := e
  exact World.block_lt_of_cell? w _ (hc 0 (by cases bs with | nil => exact absurd rfl hb | cons _ _ => simp))
theorem implRunOps_any (dv pv : Value) (dur : List Int) (ps : List PW) (v : Value) (os : List EOp) (limit : Int) (w : World) (hd : dur.length ≤ 1099511627776) (hn : ps.length ≤ 1073741824) (hs : ∀ p ∈ ps, p.bs.length ≤ 1099511627776) (hv : RdD w dv pv dur ps) (hform : ∃ bo off co, v = .slice (some ⟨bo, off, none⟩) os.length co ∧ os.length ≤ co) (ho : RdR kOp w v os) :
  Calls Tryz.prog 11 #[.agg #[dv, pv], v, .int .i64 limit] w fun e w' => ∃ a n c a' n' c' r qs, e = .returned (.agg #[.bool (allO limit (datOpS os).length), .int .i64 (usedO limit (datOpS os).length), .slice a n c, .slice a' n' c']) ∧ IsRun limit dur (dataP ps) (datOpS os) r (dataP qs) ∧
   (∀ b, footD (.slice a n c) (.slice a' n' c') qs b → w.heap.size ≤ b) ∧ OwnD 0 128 5 w' (.slice a n c) (.slice a' n' c') r qs ∧ Same w w' := by
 obtain ⟨a1, c1, rfl⟩ := hv.dur.form
 obtain ⟨a2, c2, rfl⟩ := hv.pend.form
 obtain ⟨bo, off, co, rfl, hco⟩ := hform
 have hmax := ho.max
 unfold maxLen at hmax
 have HV := (show Hid (RdD w (.slice a1 dur.length c1) (.slice a2 ps.length c2) dur ps) from hv)
 have HOS := (show Hid (RdR kOp w (.slice (some ⟨bo, off, none⟩) os.length co) os) from ho)
 have HSP : Hid (∀ p ∈ ps, p.bs.length ≤ 1099511627776) := hs
 have HDL := hid hd
 have HNL := hid hn
 clear hv ho hs hd hn
 obtain ⟨len, hl⟩ : ∃ x, os.length = x := ⟨_, rfl⟩
 have HL : Hid (os.length = len) := hl
 rw [hl] at HOS hmax hco ⊢
 have hdo : (datOpS os).length = len := by rw [datOpS_length, hl]
 have hua : allO limit (datOpS os).length = decide (usedO limit len = len) := by rw [hdo]; rfl
 rw [hua, hdo]
 have HDO := hid hdo
 clear hl hua hdo
 have hul := usedO_le limit len
 obtain ⟨u, hu⟩ : ∃ x, usedO limit len = x := ⟨_, rfl⟩
 rw [hu] at hul ⊢
 have HU := hid hu
 obtain ⟨dn, hdn⟩ : ∃ x, decide (u = len) = x := ⟨_, rfl⟩
 rw [hdn]
 have hIS : ∀ (r : List Int) (qs : List (Int × List Int)), (Valid dur.length (dataP ps) → (r, qs) = runD dur (dataP ps) ((datOpS os).take u)) → (¬ Valid dur.length (dataP ps) → r = dur ∧ qs = dataP ps) → IsRun limit dur (dataP ps) (datOpS os) r qs := fun r qs h1 h2 => ⟨by rw [HDO.out, HU.out]; exact h1, h2⟩
 have HIS := hid hIS
 have hbu : ((u : Int) == (len : Int)) = dn := by
  rw [← hdn, Bool.eq_iff_iff]
  simp
  omega
 have hcl : (0 ≤ limit ∧ limit < (len : Int) ∧ limit = (u : Int)) ∨ (¬ (0 ≤ limit ∧ limit < (len : Int)) ∧ u = len) := by
  unfold usedO at hu
  by_cases h : 0 ≤ limit ∧ limit < (len : Int)
  ·rw [if_pos h] at hu; exact .inl ⟨h.1, h.2, by omega⟩
  ·rw [if_neg h] at hu; exact .inr ⟨h, hu.symm⟩
 clear hIS hdn hu
 obtain ⟨wa, hwa⟩ : ∃ x, x = ((w.alloc (.cells #[.slice a1 dur.length c1, .slice a2 ps.length c2] 27)).alloc (.cells #[.bool false, .int .i64 0, .slice none 0 0, .slice none 0 0] 42)).alloc (.cells #[.bool dn, .int .i64 u, .slice none 0 0, .slice none 0 0] 42) := ⟨_, rfl⟩
 have hka : Same w wa := by rw [hwa]; exact (((Kept.refl _ _).alloc _).alloc _).alloc _
 have hza : wa.heap.size = w.heap.size + 1 + 1 + 1 := by rw [hwa]; simp
 have b0 : Blk wa w.heap.size 27 [.slice a1 dur.length c1, .slice a2 ps.length c2] := by rw [hwa]; exact (Blk.newA w _ _ _ _).alloc _
 have b1 : Blk wa (w.heap.size + 1) 42 [.bool false, .int .i64 0, .slice none 0 0, .slice none 0 0] := by rw [hwa]; exact (Blk.newB w _ _ _ _).alloc _
 have b2 : Blk wa (w.heap.size + 1 + 1) 42 [.bool dn, .int .i64 u, .slice none 0 0, .slice none 0 0] := by
  rw [hwa]
  have h := Blk.newL ((w.alloc (.cells #[.slice a1 dur.length c1, .slice a2 ps.length c2] 27)).alloc (.cells #[.bool false, .int .i64 0, .slice none 0 0, .slice none 0 0] 42)) [.bool dn, .int .i64 u, .slice none 0 0, .slice none 0 0] 42
  simpa using h
 have HKA := hid hka
 have HB0 := hid b0
 have HB1 := hid b1
 have HB2 := hid b2
 have HZA := hid hza
 clear hka b0 b1 b2
 rcases hcl with ⟨q0, q1, rfl⟩ | ⟨q0, rfl⟩
 ·have q0b : 0 ≤ (u : Int) := q0
  go_enter Tryz.func11, Tryz.ntmps11
  go_wp2_with fail
  rw [← hwa]
  clear hwa
  refine (implValid_any _ _ dur ps _ (HV.out.same HKA.out)).mono ?_
  rintro e w1 ⟨⟨B, rfl, hB⟩, hk1⟩
  have HBV : Hid (B = true ↔ Valid dur.length (dataP ps)) := hB
  have HK1 := hid (HKA.out.trans hk1)
  have HB01 := hid (HB0.out.same hk1)
  have HB11 := hid (HB1.out.same hk1)
  have HB21 := hid (HB2.out.same hk1)
  have hz1 : w.heap.size + 1 + 1 < w1.heap.size := HB21.out.lt
  clear hk1 hB
  obtain ⟨g0, g1⟩ := HB01.out.all2
  cases B with
  | false =>
   have hno : ¬ Valid dur.length (dataP ps) := fun h => by have := HBV.out.2 h; cases this
   have HNO := hid hno
   clear hno
   go_wp2_with fail
   refine (cloneDisk_any _ _ dur ps _ HDL.out HNL.out HSP.out (HV.out.same HK1.out)).mono ?_
   rintro e w2 ⟨a, n, c, a', n', c', qs, rfl, hq, hf, ho, hk⟩
   have HIS2 := hid (HIS.out dur (dataP qs) (fun h => absurd h HNO.out) (fun _ => ⟨rfl, hq⟩))
   have HO2 := hid ho
   have HF2 : Hid (∀ b, footD (.slice a n c) (.slice a' n' c') qs b → w.heap.size + 1 + 1 < b) := fun b hb => by have := hf b hb; omega
   have HKW := hid (HK1.out.trans hk)
   have HB12 := hid (HB11.out.same hk)
   have HB22 := hid (HB21.out.same hk)
   clear hq hf ho hk g0 g1
   obtain ⟨y0, y1, y2, y3⟩ := HB22.out.all4
   have fy := HB22.out.frozen
   have ly := HB22.out.lt
   obtain ⟨z0, z1, z2, z3⟩ := HB12.out.all4
   have fz := HB12.out.frozen
   have lz := HB12.out.lt
   have HYF := (show Hid (Blk ((w2.setCell ⟨w.heap.size + 1 + 1, 2, none⟩ (.slice a n c)).setCell ⟨w.heap.size + 1 + 1, 3, none⟩ (.slice a' n' c')) (w.heap.size + 1 + 1) 42 [.bool dn, .int .i64 u, .slice a n c, .slice a' n' c']) from (HB22.out.stored 2 _).stored 3 _)
   have HS1 := (show Hid (Kept (fun b => b = w.heap.size + 1 + 1) w2 ((w2.setCell ⟨w.heap.size + 1 + 1, 2, none⟩ (.slice a n c)).setCell ⟨w.heap.size + 1 + 1, 3, none⟩ (.slice a' n' c'))) from Kept.setCell (R := fun b => b = w.heap.size + 1 + 1) (Kept.setCell (R := fun b => b = w.heap.size + 1 + 1) (Kept.refl _ _) (p := ⟨w.heap.size + 1 + 1, 2, none⟩) (.inr rfl) _) (p := ⟨w.heap.size + 1 + 1, 3, none⟩) (.inr rfl) _)
   have HZF := (show Hid (Blk ((w2.setCell ⟨w.heap.size + 1 + 1, 2, none⟩ (.slice a n c)).setCell ⟨w.heap.size + 1 + 1, 3, none⟩ (.slice a' n' c')) (w.heap.size + 1) 42 [.bool false, .int .i64 0, .slice none 0 0, .slice none 0 0]) from HB12.out.kept HS1.out (by intro e; omega))
   have HOF := (show Hid (OwnD 0 128 5 ((w2.setCell ⟨w.heap.size + 1 + 1, 2, none⟩ (.slice a n c)).setCell ⟨w.heap.size + 1 + 1, 3, none⟩ (.slice a' n' c')) (.slice a n c) (.slice a' n' c') dur qs) from HO2.out.kept HS1.out (fun b hb e => by have := HF2.out b hb; omega))
   have HKF := (show Hid (Same w ((w2.setCell ⟨w.heap.size + 1 + 1, 2, none⟩ (.slice a n c)).setCell ⟨w.heap.size + 1 + 1, 3, none⟩ (.slice a' n' c'))) from HKW.out.next HS1.out (fun i hi e => by omega))
   go_wp2
   have hbf := (((HZF.out.stored 0 (.bool dn)).stored 1 (.int .i64 u)).stored 2 (.slice a n c)).stored 3 (.slice a' n' c')
   obtain ⟨f0, f1, f2, f3⟩ := hbf.all4
   refine bodyPost_ret (v := .agg #[.bool dn, .int .i64 u, .slice a n c, .slice a' n' c']) (by simp [results, Tryz.results11, go_sem, f0, f1, f2, f3]) rfl ?_
   have q3 := HOF.out.kept (w' := ((((((w2.setCell ⟨w.heap.size + 1 + 1, 2, none⟩ (.slice a n c)).setCell ⟨w.heap.size + 1 + 1, 3, none⟩ (.slice a' n' c')).setCell ⟨w.heap.size + 1, 0, none⟩ (.bool dn)).setCell ⟨w.heap.size + 1, 1, none⟩ (.int .i64 u)).setCell ⟨w.heap.size + 1, 2, none⟩ (.slice a n c)).setCell ⟨w.heap.size + 1, 3, none⟩ (.slice a' n' c'))) (R := fun b => b = w.heap.size + 1) (by
    (iterate 4 refine Kept.setCell (R := fun b => b = w.heap.size + 1) ?_ (.inr rfl) _)
    exact Kept.refl _ _) (fun b hb e => by have := HF2.out b hb; omega)
   have q4 : Same w ((((((w2.setCell ⟨w.heap.size + 1 + 1, 2, none⟩ (.slice a n c)).setCell ⟨w.heap.size + 1 + 1, 3, none⟩ (.slice a' n' c')).setCell ⟨w.heap.size + 1, 0, none⟩ (.bool dn)).setCell ⟨w.heap.size + 1, 1, none⟩ (.int .i64 u)).setCell ⟨w.heap.size + 1, 2, none⟩ (.slice a n c)).setCell ⟨w.heap.size + 1, 3, none⟩ (.slice a' n' c')) := by
    (iterate 4 refine Kept.setCell ?_ (.inl (Nat.le_succ _)) _)
    exact HKF.out
   have q2 : ∀ b, footD (.slice a n c) (.slice a' n' c') qs b → w.heap.size ≤ b := fun b hb => by have := HF2.out b hb; omega
   first | exact ⟨a, n, c, a', n', c', dur, qs, rfl, HIS2.out, q2, q3, q4⟩ | exact ⟨a, n, c, a', n', c', rfl, dur, qs, HIS2.out, q2, q3, q4⟩
  | true =>
   have HYS : Hid (Valid dur.length (dataP ps)) := HBV.out.1 rfl
   go_wp2_with fail
   refine (openDisk_any _ _ dur ps _ (HV.out.same HK1.out) HYS.out).mono ?_
   rintro e w2 ⟨P, dv', pv', rfl, hp, ⟨hP, hdv, hpv⟩, hk⟩
   have HP2 := hid hp
   have HKW2 := hid (HK1.out.trans hk)
   have HB12 := hid (HB11.out.same hk)
   have HB22 := hid (HB21.out.same hk)
   have HPN : Hid (∀ b, dv'.ownBlock = some b → w.heap.size + 1 + 1 < b) := fun b hb => by have := hdv b hb; omega
   have HPV : Hid (∀ b, pv'.ownBlock = some b → w.heap.size + 1 + 1 < b) := fun b hb => by have := hpv b hb; omega
   have hP2 : w.heap.size + 1 + 1 < P := by omega
   have hz2 := hk.size
   clear hp hdv hpv hk g0 g1 hP
   go_wp2_with fail
   go_loopw [42] (fun i wr => ∃ (k : Nat) (pw : Value), k ≤ u ∧ i = .int .i64 k ∧ Hid (Plat wr P dv' pw (runD dur (dataP ps) ((datOpS os).take k)).1 (runD dur (dataP ps) ((datOpS os).take k)).2) ∧ Hid (∀ b, pw.ownBlock = some b → w.heap.size + 1 + 1 < b) ∧ Hid (Blk wr (w.heap.size + 1) 42 [.bool false, .int .i64 0, .slice none 0 0, .slice none 0 0]) ∧ Hid (Blk wr (w.heap.size + 1 + 1) 42 [.bool dn, .int .i64 u, .slice none 0 0, .slice none 0 0]) ∧ Hid (Same w wr)) (fun i _ => u - (intOf i).toNat)
   case atStart => exact ⟨0, pv', Nat.zero_le _, rfl, HP2, HPV, HB12, HB22, HKW2⟩
   case round =>
    obtain ⟨k, pw, hk, rfl, HPr, HPW, HB1r, HB2r, HKr⟩ := hrel
    have hvv := runD_valid HYS.out (datOpS os) k (by rw [HDO.out]; omega)
    have HVV := hid hvv
    have HVL : Hid (Valid (runD dur (dataP ps) ((datOpS os).take k)).1.length (runD dur (dataP ps) ((datOpS os).take k)).2) := by unfold Hid; rw [hvv.1]; exact hvv.2
    have hlz := HB2r.out.lt
    clear hvv
    by_cases hlt : k < u
    ·have hlp : k < os.length := by rw [HL.out]; omega
     have hki : (k : Int) < (u : Int) := by omega
     have hc : ∀ i, i < 3 → w.cell? ⟨bo, off + (k * 3 + i), none⟩ = (kOp.cells os[k])[i]? := fun i hi => by
      rcases HOS.out.row with ⟨hps, _⟩ | ⟨b, off', c', he, hc⟩
      ·rw [hps] at hlp; simp at hlp
      ·injection he with he1 he2 he3
       obtain ⟨rfl, rfl⟩ : b = bo ∧ off' = off := by injection he1 with he1; injection he1 with e1 e2; exact ⟨e1.symm, e2.symm⟩
       exact hc k i hlp hi
     have hrd : Rd .u8 w os[k].v os[k].bs := HOS.out.data _ (List.getElem_mem hlp)
     have hok : (datOpS os)[k]'(by rw [HDO.out]; omega) = os[k].dat := by simp [datOpS]
     obtain ⟨p, hp⟩ : ∃ p, os[k] = p := ⟨_, rfl⟩
     have d0 : wr.cell? ⟨bo, off + k * 3, none⟩ = some (.int .i64 p.kind) := HKr.out.cellOf (p := ⟨bo, off + k * 3, none⟩) (by have h := hc 0 (by decide); rw [hp] at h; exact h) id
     have d1 : wr.cell? ⟨bo, off + k * 3 + 1, none⟩ = some (.int .i64 p.sec) := HKr.out.cellOf (p := ⟨bo, off + k * 3 + 1, none⟩) (by have h := hc 1 (by decide); rw [← Nat.add_assoc, hp] at h; exact h) id
     have d2 : wr.cell? ⟨bo, off + k * 3 + 2, none⟩ = some p.v := HKr.out.cellOf (p := ⟨bo, off + k * 3 + 2, none⟩) (by have h := hc 2 (by decide); rw [← Nat.add_assoc, hp] at h; exact h) id
     rw [hp] at hrd hok
     clear hp hc
     obtain ⟨kd, sc, pz, ob⟩ := p
     dsimp only at hrd d0 d1 d2
     obtain ⟨av, cv, e1⟩ := hrd.form
     subst e1
     obtain ⟨nv, hnv⟩ : ∃ x, ob.length = x := ⟨_, rfl⟩
     rw [hnv] at hrd d2
     have HRB := (show Hid (Rd .u8 w (.slice av nv cv) ob) from hrd)
     have HST : Hid (runD dur (dataP ps) ((datOpS os).take (k + 1)) = doD (runD dur (dataP ps) ((datOpS os).take k)).1 (runD dur (dataP ps) ((datOpS os).take k)).2 (kd, sc, ob)) := by
      unfold Hid
      rw [runD_step (by rw [HDO.out]; omega), hok]
      rfl
     clear hrd hok hnv
     have hkal : Same wr (wr.alloc (.cells #[.int .i64 kd, .int .i64 sc, .slice av nv cv] 95)) := (Kept.refl _ _).alloc _
     have HKAL := hid hkal
     clear hkal
     go_wp2_with fail
     refine (doOp_any P dv' pw _ _ kd sc (.slice av nv cv) ob _ (HPr.out.same HKAL.out) HVL.out (HRB.out.same (HKr.out.trans HKAL.out)) (fun hb b hl => ?_)).mono ?_
     ·have h1 := rd_looks HRB.out hb b hl
      exact ⟨by omega, fun e => by have := HPN.out b e; omega, fun e => by have := HPW.out b e; omega⟩
     rintro e w3 ⟨rfl, ⟨pw2, hp2, hn2⟩, hk2⟩
     have H1 := hid hp2
     have H2 : Hid (∀ b, pw2.ownBlock = some b → w.heap.size + 1 + 1 < b) := fun b hb => by
      rcases hn2 b hb with h | h
      ·exact HPW.out b h
      ·simp only [World.size_alloc] at h; omega
     have HNR : Hid (∀ b, (b = P ∨ dv'.ownBlock = some b ∨ pw.ownBlock = some b) → w.heap.size + 1 + 1 < b) := fun b hb => by
      rcases hb with rfl | hb | hb
      ·exact hP2
      ·exact HPN.out b hb
      ·exact HPW.out b hb
     have H3 := hid ((HB1r.out.alloc _).kept hk2 (fun e => by have := HNR.out _ e; omega))
     have H4 := hid ((HB2r.out.alloc _).kept hk2 (fun e => by have := HNR.out _ e; omega))
     have H5 := (show Hid (Same w w3) from (HKr.out.trans HKAL.out).next hk2 (fun i hi e => by have := HNR.out i e; omega))
     clear hp2 hn2 hk2 d0 d1 d2
     go_wp2
     go_roundw
     case rel => exact ⟨k + 1, pw2, by omega, by go_num, by unfold Hid; rw [HST.out]; exact H1.out, H2, H3, H4, H5⟩
     case measure => simp [intOf]; omega
    ·have hku : k = u := by omega
     subst hku
     go_wp2_with fail
     refine (disk_any P dv' pw _ _ _ HPr.out HVL.out).mono ?_
     rintro e w4 ⟨a, n, c, a', n', c', qs, rfl, hq, hf, ho, hk⟩
     have HIS2 := hid (HIS.out (runD dur (dataP ps) ((datOpS os).take k)).1 (dataP qs) (fun _ => by rw [hq]) (fun h => absurd HYS.out h))
     have HO2 := hid ho
     have HF2 : Hid (∀ b, footD (.slice a n c) (.slice a' n' c') qs b → w.heap.size + 1 + 1 < b) := fun b hb => by have := hf b hb; omega
     have HKW := hid (HKr.out.trans hk)
     have HB12 := hid (HB1r.out.same hk)
     have HB22 := hid (HB2r.out.same hk)
     clear hq hf ho hk
     obtain ⟨y0, y1, y2, y3⟩ := HB22.out.all4
     have fy := HB22.out.frozen
     have ly := HB22.out.lt
     obtain ⟨z0, z1, z2, z3⟩ := HB12.out.all4
     have fz := HB12.out.frozen
     have lz := HB12.out.lt
     have HYF := (show Hid (Blk ((w4.setCell ⟨w.heap.size + 1 + 1, 2, none⟩ (.slice a n c)).setCell ⟨w.heap.size + 1 + 1, 3, none⟩ (.slice a' n' c')) (w.heap.size + 1 + 1) 42 [.bool dn, .int .i64 k, .slice a n c, .slice a' n' c']) from (HB22.out.stored 2 _).stored 3 _)
     have HS1 := (show Hid (Kept (fun b => b = w.heap.size + 1 + 1) w4 ((w4.setCell ⟨w.heap.size + 1 + 1, 2, none⟩ (.slice a n c)).setCell ⟨w.heap.size + 1 + 1, 3, none⟩ (.slice a' n' c'))) from Kept.setCell (R := fun b => b = w.heap.size + 1 + 1) (Kept.setCell (R := fun b => b = w.heap.size + 1 + 1) (Kept.refl _ _) (p := ⟨w.heap.size + 1 + 1, 2, none⟩) (.inr rfl) _) (p := ⟨w.heap.size + 1 + 1, 3, none⟩) (.inr rfl) _)
     have HZF := (show Hid (Blk ((w4.setCell ⟨w.heap.size + 1 + 1, 2, none⟩ (.slice a n c)).setCell ⟨w.heap.size + 1 + 1, 3, none⟩ (.slice a' n' c')) (w.heap.size + 1) 42 [.bool false, .int .i64 0, .slice none 0 0, .slice none 0 0]) from HB12.out.kept HS1.out (by intro e; omega))
     have HOF := (show Hid (OwnD 0 128 5 ((w4.setCell ⟨w.heap.size + 1 + 1, 2, none⟩ (.slice a n c)).setCell ⟨w.heap.size + 1 + 1, 3, none⟩ (.slice a' n' c')) (.slice a n c) (.slice a' n' c') (runD dur (dataP ps) ((datOpS os).take k)).1 qs) from HO2.out.kept HS1.out (fun b hb e => by have := HF2.out b hb; omega))
     have HKF := (show Hid (Same w ((w4.setCell ⟨w.heap.size + 1 + 1, 2, none⟩ (.slice a n c)).setCell ⟨w.heap.size + 1 + 1, 3, none⟩ (.slice a' n' c'))) from HKW.out.next HS1.out (fun i hi e => by omega))
     go_wp2
     have hbf := (((HZF.out.stored 0 (.bool dn)).stored 1 (.int .i64 k)).stored 2 (.slice a n c)).stored 3 (.slice a' n' c')
     obtain ⟨f0, f1, f2, f3⟩ := hbf.all4
     refine bodyPost_ret (v := .agg #[.bool dn, .int .i64 k, .slice a n c, .slice a' n' c']) (by simp [results, Tryz.results11, go_sem, f0, f1, f2, f3]) rfl ?_
     have q3 := HOF.out.kept (w' := ((((((w4.setCell ⟨w.heap.size + 1 + 1, 2, none⟩ (.slice a n c)).setCell ⟨w.heap.size + 1 + 1, 3, none⟩ (.slice a' n' c')).setCell ⟨w.heap.size + 1, 0, none⟩ (.bool dn)).setCell ⟨w.heap.size + 1, 1, none⟩ (.int .i64 k)).setCell ⟨w.heap.size + 1, 2, none⟩ (.slice a n c)).setCell ⟨w.heap.size + 1, 3, none⟩ (.slice a' n' c'))) (R := fun b => b = w.heap.size + 1) (by
      (iterate 4 refine Kept.setCell (R := fun b => b = w.heap.size + 1) ?_ (.inr rfl) _)
      exact Kept.refl _ _) (fun b hb e => by have := HF2.out b hb; omega)
     have q4 : Same w ((((((w4.setCell ⟨w.heap.size + 1 + 1, 2, none⟩ (.slice a n c)).setCell ⟨w.heap.size + 1 + 1, 3, none⟩ (.slice a' n' c')).setCell ⟨w.heap.size + 1, 0, none⟩ (.bool dn)).setCell ⟨w.heap.size + 1, 1, none⟩ (.int .i64 k)).setCell ⟨w.heap.size + 1, 2, none⟩ (.slice a n c)).setCell ⟨w.heap.size + 1, 3, none⟩ (.slice a' n' c')) := by
      (iterate 4 refine Kept.setCell ?_ (.inl (Nat.le_succ _)) _)
      exact HKF.out
     have q2 : ∀ b, footD (.slice a n c) (.slice a' n' c') qs b → w.heap.size ≤ b := fun b hb => by have := HF2.out b hb; omega
     first | exact ⟨a, n, c, a', n', c', (runD dur (dataP ps) ((datOpS os).take k)).1, qs, rfl, HIS2.out, q2, q3, q4⟩ | exact ⟨a, n, c, a', n', c', rfl, (runD dur (dataP ps) ((datOpS os).take k)).1, qs, HIS2.out, q2, q3, q4⟩
 ·obtain rfl : dn = true := by rw [← hbu]; simp
  by_cases q1 : 0 ≤ limit
  ·have q2 : ¬ limit < (u : Int) := by omega
   go_enter Tryz.func11, Tryz.ntmps11
   go_wp2_with fail
   rw [← hwa]
   clear hwa
   refine (implValid_any _ _ dur ps _ (HV.out.same HKA.out)).mono ?_
   rintro e w1 ⟨⟨B, rfl, hB⟩, hk1⟩
   have HBV : Hid (B = true ↔ Valid dur.length (dataP ps)) := hB
   have HK1 := hid (HKA.out.trans hk1)
   have HB01 := hid (HB0.out.same hk1)
   have HB11 := hid (HB1.out.same hk1)
   have HB21 := hid (HB2.out.same hk1)
   have hz1 : w.heap.size + 1 + 1 < w1.heap.size := HB21.out.lt
   clear hk1 hB
   obtain ⟨g0, g1⟩ := HB01.out.all2
   cases B with
   | false =>
    have hno : ¬ Valid dur.length (dataP ps) := fun h => by have := HBV.out.2 h; cases this
    have HNO := hid hno
    clear hno
    go_wp2_with fail
    refine (cloneDisk_any _ _ dur ps _ HDL.out HNL.out HSP.out (HV.out.same HK1.out)).mono ?_
    rintro e w2 ⟨a, n, c, a', n', c', qs, rfl, hq, hf, ho, hk⟩
    have HIS2 := hid (HIS.out dur (dataP qs) (fun h => absurd h HNO.out) (fun _ => ⟨rfl, hq⟩))
    have HO2 := hid ho
    have HF2 : Hid (∀ b, footD (.slice a n c) (.slice a' n' c') qs b → w.heap.size + 1 + 1 < b) := fun b hb => by have := hf b hb; omega
    have HKW := hid (HK1.out.trans hk)
    have HB12 := hid (HB11.out.same hk)
    have HB22 := hid (HB21.out.same hk)
    clear hq hf ho hk g0 g1
    obtain ⟨y0, y1, y2, y3⟩ := HB22.out.all4
    have fy := HB22.out.frozen
    have ly := HB22.out.lt
    obtain ⟨z0, z1, z2, z3⟩ := HB12.out.all4
    have fz := HB12.out.frozen
    have lz := HB12.out.lt
    have HYF := (show Hid (Blk ((w2.setCell ⟨w.heap.size + 1 + 1, 2, none⟩ (.slice a n c)).setCell ⟨w.heap.size + 1 + 1, 3, none⟩ (.slice a' n' c')) (w.heap.size + 1 + 1) 42 [.bool true, .int .i64 u, .slice a n c, .slice a' n' c']) from (HB22.out.stored 2 _).stored 3 _)
    have HS1 := (show Hid (Kept (fun b => b = w.heap.size + 1 + 1) w2 ((w2.setCell ⟨w.heap.size + 1 + 1, 2, none⟩ (.slice a n c)).setCell ⟨w.heap.size + 1 + 1, 3, none⟩ (.slice a' n' c'))) from Kept.setCell (R := fun b => b = w.heap.size + 1 + 1) (Kept.setCell (R := fun b => b = w.heap.size + 1 + 1) (Kept.refl _ _) (p := ⟨w.heap.size + 1 + 1, 2, none⟩) (.inr rfl) _) (p := ⟨w.heap.size + 1 + 1, 3, none⟩) (.inr rfl) _)
    have HZF := (show Hid (Blk ((w2.setCell ⟨w.heap.size + 1 + 1, 2, none⟩ (.slice a n c)).setCell ⟨w.heap.size + 1 + 1, 3, none⟩ (.slice a' n' c')) (w.heap.size + 1) 42 [.bool false, .int .i64 0, .slice none 0 0, .slice none 0 0]) from HB12.out.kept HS1.out (by intro e; omega))
    have HOF := (show Hid (OwnD 0 128 5 ((w2.setCell ⟨w.heap.size + 1 + 1, 2, none⟩ (.slice a n c)).setCell ⟨w.heap.size + 1 + 1, 3, none⟩ (.slice a' n' c')) (.slice a n c) (.slice a' n' c') dur qs) from HO2.out.kept HS1.out (fun b hb e => by have := HF2.out b hb; omega))
    have HKF := (show Hid (Same w ((w2.setCell ⟨w.heap.size + 1 + 1, 2, none⟩ (.slice a n c)).setCell ⟨w.heap.size + 1 + 1, 3, none⟩ (.slice a' n' c'))) from HKW.out.next HS1.out (fun i hi e => by omega))
    go_wp2
    have hbf := (((HZF.out.stored 0 (.bool true)).stored 1 (.int .i64 u)).stored 2 (.slice a n c)).stored 3 (.slice a' n' c')
    obtain ⟨f0, f1, f2, f3⟩ := hbf.all4
    refine bodyPost_ret (v := .agg #[.bool true, .int .i64 u, .slice a n c, .slice a' n' c']) (by simp [results, Tryz.results11, go_sem, f0, f1, f2, f3]) rfl ?_
    have q3 := HOF.out.kept (w' := ((((((w2.setCell ⟨w.heap.size + 1 + 1, 2, none⟩ (.slice a n c)).setCell ⟨w.heap.size + 1 + 1, 3, none⟩ (.slice a' n' c')).setCell ⟨w.heap.size + 1, 0, none⟩ (.bool true)).setCell ⟨w.heap.size + 1, 1, none⟩ (.int .i64 u)).setCell ⟨w.heap.size + 1, 2, none⟩ (.slice a n c)).setCell ⟨w.heap.size + 1, 3, none⟩ (.slice a' n' c'))) (R := fun b => b = w.heap.size + 1) (by
     (iterate 4 refine Kept.setCell (R := fun b => b = w.heap.size + 1) ?_ (.inr rfl) _)
     exact Kept.refl _ _) (fun b hb e => by have := HF2.out b hb; omega)
    have q4 : Same w ((((((w2.setCell ⟨w.heap.size + 1 + 1, 2, none⟩ (.slice a n c)).setCell ⟨w.heap.size + 1 + 1, 3, none⟩ (.slice a' n' c')).setCell ⟨w.heap.size + 1, 0, none⟩ (.bool true)).setCell ⟨w.heap.size + 1, 1, none⟩ (.int .i64 u)).setCell ⟨w.heap.size + 1, 2, none⟩ (.slice a n c)).setCell ⟨w.heap.size + 1, 3, none⟩ (.slice a' n' c')) := by
     (iterate 4 refine Kept.setCell ?_ (.inl (Nat.le_succ _)) _)
     exact HKF.out
    have q2 : ∀ b, footD (.slice a n c) (.slice a' n' c') qs b → w.heap.size ≤ b := fun b hb => by have := HF2.out b hb; omega
    first | exact ⟨a, n, c, a', n', c', dur, qs, rfl, HIS2.out, q2, q3, q4⟩ | exact ⟨a, n, c, a', n', c', rfl, dur, qs, HIS2.out, q2, q3, q4⟩
   | true =>
    have HYS : Hid (Valid dur.length (dataP ps)) := HBV.out.1 rfl
    go_wp2_with fail
    refine (openDisk_any _ _ dur ps _ (HV.out.same HK1.out) HYS.out).mono ?_
    rintro e w2 ⟨P, dv', pv', rfl, hp, ⟨hP, hdv, hpv⟩, hk⟩
    have HP2 := hid hp
    have HKW2 := hid (HK1.out.trans hk)
    have HB12 := hid (HB11.out.same hk)
    have HB22 := hid (HB21.out.same hk)
    have HPN : Hid (∀ b, dv'.ownBlock = some b → w.heap.size + 1 + 1 < b) := fun b hb => by have := hdv b hb; omega
    have HPV : Hid (∀ b, pv'.ownBlock = some b → w.heap.size + 1 + 1 < b) := fun b hb => by have := hpv b hb; omega
    have hP2 : w.heap.size + 1 + 1 < P := by omega
    have hz2 := hk.size
    clear hp hdv hpv hk g0 g1 hP
    go_wp2_with fail
    go_loopw [42] (fun i wr => ∃ (k : Nat) (pw : Value), k ≤ u ∧ i = .int .i64 k ∧ Hid (Plat wr P dv' pw (runD dur (dataP ps) ((datOpS os).take k)).1 (runD dur (dataP ps) ((datOpS os).take k)).2) ∧ Hid (∀ b, pw.ownBlock = some b → w.heap.size + 1 + 1 < b) ∧ Hid (Blk wr (w.heap.size + 1) 42 [.bool false, .int .i64 0, .slice none 0 0, .slice none 0 0]) ∧ Hid (Blk wr (w.heap.size + 1 + 1) 42 [.bool true, .int .i64 u, .slice none 0 0, .slice none 0 0]) ∧ Hid (Same w wr)) (fun i _ => u - (intOf i).toNat)
    case atStart => exact ⟨0, pv', Nat.zero_le _, rfl, HP2, HPV, HB12, HB22, HKW2⟩
    case round =>
     obtain ⟨k, pw, hk, rfl, HPr, HPW, HB1r, HB2r, HKr⟩ := hrel
     have hvv := runD_valid HYS.out (datOpS os) k (by rw [HDO.out]; omega)
     have HVV := hid hvv
     have HVL : Hid (Valid (runD dur (dataP ps) ((datOpS os).take k)).1.length (runD dur (dataP ps) ((datOpS os).take k)).2) := by unfold Hid; rw [hvv.1]; exact hvv.2
     have hlz := HB2r.out.lt
     clear hvv
     by_cases hlt : k < u
     ·have hlp : k < os.length := by rw [HL.out]; omega
      have hki : (k : Int) < (u : Int) := by omega
      have hc : ∀ i, i < 3 → w.cell? ⟨bo, off + (k * 3 + i), none⟩ = (kOp.cells os[k])[i]? := fun i hi => by
       rcases HOS.out.row with ⟨hps, _⟩ | ⟨b, off', c', he, hc⟩
       ·rw [hps] at hlp; simp at hlp
       ·injection he with he1 he2 he3
        obtain ⟨rfl, rfl⟩ : b = bo ∧ off' = off := by injection he1 with he1; injection he1 with e1 e2; exact ⟨e1.symm, e2.symm⟩
        exact hc k i hlp hi
      have hrd : Rd .u8 w os[k].v os[k].bs := HOS.out.data _ (List.getElem_mem hlp)
      have hok : (datOpS os)[k]'(by rw [HDO.out]; omega) = os[k].dat := by simp [datOpS]
      obtain ⟨p, hp⟩ : ∃ p, os[k] = p := ⟨_, rfl⟩
      have d0 : wr.cell? ⟨bo, off + k * 3, none⟩ = some (.int .i64 p.kind) := HKr.out.cellOf (p := ⟨bo, off + k * 3, none⟩) (by have h := hc 0 (by decide); rw [hp] at h; exact h) id
      have d1 : wr.cell? ⟨bo, off + k * 3 + 1, none⟩ = some (.int .i64 p.sec) := HKr.out.cellOf (p := ⟨bo, off + k * 3 + 1, none⟩) (by have h := hc 1 (by decide); rw [← Nat.add_assoc, hp] at h; exact h) id
      have d2 : wr.cell? ⟨bo, off + k * 3 + 2, none⟩ = some p.v := HKr.out.cellOf (p := ⟨bo, off + k * 3 + 2, none⟩) (by have h := hc 2 (by decide); rw [← Nat.add_assoc, hp] at h; exact h) id
      rw [hp] at hrd hok
      clear hp hc
      obtain ⟨kd, sc, pz, ob⟩ := p
      dsimp only at hrd d0 d1 d2
      obtain ⟨av, cv, e1⟩ := hrd.form
      subst e1
      obtain ⟨nv, hnv⟩ : ∃ x, ob.length = x := ⟨_, rfl⟩
      rw [hnv] at hrd d2
      have HRB := (show Hid (Rd .u8 w (.slice av nv cv) ob) from hrd)
      have HST : Hid (runD dur (dataP ps) ((datOpS os).take (k + 1)) = doD (runD dur (dataP ps) ((datOpS os).take k)).1 (runD dur (dataP ps) ((datOpS os).take k)).2 (kd, sc, ob)) := by
       unfold Hid
       rw [runD_step (by rw [HDO.out]; omega), hok]
       rfl
      clear hrd hok hnv
      have hkal : Same wr (wr.alloc (.cells #[.int .i64 kd, .int .i64 sc, .slice av nv cv] 95)) := (Kept.refl _ _).alloc _
      have HKAL := hid hkal
      clear hkal
      go_wp2_with fail
      refine (doOp_any P dv' pw _ _ kd sc (.slice av nv cv) ob _ (HPr.out.same HKAL.out) HVL.out (HRB.out.same (HKr.out.trans HKAL.out)) (fun hb b hl => ?_)).mono ?_
      ·have h1 := rd_looks HRB.out hb b hl
       exact ⟨by omega, fun e => by have := HPN.out b e; omega, fun e => by have := HPW.out b e; omega⟩
      rintro e w3 ⟨rfl, ⟨pw2, hp2, hn2⟩, hk2⟩
      have H1 := hid hp2
      have H2 : Hid (∀ b, pw2.ownBlock = some b → w.heap.size + 1 + 1 < b) := fun b hb => by
       rcases hn2 b hb with h | h
       ·exact HPW.out b h
       ·simp only [World.size_alloc] at h; omega
      have HNR : Hid (∀ b, (b = P ∨ dv'.ownBlock = some b ∨ pw.ownBlock = some b) → w.heap.size + 1 + 1 < b) := fun b hb => by
       rcases hb with rfl | hb | hb
       ·exact hP2
       ·exact HPN.out b hb
       ·exact HPW.out b hb
      have H3 := hid ((HB1r.out.alloc _).kept hk2 (fun e => by have := HNR.out _ e; omega))
      have H4 := hid ((HB2r.out.alloc _).kept hk2 (fun e => by have := HNR.out _ e; omega))
      have H5 := (show Hid (Same w w3) from (HKr.out.trans HKAL.out).next hk2 (fun i hi e => by have := HNR.out i e; omega))
      clear hp2 hn2 hk2 d0 d1 d2
      go_wp2
      go_roundw
      case rel => exact ⟨k + 1, pw2, by omega, by go_num, by unfold Hid; rw [HST.out]; exact H1.out, H2, H3, H4, H5⟩
      case measure => simp [intOf]; omega
     ·have hku : k = u := by omega
      subst hku
      go_wp2_with fail
      refine (disk_any P dv' pw _ _ _ HPr.out HVL.out).mono ?_
      rintro e w4 ⟨a, n, c, a', n', c', qs, rfl, hq, hf, ho, hk⟩
      have HIS2 := hid (HIS.out (runD dur (dataP ps) ((datOpS os).take k)).1 (dataP qs) (fun _ => by rw [hq]) (fun h => absurd HYS.out h))
      have HO2 := hid ho
      have HF2 : Hid (∀ b, footD (.slice a n c) (.slice a' n' c') qs b → w.heap.size + 1 + 1 < b) := fun b hb => by have := hf b hb; omega
      have HKW := hid (HKr.out.trans hk)
      have HB12 := hid (HB1r.out.same hk)
      have HB22 := hid (HB2r.out.same hk)
      clear hq hf ho hk
      obtain ⟨y0, y1, y2, y3⟩ := HB22.out.all4
      have fy := HB22.out.frozen
      have ly := HB22.out.lt
      obtain ⟨z0, z1, z2, z3⟩ := HB12.out.all4
      have fz := HB12.out.frozen
      have lz := HB12.out.lt
      have HYF := (show Hid (Blk ((w4.setCell ⟨w.heap.size + 1 + 1, 2, none⟩ (.slice a n c)).setCell ⟨w.heap.size + 1 + 1, 3, none⟩ (.slice a' n' c')) (w.heap.size + 1 + 1) 42 [.bool true, .int .i64 k, .slice a n c, .slice a' n' c']) from (HB22.out.stored 2 _).stored 3 _)
      have HS1 := (show Hid (Kept (fun b => b = w.heap.size + 1 + 1) w4 ((w4.setCell ⟨w.heap.size + 1 + 1, 2, none⟩ (.slice a n c)).setCell ⟨w.heap.size + 1 + 1, 3, none⟩ (.slice a' n' c'))) from Kept.setCell (R := fun b => b = w.heap.size + 1 + 1) (Kept.setCell (R := fun b => b = w.heap.size + 1 + 1) (Kept.refl _ _) (p := ⟨w.heap.size + 1 + 1, 2, none⟩) (.inr rfl) _) (p := ⟨w.heap.size + 1 + 1, 3, none⟩) (.inr rfl) _)
      have HZF := (show Hid (Blk ((w4.setCell ⟨w.heap.size + 1 + 1, 2, none⟩ (.slice a n c)).setCell ⟨w.heap.size + 1 + 1, 3, none⟩ (.slice a' n' c')) (w.heap.size + 1) 42 [.bool false, .int .i64 0, .slice none 0 0, .slice none 0 0]) from HB12.out.kept HS1.out (by intro e; omega))
      have HOF := (show Hid (OwnD 0 128 5 ((w4.setCell ⟨w.heap.size + 1 + 1, 2, none⟩ (.slice a n c)).setCell ⟨w.heap.size + 1 + 1, 3, none⟩ (.slice a' n' c')) (.slice a n c) (.slice a' n' c') (runD dur (dataP ps) ((datOpS os).take k)).1 qs) from HO2.out.kept HS1.out (fun b hb e => by have := HF2.out b hb; omega))
      have HKF := (show Hid (Same w ((w4.setCell ⟨w.heap.size + 1 + 1, 2, none⟩ (.slice a n c)).setCell ⟨w.heap.size + 1 + 1, 3, none⟩ (.slice a' n' c'))) from HKW.out.next HS1.out (fun i hi e => by omega))
      go_wp2
      have hbf := (((HZF.out.stored 0 (.bool true)).stored 1 (.int .i64 k)).stored 2 (.slice a n c)).stored 3 (.slice a' n' c')
      obtain ⟨f0, f1, f2, f3⟩ := hbf.all4
      refine bodyPost_ret (v := .agg #[.bool true, .int .i64 k, .slice a n c, .slice a' n' c']) (by simp [results, Tryz.results11, go_sem, f0, f1, f2, f3]) rfl ?_
      have q3 := HOF.out.kept (w' := ((((((w4.setCell ⟨w.heap.size + 1 + 1, 2, none⟩ (.slice a n c)).setCell ⟨w.heap.size + 1 + 1, 3, none⟩ (.slice a' n' c')).setCell ⟨w.heap.size + 1, 0, none⟩ (.bool true)).setCell ⟨w.heap.size + 1, 1, none⟩ (.int .i64 k)).setCell ⟨w.heap.size + 1, 2, none⟩ (.slice a n c)).setCell ⟨w.heap.size + 1, 3, none⟩ (.slice a' n' c'))) (R := fun b => b = w.heap.size + 1) (by
       (iterate 4 refine Kept.setCell (R := fun b => b = w.heap.size + 1) ?_ (.inr rfl) _)
       exact Kept.refl _ _) (fun b hb e => by have := HF2.out b hb; omega)
      have q4 : Same w ((((((w4.setCell ⟨w.heap.size + 1 + 1, 2, none⟩ (.slice a n c)).setCell ⟨w.heap.size + 1 + 1, 3, none⟩ (.slice a' n' c')).setCell ⟨w.heap.size + 1, 0, none⟩ (.bool true)).setCell ⟨w.heap.size + 1, 1, none⟩ (.int .i64 k)).setCell ⟨w.heap.size + 1, 2, none⟩ (.slice a n c)).setCell ⟨w.heap.size + 1, 3, none⟩ (.slice a' n' c')) := by
       (iterate 4 refine Kept.setCell ?_ (.inl (Nat.le_succ _)) _)
       exact HKF.out
      have q2 : ∀ b, footD (.slice a n c) (.slice a' n' c') qs b → w.heap.size ≤ b := fun b hb => by have := HF2.out b hb; omega
      first | exact ⟨a, n, c, a', n', c', (runD dur (dataP ps) ((datOpS os).take k)).1, qs, rfl, HIS2.out, q2, q3, q4⟩ | exact ⟨a, n, c, a', n', c', rfl, (runD dur (dataP ps) ((datOpS os).take k)).1, qs, HIS2.out, q2, q3, q4⟩
  ·go_enter Tryz.func11, Tryz.ntmps11
   go_wp2_with fail
   rw [← hwa]
   clear hwa
   refine (implValid_any _ _ dur ps _ (HV.out.same HKA.out)).mono ?_
   rintro e w1 ⟨⟨B, rfl, hB⟩, hk1⟩
   have HBV : Hid (B = true ↔ Valid dur.length (dataP ps)) := hB
   have HK1 := hid (HKA.out.trans hk1)
   have HB01 := hid (HB0.out.same hk1)
   have HB11 := hid (HB1.out.same hk1)
   have HB21 := hid (HB2.out.same hk1)
   have hz1 : w.heap.size + 1 + 1 < w1.heap.size := HB21.out.lt
   clear hk1 hB
   obtain ⟨g0, g1⟩ := HB01.out.all2
   cases B with
   | false =>
    have hno : ¬ Valid dur.length (dataP ps) := fun h => by have := HBV.out.2 h; cases this
    have HNO := hid hno
    clear hno
    go_wp2_with fail
    refine (cloneDisk_any _ _ dur ps _ HDL.out HNL.out HSP.out (HV.out.same HK1.out)).mono ?_
    rintro e w2 ⟨a, n, c, a', n', c', qs, rfl, hq, hf, ho, hk⟩
    have HIS2 := hid (HIS.out dur (dataP qs) (fun h => absurd h HNO.out) (fun _ => ⟨rfl, hq⟩))
    have HO2 := hid ho
    have HF2 : Hid (∀ b, footD (.slice a n c) (.slice a' n' c') qs b → w.heap.size + 1 + 1 < b) := fun b hb => by have := hf b hb; omega
    have HKW := hid (HK1.out.trans hk)
    have HB12 := hid (HB11.out.same hk)
    have HB22 := hid (HB21.out.same hk)
    clear hq hf ho hk g0 g1
    obtain ⟨y0, y1, y2, y3⟩ := HB22.out.all4
    have fy := HB22.out.frozen
    have ly := HB22.out.lt
    obtain ⟨z0, z1, z2, z3⟩ := HB12.out.all4
    have fz := HB12.out.frozen
    have lz := HB12.out.lt
    have HYF := (show Hid (Blk ((w2.setCell ⟨w.heap.size + 1 + 1, 2, none⟩ (.slice a n c)).setCell ⟨w.heap.size + 1 + 1, 3, none⟩ (.slice a' n' c')) (w.heap.size + 1 + 1) 42 [.bool true, .int .i64 u, .slice a n c, .slice a' n' c']) from (HB22.out.stored 2 _).stored 3 _)
    have HS1 := (show Hid (Kept (fun b => b = w.heap.size + 1 + 1) w2 ((w2.setCell ⟨w.heap.size + 1 + 1, 2, none⟩ (.slice a n c)).setCell ⟨w.heap.size + 1 + 1, 3, none⟩ (.slice a' n' c'))) from Kept.setCell (R := fun b => b = w.heap.size + 1 + 1) (Kept.setCell (R := fun b => b = w.heap.size + 1 + 1) (Kept.refl _ _) (p := ⟨w.heap.size + 1 + 1, 2, none⟩) (.inr rfl) _) (p := ⟨w.heap.size + 1 + 1, 3, none⟩) (.inr rfl) _)
    have HZF := (show Hid (Blk ((w2.setCell ⟨w.heap.size + 1 + 1, 2, none⟩ (.slice a n c)).setCell ⟨w.heap.size + 1 + 1, 3, none⟩ (.slice a' n' c')) (w.heap.size + 1) 42 [.bool false, .int .i64 0, .slice none 0 0, .slice none 0 0]) from HB12.out.kept HS1.out (by intro e; omega))
    have HOF := (show Hid (OwnD 0 128 5 ((w2.setCell ⟨w.heap.size + 1 + 1, 2, none⟩ (.slice a n c)).setCell ⟨w.heap.size + 1 + 1, 3, none⟩ (.slice a' n' c')) (.slice a n c) (.slice a' n' c') dur qs) from HO2.out.kept HS1.out (fun b hb e => by have := HF2.out b hb; omega))
    have HKF := (show Hid (Same w ((w2.setCell ⟨w.heap.size + 1 + 1, 2, none⟩ (.slice a n c)).setCell ⟨w.heap.size + 1 + 1, 3, none⟩ (.slice a' n' c'))) from HKW.out.next HS1.out (fun i hi e => by omega))
    go_wp2
    have hbf := (((HZF.out.stored 0 (.bool true)).stored 1 (.int .i64 u)).stored 2 (.slice a n c)).stored 3 (.slice a' n' c')
    obtain ⟨f0, f1, f2, f3⟩ := hbf.all4
    refine bodyPost_ret (v := .agg #[.bool true, .int .i64 u, .slice a n c, .slice a' n' c']) (by simp [results, Tryz.results11, go_sem, f0, f1, f2, f3]) rfl ?_
    have q3 := HOF.out.kept (w' := ((((((w2.setCell ⟨w.heap.size + 1 + 1, 2, none⟩ (.slice a n c)).setCell ⟨w.heap.size + 1 + 1, 3, none⟩ (.slice a' n' c')).setCell ⟨w.heap.size + 1, 0, none⟩ (.bool true)).setCell ⟨w.heap.size + 1, 1, none⟩ (.int .i64 u)).setCell ⟨w.heap.size + 1, 2, none⟩ (.slice a n c)).setCell ⟨w.heap.size + 1, 3, none⟩ (.slice a' n' c'))) (R := fun b => b = w.heap.size + 1) (by
     (iterate 4 refine Kept.setCell (R := fun b => b = w.heap.size + 1) ?_ (.inr rfl) _)
     exact Kept.refl _ _) (fun b hb e => by have := HF2.out b hb; omega)
    have q4 : Same w ((((((w2.setCell ⟨w.heap.size + 1 + 1, 2, none⟩ (.slice a n c)).setCell ⟨w.heap.size + 1 + 1, 3, none⟩ (.slice a' n' c')).setCell ⟨w.heap.size + 1, 0, none⟩ (.bool true)).setCell ⟨w.heap.size + 1, 1, none⟩ (.int .i64 u)).setCell ⟨w.heap.size + 1, 2, none⟩ (.slice a n c)).setCell ⟨w.heap.size + 1, 3, none⟩ (.slice a' n' c')) := by
     (iterate 4 refine Kept.setCell ?_ (.inl (Nat.le_succ _)) _)
     exact HKF.out
    have q2 : ∀ b, footD (.slice a n c) (.slice a' n' c') qs b → w.heap.size ≤ b := fun b hb => by have := HF2.out b hb; omega
    first | exact ⟨a, n, c, a', n', c', dur, qs, rfl, HIS2.out, q2, q3, q4⟩ | exact ⟨a, n, c, a', n', c', rfl, dur, qs, HIS2.out, q2, q3, q4⟩
   | true =>
    have HYS : Hid (Valid dur.length (dataP ps)) := HBV.out.1 rfl
    go_wp2_with fail
    refine (openDisk_any _ _ dur ps _ (HV.out.same HK1.out) HYS.out).mono ?_
    rintro e w2 ⟨P, dv', pv', rfl, hp, ⟨hP, hdv, hpv⟩, hk⟩
    have HP2 := hid hp
    have HKW2 := hid (HK1.out.trans hk)
    have HB12 := hid (HB11.out.same hk)
    have HB22 := hid (HB21.out.same hk)
    have HPN : Hid (∀ b, dv'.ownBlock = some b → w.heap.size + 1 + 1 < b) := fun b hb => by have := hdv b hb; omega
    have HPV : Hid (∀ b, pv'.ownBlock = some b → w.heap.size + 1 + 1 < b) := fun b hb => by have := hpv b hb; omega
    have hP2 : w.heap.size + 1 + 1 < P := by omega
    have hz2 := hk.size
    clear hp hdv hpv hk g0 g1 hP
    go_wp2_with fail
    go_loopw [42] (fun i wr => ∃ (k : Nat) (pw : Value), k ≤ u ∧ i = .int .i64 k ∧ Hid (Plat wr P dv' pw (runD dur (dataP ps) ((datOpS os).take k)).1 (runD dur (dataP ps) ((datOpS os).take k)).2) ∧ Hid (∀ b, pw.ownBlock = some b → w.heap.size + 1 + 1 < b) ∧ Hid (Blk wr (w.heap.size + 1) 42 [.bool false, .int .i64 0, .slice none 0 0, .slice none 0 0]) ∧ Hid (Blk wr (w.heap.size + 1 + 1) 42 [.bool true, .int .i64 u, .slice none 0 0, .slice none 0 0]) ∧ Hid (Same w wr)) (fun i _ => u - (intOf i).toNat)
    case atStart => exact ⟨0, pv', Nat.zero_le _, rfl, HP2, HPV, HB12, HB22, HKW2⟩
    case round =>
     obtain ⟨k, pw, hk, rfl, HPr, HPW, HB1r, HB2r, HKr⟩ := hrel
     have hvv := runD_valid HYS.out (datOpS os) k (by rw [HDO.out]; omega)
     have HVV := hid hvv
     have HVL : Hid (Valid (runD dur (dataP ps) ((datOpS os).take k)).1.length (runD dur (dataP ps) ((datOpS os).take k)).2) := by unfold Hid; rw [hvv.1]; exact hvv.2
     have hlz := HB2r.out.lt
     clear hvv
     by_cases hlt : k < u
     ·have hlp : k < os.length := by rw [HL.out]; omega
      have hki : (k : Int) < (u : Int) := by omega
      have hc : ∀ i, i < 3 → w.cell? ⟨bo, off + (k * 3 + i), none⟩ = (kOp.cells os[k])[i]? := fun i hi => by
       rcases HOS.out.row with ⟨hps, _⟩ | ⟨b, off', c', he, hc⟩
       ·rw [hps] at hlp; simp at hlp
       ·injection he with he1 he2 he3
        obtain ⟨rfl, rfl⟩ : b = bo ∧ off' = off := by injection he1 with he1; injection he1 with e1 e2; exact ⟨e1.symm, e2.symm⟩
        exact hc k i hlp hi
      have hrd : Rd .u8 w os[k].v os[k].bs := HOS.out.data _ (List.getElem_mem hlp)
      have hok : (datOpS os)[k]'(by rw [HDO.out]; omega) = os[k].dat := by simp [datOpS]
      obtain ⟨p, hp⟩ : ∃ p, os[k] = p := ⟨_, rfl⟩
      have d0 : wr.cell? ⟨bo, off + k * 3, none⟩ = some (.int .i64 p.kind) := HKr.out.cellOf (p := ⟨bo, off + k * 3, none⟩) (by have h := hc 0 (by decide); rw [hp] at h; exact h) id
      have d1 : wr.cell? ⟨bo, off + k * 3 + 1, none⟩ = some (.int .i64 p.sec) := HKr.out.cellOf (p := ⟨bo, off + k * 3 + 1, none⟩) (by have h := hc 1 (by decide); rw [← Nat.add_assoc, hp] at h; exact h) id
      have d2 : wr.cell? ⟨bo, off + k * 3 + 2, none⟩ = some p.v := HKr.out.cellOf (p := ⟨bo, off + k * 3 + 2, none⟩) (by have h := hc 2 (by decide); rw [← Nat.add_assoc, hp] at h; exact h) id
      rw [hp] at hrd hok
      clear hp hc
      obtain ⟨kd, sc, pz, ob⟩ := p
      dsimp only at hrd d0 d1 d2
      obtain ⟨av, cv, e1⟩ := hrd.form
      subst e1
      obtain ⟨nv, hnv⟩ : ∃ x, ob.length = x := ⟨_, rfl⟩
      rw [hnv] at hrd d2
      have HRB := (show Hid (Rd .u8 w (.slice av nv cv) ob) from hrd)
      have HST : Hid (runD dur (dataP ps) ((datOpS os).take (k + 1)) = doD (runD dur (dataP ps) ((datOpS os).take k)).1 (runD dur (dataP ps) ((datOpS os).take k)).2 (kd, sc, ob)) := by
       unfold Hid
       rw [runD_step (by rw [HDO.out]; omega), hok]
       rfl
      clear hrd hok hnv
      have hkal : Same wr (wr.alloc (.cells #[.int .i64 kd, .int .i64 sc, .slice av nv cv] 95)) := (Kept.refl _ _).alloc _
      have HKAL := hid hkal
      clear hkal
      go_wp2_with fail
      refine (doOp_any P dv' pw _ _ kd sc (.slice av nv cv) ob _ (HPr.out.same HKAL.out) HVL.out (HRB.out.same (HKr.out.trans HKAL.out)) (fun hb b hl => ?_)).mono ?_
      ·have h1 := rd_looks HRB.out hb b hl
       exact ⟨by omega, fun e => by have := HPN.out b e; omega, fun e => by have := HPW.out b e; omega⟩
      rintro e w3 ⟨rfl, ⟨pw2, hp2, hn2⟩, hk2⟩
      have H1 := hid hp2
      have H2 : Hid (∀ b, pw2.ownBlock = some b → w.heap.size + 1 + 1 < b) := fun b hb => by
       rcases hn2 b hb with h | h
       ·exact HPW.out b h
       ·simp only [World.size_alloc] at h; omega
      have HNR : Hid (∀ b, (b = P ∨ dv'.ownBlock = some b ∨ pw.ownBlock = some b) → w.heap.size + 1 + 1 < b) := fun b hb => by
       rcases hb with rfl | hb | hb
       ·exact hP2
       ·exact HPN.out b hb
       ·exact HPW.out b hb
      have H3 := hid ((HB1r.out.alloc _).kept hk2 (fun e => by have := HNR.out _ e; omega))
      have H4 := hid ((HB2r.out.alloc _).kept hk2 (fun e => by have := HNR.out _ e; omega))
      have H5 := (show Hid (Same w w3) from (HKr.out.trans HKAL.out).next hk2 (fun i hi e => by have := HNR.out i e; omega))
      clear hp2 hn2 hk2 d0 d1 d2
      go_wp2
      go_roundw
      case rel => exact ⟨k + 1, pw2, by omega, by go_num, by unfold Hid; rw [HST.out]; exact H1.out, H2, H3, H4, H5⟩
      case measure => simp [intOf]; omega
     ·have hku : k = u := by omega
      subst hku
      go_wp2_with fail
      refine (disk_any P dv' pw _ _ _ HPr.out HVL.out).mono ?_
      rintro e w4 ⟨a, n, c, a', n', c', qs, rfl, hq, hf, ho, hk⟩
      have HIS2 := hid (HIS.out (runD dur (dataP ps) ((datOpS os).take k)).1 (dataP qs) (fun _ => by rw [hq]) (fun h => absurd HYS.out h))
      have HO2 := hid ho
      have HF2 : Hid (∀ b, footD (.slice a n c) (.slice a' n' c') qs b → w.heap.size + 1 + 1 < b) := fun b hb => by have := hf b hb; omega
      have HKW := hid (HKr.out.trans hk)
      have HB12 := hid (HB1r.out.same hk)
      have HB22 := hid (HB2r.out.same hk)
      clear hq hf ho hk
      obtain ⟨y0, y1, y2, y3⟩ := HB22.out.all4
      have fy := HB22.out.frozen
      have ly := HB22.out.lt
      obtain ⟨z0, z1, z2, z3⟩ := HB12.out.all4
      have fz := HB12.out.frozen
      have lz := HB12.out.lt
      have HYF := (show Hid (Blk ((w4.setCell ⟨w.heap.size + 1 + 1, 2, none⟩ (.slice a n c)).setCell ⟨w.heap.size + 1 + 1, 3, none⟩ (.slice a' n' c')) (w.heap.size + 1 + 1) 42 [.bool true, .int .i64 k, .slice a n c, .slice a' n' c']) from (HB22.out.stored 2 _).stored 3 _)
      have HS1 := (show Hid (Kept (fun b => b = w.heap.size + 1 + 1) w4 ((w4.setCell ⟨w.heap.size + 1 + 1, 2, none⟩ (.slice a n c)).setCell ⟨w.heap.size + 1 + 1, 3, none⟩ (.slice a' n' c'))) from Kept.setCell (R := fun b => b = w.heap.size + 1 + 1) (Kept.setCell (R := fun b => b = w.heap.size + 1 + 1) (Kept.refl _ _) (p := ⟨w.heap.size + 1 + 1, 2, none⟩) (.inr rfl) _) (p := ⟨w.heap.size + 1 + 1, 3, none⟩) (.inr rfl) _)
      have HZF := (show Hid (Blk ((w4.setCell ⟨w.heap.size + 1 + 1, 2, none⟩ (.slice a n c)).setCell ⟨w.heap.size + 1 + 1, 3, none⟩ (.slice a' n' c')) (w.heap.size + 1) 42 [.bool false, .int .i64 0, .slice none 0 0, .slice none 0 0]) from HB12.out.kept HS1.out (by intro e; omega))
      have HOF := (show Hid (OwnD 0 128 5 ((w4.setCell ⟨w.heap.size + 1 + 1, 2, none⟩ (.slice a n c)).setCell ⟨w.heap.size + 1 + 1, 3, none⟩ (.slice a' n' c')) (.slice a n c) (.slice a' n' c') (runD dur (dataP ps) ((datOpS os).take k)).1 qs) from HO2.out.kept HS1.out (fun b hb e => by have := HF2.out b hb; omega))
      have HKF := (show Hid (Same w ((w4.setCell ⟨w.heap.size + 1 + 1, 2, none⟩ (.slice a n c)).setCell ⟨w.heap.size + 1 + 1, 3, none⟩ (.slice a' n' c'))) from HKW.out.next HS1.out (fun i hi e => by omega))
      go_wp2
      have hbf := (((HZF.out.stored 0 (.bool true)).stored 1 (.int .i64 k)).stored 2 (.slice a n c)).stored 3 (.slice a' n' c')
      obtain ⟨f0, f1, f2, f3⟩ := hbf.all4
      refine bodyPost_ret (v := .agg #[.bool true, .int .i64 k, .slice a n c, .slice a' n' c']) (by simp [results, Tryz.results11, go_sem, f0, f1, f2, f3]) rfl ?_
      have q3 := HOF.out.kept (w' := ((((((w4.setCell ⟨w.heap.size + 1 + 1, 2, none⟩ (.slice a n c)).setCell ⟨w.heap.size + 1 + 1, 3, none⟩ (.slice a' n' c')).setCell ⟨w.heap.size + 1, 0, none⟩ (.bool true)).setCell ⟨w.heap.size + 1, 1, none⟩ (.int .i64 k)).setCell ⟨w.heap.size + 1, 2, none⟩ (.slice a n c)).setCell ⟨w.heap.size + 1, 3, none⟩ (.slice a' n' c'))) (R := fun b => b = w.heap.size + 1) (by
       (iterate 4 refine Kept.setCell (R := fun b => b = w.heap.size + 1) ?_ (.inr rfl) _)
       exact Kept.refl _ _) (fun b hb e => by have := HF2.out b hb; omega)
      have q4 : Same w ((((((w4.setCell ⟨w.heap.size + 1 + 1, 2, none⟩ (.slice a n c)).setCell ⟨w.heap.size + 1 + 1, 3, none⟩ (.slice a' n' c')).setCell ⟨w.heap.size + 1, 0, none⟩ (.bool true)).setCell ⟨w.heap.size + 1, 1, none⟩ (.int .i64 k)).setCell ⟨w.heap.size + 1, 2, none⟩ (.slice a n c)).setCell ⟨w.heap.size + 1, 3, none⟩ (.slice a' n' c')) := by
       (iterate 4 refine Kept.setCell ?_ (.inl (Nat.le_succ _)) _)
       exact HKF.out
      have q2 : ∀ b, footD (.slice a n c) (.slice a' n' c') qs b → w.heap.size ≤ b := fun b hb => by have := HF2.out b hb; omega
      first | exact ⟨a, n, c, a', n', c', (runD dur (dataP ps) ((datOpS os).take k)).1, qs, rfl, HIS2.out, q2, q3, q4⟩ | exact ⟨a, n, c, a', n', c', rfl, (runD dur (dataP ps) ((datOpS os).take k)).1, qs, HIS2.out, q2, q3, q4⟩
end Go.Proofs.YtdbpaadndaoihaaGreatDoor
