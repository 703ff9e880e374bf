import Derived.Test.YtbilnlgjpchgiaaDoorG04
import Derived.Test.YtbilnlgjpchgiaaDoorG02
import Derived.Test.YtbilnlgjpchgiaaDoorG01
import Derived.Test.YtbilnlgjpchgiaaDoorG03
import Derived.Deep.DeepCutAuto
import Derived.Deep.AppendSrc
import Derived.Deep.MidRow
import Derived.Laws.IdiomStrings
namespace Go.Proofs.YtbilnlgjpchgiaaDoor
set_option maxRecDepth 100000
set_option maxHeartbeats 16000000
set_option linter.unusedVariables false
set_option linter.unusedSimpArgs false
open Go Go.RowKit
structure StRep where
 fa : Int
 av : Value
 xs : List EAn
 dv : Value
 pv : Value
 dur : List Int
 ps : List PW
 up : Bool
 lk : FR
 hd : FR
 rm : FR
 fr : Int
def StRep.val (x : StRep) : Value := .agg #[.int .i64 x.fa, x.av, x.dv, x.pv, .bool x.up, x.lk.v, x.hd.v, x.rm.v, .int .i64 x.fr]
def StRep.dat (x : StRep) := (x.fa, datAn x.xs, x.dur, dataP x.ps, x.up, x.lk.bs, x.hd.bs, x.rm.bs, x.fr)
def StRep.szs (x : StRep) : Int := (x.xs.length : Int) + sizeAn x.xs + (x.dur.length : Int) + (x.ps.length : Int) + (sizeP x.ps : Int) + (x.lk.n : Int) + (x.hd.n : Int) + (x.rm.n : Int)
structure StRep.rd (w : World) (x : StRep) : Prop where
 an : RdAn w x.av x.xs
 dk : RdD w x.dv x.pv x.dur x.ps
 lk : RdF 3 w x.lk
 hd : RdF 3 w x.hd
 rm : RdF 1 w x.rm
structure StRep.own (w : World) (x : StRep) : Prop where
 an : OwnAn w x.av x.xs
 dk : OwnD 0 148 5 w x.dv x.pv x.dur x.ps
 lk : OwnL w (x.lk.rows 3)
 hd : OwnL w (x.hd.rows 3)
 rm : OwnL w (x.rm.rows 1)
theorem StRep.rd.same {w w' : World} {x : StRep} (h : StRep.rd w x) (hk : Same w w') : StRep.rd w' x := ⟨h.an.same hk, h.dk.same hk, h.lk.same hk, h.hd.same hk, h.rm.same hk⟩
theorem StRep.own.same {w w' : World} {x : StRep} (h : StRep.own w x) (hk : Same w w') : StRep.own w' x := ⟨h.an.same hk, h.dk.same hk, h.lk.same hk, h.hd.same hk, h.rm.same hk⟩
theorem StRep.own.rd {w : World} {x : StRep} (h : StRep.own w x) : StRep.rd w x := ⟨h.an.rd, h.dk.rd, FR.own_rd h.lk, FR.own_rd h.hd, FR.own_rd h.rm⟩
theorem szReport_any (x : StRep) (left : Int) (w : World) (h0 : 0 ≤ left) (h1 : left ≤ 1048576) (h : StRep.rd w x) :
  Calls Tryd.prog 11 #[x.val, .int .i64 left] w fun e w' => ∃ r : Int, e = .returned (.int .i64 r) ∧ (r = -1 ∨ (r = left - x.szs ∧ 0 ≤ r)) ∧ Same w w' := by
 obtain ⟨fa, av, xs, dv, pv, dur, ps, up, ⟨le, la, ln, lc, lb⟩, ⟨he, ha, hn, hc, hb⟩, ⟨re, ra, rn, rc, rb⟩, fr⟩ := x
 obtain ⟨ran, rdk, rlk, rhd, rrm⟩ := h
 dsimp only at ran rdk rlk rhd rrm
 dsimp only [StRep.val, FR.v]
 obtain ⟨ka, kc, rfl⟩ := ran.form
 obtain ⟨da, dc, rfl⟩ := rdk.dur.form
 obtain ⟨pa, pc, rfl⟩ := rdk.pend.form
 have m1 := rlk.1
 have m2 := rhd.1
 have m3 := rrm.1
 dsimp only at m1 m2 m3
 have HAN := hid ran
 have HDK := hid rdk
 have HK0 := hid (sameA w [.int .i64 fa, .slice ka xs.length kc, .slice da dur.length dc, .slice pa ps.length pc, .bool up, .slice la ln lc, .slice ha hn hc, .slice ra rn rc, .int .i64 fr] 42)
 have HB0 := hid (Blk.newL w [.int .i64 fa, .slice ka xs.length kc, .slice da dur.length dc, .slice pa ps.length pc, .bool up, .slice la ln lc, .slice ha hn hc, .slice ra rn rc, .int .i64 fr] 42)
 clear ran rdk rlk rhd rrm
 go_enter Tryd.func11, Tryd.ntmps11
 go_wp2_with fail
 refine (szAnswerS_any _ xs left _ (by omega) (by omega) (HAN.out.same HK0.out)).mono ?_
 rintro e w1 ⟨r1, rfl, hr, hk1⟩
 have HK1 := hid (HK0.out.trans hk1)
 have HB1 := hid (HB0.out.same hk1)
 clear hk1
 have hnn := sizeAn_nonneg xs
 rcases hr with rfl | ⟨hr, hr1⟩
 ·go_wp2
  go_ret
  exact ⟨_, rfl, .inl rfl, HK1.out⟩
 have hle1 : r1 ≤ 1048576 := by omega
 have HR1 := hid hr
 clear hr
 have c2 := HB1.out.cell 2
 have c3 := HB1.out.cell 3
 dsimp only [List.getElem?_cons_zero, List.getElem?_cons_succ] at c2 c3
 go_wp2_with fail
 refine (szDisk_any _ _ dur ps r1 _ (by omega) (by omega) (HDK.out.same HK1.out)).mono ?_
 rintro e w2 ⟨r2, rfl, hr, hk2⟩
 have HK2 := hid (HK1.out.trans hk2)
 have HB2 := hid (HB1.out.same hk2)
 clear hk2 c2 c3
 rcases hr with rfl | ⟨hr, hr2⟩
 ·go_wp2
  go_ret
  exact ⟨_, rfl, .inl rfl, HK2.out⟩
 have hle2 : r2 ≤ 1048576 := by omega
 have HR2 := hid hr
 clear hr
 have c5 := HB2.out.cell 5
 have c6 := HB2.out.cell 6
 have c7 := HB2.out.cell 7
 dsimp only [List.getElem?_cons_zero, List.getElem?_cons_succ] at c5 c6 c7
 go_wp2_with fail
 refine (szLockS_any _ _ _ r2 _ (by omega) (by omega) m1).mono ?_
 rintro e wz ⟨r3, rfl, hr, rfl⟩
 replace hr : r3 = -1 ∨ (r3 = r2 - ln ∧ 0 ≤ r3) := by omega
 rcases hr with rfl | ⟨hr, hr3⟩
 ·go_wp2
  go_ret
  exact ⟨_, rfl, .inl rfl, HK2.out⟩
 have hle3 : r3 ≤ 1048576 := by omega
 have HR3 := hid hr
 clear hr
 go_wp2_with fail
 refine (szHoldS_any _ _ _ r3 _ (by omega) (by omega) m2).mono ?_
 rintro e wz ⟨r4, rfl, hr, rfl⟩
 replace hr : r4 = -1 ∨ (r4 = r3 - hn ∧ 0 ≤ r4) := by omega
 rcases hr with rfl | ⟨hr, hr4⟩
 ·go_wp2
  go_ret
  exact ⟨_, rfl, .inl rfl, HK2.out⟩
 have hle4 : r4 ≤ 1048576 := by omega
 have HR4 := hid hr
 clear hr
 go_wp2_with fail
 refine (szInt64SF_any _ _ _ r4 _ (by omega) (by omega) m3).mono ?_
 rintro e wz ⟨r5, rfl, hr, rfl⟩
 replace hr : r5 = -1 ∨ (r5 = r4 - rn ∧ 0 ≤ r5) := by omega
 rcases hr with rfl | ⟨hr, hr5⟩
 ·go_wp2
  go_ret
  exact ⟨_, rfl, .inl rfl, HK2.out⟩
 have hle5 : r5 ≤ 1048576 := by omega
 have HR5 := hid hr
 clear hr
 go_wp2
 go_ret
 exact ⟨_, rfl, .inr ⟨by have e1 := HR1.out; have e2 := HR2.out; have e3 := HR3.out; have e4 := HR4.out; have e5 := HR5.out; simp only [StRep.szs]; omega, hr5⟩, HK2.out⟩
theorem eqReport_own (x y : StRep) (w : World) (hn : x.szs ≤ 1048576) (hny : y.szs ≤ 1048576) (hd : x.dat = y.dat) (ha : StRep.own w x) (hb : StRep.own w y) :
  Calls Tryd.prog 15 #[x.val, y.val] w fun e w' => e = .returned (.bool true) ∧ Same w w' := by
 obtain ⟨fa, av, xs, dv, pv, dur, ps, up, ⟨le, la, ln, lc, lb⟩, ⟨he, ha1, hn1, hc1, hb1⟩, ⟨re, ra, rn, rc, rb⟩, fr⟩ := x
 obtain ⟨fa2, av2, xs2, dv2, pv2, dur2, ps2, up2, ⟨le2, la2, ln2, lc2, lb2⟩, ⟨he2, ha2, hn2, hc2, hb2⟩, ⟨re2, ra2, rn2, rc2, rb2⟩, fr2⟩ := y
 simp only [StRep.dat, Prod.mk.injEq] at hd
 obtain ⟨rfl, hdx, rfl, hdp, rfl, hdl, hdh, hdm, rfl⟩ := hd
 obtain ⟨oan, odk, olk, ohd, orm⟩ := ha
 obtain ⟨pan, pdk, plk, phd, prm⟩ := hb
 dsimp only at oan odk olk ohd orm pan pdk plk phd prm hdl hdh hdm
 have l1 := FR.own_len olk
 have l2 := FR.own_len ohd
 have l3 := FR.own_len orm
 dsimp only at l1 l2 l3
 simp only [StRep.szs] at hn hny
 dsimp only [StRep.val, FR.v]
 have hnn := sizeAn_nonneg xs
 obtain ⟨ka, kc, rfl⟩ := oan.rd.form
 obtain ⟨ka2, kc2, rfl⟩ := pan.rd.form
 obtain ⟨da, dc, rfl⟩ := odk.rd.dur.form
 obtain ⟨da2, dc2, rfl⟩ := pdk.rd.dur.form
 obtain ⟨pa, pc, rfl⟩ := odk.rd.pend.form
 obtain ⟨pa2, pc2, rfl⟩ := pdk.rd.pend.form
 have HK0 := (show Hid (Same w ((w.alloc (.cells #[.int .i64 fa, .slice ka xs.length kc, .slice da dur.length dc, .slice pa ps.length pc, .bool up, .slice la ln lc, .slice ha1 hn1 hc1, .slice ra rn rc, .int .i64 fr] 52)).alloc (.cells #[.int .i64 fa, .slice ka2 xs2.length kc2, .slice da2 dur.length dc2, .slice pa2 ps2.length pc2, .bool up, .slice la2 ln2 lc2, .slice ha2 hn2 hc2, .slice ra2 rn2 rc2, .int .i64 fr] 52))) from ((Kept.refl _ _).alloc _).alloc _)
 have HX0 := hid (Blk.newA w [.int .i64 fa, .slice ka xs.length kc, .slice da dur.length dc, .slice pa ps.length pc, .bool up, .slice la ln lc, .slice ha1 hn1 hc1, .slice ra rn rc, .int .i64 fr] 52 [.int .i64 fa, .slice ka2 xs2.length kc2, .slice da2 dur.length dc2, .slice pa2 ps2.length pc2, .bool up, .slice la2 ln2 lc2, .slice ha2 hn2 hc2, .slice ra2 rn2 rc2, .int .i64 fr] 52)
 have HY0 := hid (Blk.newB w [.int .i64 fa, .slice ka xs.length kc, .slice da dur.length dc, .slice pa ps.length pc, .bool up, .slice la ln lc, .slice ha1 hn1 hc1, .slice ra rn rc, .int .i64 fr] 52 [.int .i64 fa, .slice ka2 xs2.length kc2, .slice da2 dur.length dc2, .slice pa2 ps2.length pc2, .bool up, .slice la2 ln2 lc2, .slice ha2 hn2 hc2, .slice ra2 rn2 rc2, .int .i64 fr] 52)
 have HQ := (show Hid (datAn xs = datAn xs2 ∧ dataP ps = dataP ps2) from ⟨hdx, hdp⟩)
 have HOA := hid oan
 have HPA := hid pan
 have HOD := hid odk
 have HPD := hid pdk
 have HOL := hid olk
 have HPL := hid plk
 have HOH := hid ohd
 have HPH := hid phd
 have HOM := hid orm
 have HPM := hid prm
 have HE := (show Hid (lb = lb2 ∧ hb1 = hb2 ∧ rb = rb2) from ⟨hdl, hdh, hdm⟩)
 clear oan pan odk pdk olk plk ohd phd orm prm hdx hdp hdl hdh hdm
 go_enter Tryd.func15, Tryd.ntmps15
 go_wp2_with fail
 refine (eqAnswerS_own _ _ xs xs2 _ (by omega) HQ.out.1 (fun p hp => by have := sizeAn_mem xs p hp; omega) (HOA.out.same HK0.out) (HPA.out.same HK0.out)).mono ?_
 rintro e w1 ⟨rfl, hk⟩
 have HK1 := hid (HK0.out.trans hk)
 have HX1 := hid (HX0.out.same hk)
 have HY1 := hid (HY0.out.same hk)
 clear hk
 have p1_2 := HX1.out.cell 2
 have q1_2 := HY1.out.cell 2
 have p1_3 := HX1.out.cell 3
 have q1_3 := HY1.out.cell 3
 dsimp only [List.getElem?_cons_zero, List.getElem?_cons_succ] at p1_2 q1_2 p1_3 q1_3
 go_wp2_with fail
 refine (eqDisk_own 0 _ _ _ _ dur ps ps2 _ (by omega) (by omega) HQ.out.2 (fun p hp => by have := sizeP_mem ps p hp; omega) (HOD.out.same HK1.out) (HPD.out.same HK1.out)).mono ?_
 rintro e w2 ⟨rfl, hk⟩
 have HK2 := hid (HK1.out.trans hk)
 have HX2 := hid (HX1.out.same hk)
 have HY2 := hid (HY1.out.same hk)
 clear hk p1_2 q1_2 p1_3 q1_3
 have p2_4 := HX2.out.cell 4
 have q2_4 := HY2.out.cell 4
 have p2_5 := HX2.out.cell 5
 have q2_5 := HY2.out.cell 5
 dsimp only [List.getElem?_cons_zero, List.getElem?_cons_succ] at p2_4 q2_4 p2_5 q2_5
 go_wp2_with fail
 refine (eqLockS_own ⟨le, la, ln, lc, lb⟩ ⟨le2, la2, ln2, lc2, lb2⟩ _ (by dsimp only; omega) HE.out.1 (HOL.out.same HK2.out) (HPL.out.same HK2.out)).mono ?_
 rintro e w3 ⟨rfl, hk⟩
 have HK3 := hid (HK2.out.trans hk)
 have HX3 := hid (HX2.out.same hk)
 have HY3 := hid (HY2.out.same hk)
 clear hk p2_4 q2_4 p2_5 q2_5
 have p3_6 := HX3.out.cell 6
 have q3_6 := HY3.out.cell 6
 dsimp only [List.getElem?_cons_zero, List.getElem?_cons_succ] at p3_6 q3_6
 go_wp2_with fail
 refine (eqHoldS_own ⟨he, ha1, hn1, hc1, hb1⟩ ⟨he2, ha2, hn2, hc2, hb2⟩ _ (by dsimp only; omega) HE.out.2.1 (HOH.out.same HK3.out) (HPH.out.same HK3.out)).mono ?_
 rintro e w4 ⟨rfl, hk⟩
 have HK4 := hid (HK3.out.trans hk)
 have HX4 := hid (HX3.out.same hk)
 have HY4 := hid (HY3.out.same hk)
 clear hk p3_6 q3_6
 have p4_7 := HX4.out.cell 7
 have q4_7 := HY4.out.cell 7
 dsimp only [List.getElem?_cons_zero, List.getElem?_cons_succ] at p4_7 q4_7
 go_wp2_with fail
 refine (eqInt64SF_own ⟨re, ra, rn, rc, rb⟩ ⟨re2, ra2, rn2, rc2, rb2⟩ _ (by dsimp only; omega) HE.out.2.2 (HOM.out.same HK4.out) (HPM.out.same HK4.out)).mono ?_
 rintro e w5 ⟨rfl, hk⟩
 have HK5 := hid (HK4.out.trans hk)
 have HX5 := hid (HX4.out.same hk)
 have HY5 := hid (HY4.out.same hk)
 clear hk p4_7 q4_7
 have p5_8 := HX5.out.cell 8
 have q5_8 := HY5.out.cell 8
 dsimp only [List.getElem?_cons_zero, List.getElem?_cons_succ] at p5_8 q5_8
 go_wp2
 go_ret
 exact ⟨rfl, HK5.out⟩
theorem toReport_any (x : StRep) (w : World) (hn : x.szs ≤ 1048576) (h : StRep.rd w x) :
  Calls Tryd.prog 13 #[x.val] w fun e w' => ∃ y : StRep, e = .returned y.val ∧ y.dat = x.dat ∧ y.szs = x.szs ∧ StRep.own w' y ∧ Same w w' := by
 obtain ⟨fa, av, xs, dv, pv, dur, ps, up, ⟨le, la, ln, lc, lb⟩, ⟨he, ha, hn1, hc, hb⟩, ⟨re, ra, rn, rc, rb⟩, fr⟩ := x
 obtain ⟨ran, rdk, rlk, rhd, rrm⟩ := h
 dsimp only at ran rdk rlk rhd rrm
 simp only [StRep.szs] at hn
 dsimp only [StRep.val, FR.v]
 obtain ⟨ka, kc, rfl⟩ := ran.form
 obtain ⟨da, dc, rfl⟩ := rdk.dur.form
 obtain ⟨pa, pc, rfl⟩ := rdk.pend.form
 have hnn := sizeAn_nonneg xs
 have HAN := hid ran
 have HDK := hid rdk
 have HLK := hid rlk
 have HHD := hid rhd
 have HRM := hid rrm
 clear ran rdk rlk rhd rrm
 have hk0 : Same w (((w.alloc (.cells #[.int .i64 fa, .slice ka xs.length kc, .slice da dur.length dc, .slice pa ps.length pc, .bool up, .slice la ln lc, .slice ha hn1 hc, .slice ra rn rc, .int .i64 fr] 42)).alloc (.cells #[.int .i64 0, .slice none 0 0, .slice none 0 0, .slice none 0 0, .bool false, .slice none 0 0, .slice none 0 0, .slice none 0 0, .int .i64 0] 52)).alloc (.cells #[.int .i64 fa, .slice none 0 0, .slice none 0 0, .slice none 0 0, .bool false, .slice none 0 0, .slice none 0 0, .slice none 0 0, .int .i64 0] 52)) := (((Kept.refl _ _).alloc _).alloc _).alloc _
 have b0 : Blk (((w.alloc (.cells #[.int .i64 fa, .slice ka xs.length kc, .slice da dur.length dc, .slice pa ps.length pc, .bool up, .slice la ln lc, .slice ha hn1 hc, .slice ra rn rc, .int .i64 fr] 42)).alloc (.cells #[.int .i64 0, .slice none 0 0, .slice none 0 0, .slice none 0 0, .bool false, .slice none 0 0, .slice none 0 0, .slice none 0 0, .int .i64 0] 52)).alloc (.cells #[.int .i64 fa, .slice none 0 0, .slice none 0 0, .slice none 0 0, .bool false, .slice none 0 0, .slice none 0 0, .slice none 0 0, .int .i64 0] 52)) w.heap.size 42 [.int .i64 fa, .slice ka xs.length kc, .slice da dur.length dc, .slice pa ps.length pc, .bool up, .slice la ln lc, .slice ha hn1 hc, .slice ra rn rc, .int .i64 fr] := ((Blk.newL w [.int .i64 fa, .slice ka xs.length kc, .slice da dur.length dc, .slice pa ps.length pc, .bool up, .slice la ln lc, .slice ha hn1 hc, .slice ra rn rc, .int .i64 fr] 42).alloc _).alloc _
 have b1 : Blk (((w.alloc (.cells #[.int .i64 fa, .slice ka xs.length kc, .slice da dur.length dc, .slice pa ps.length pc, .bool up, .slice la ln lc, .slice ha hn1 hc, .slice ra rn rc, .int .i64 fr] 42)).alloc (.cells #[.int .i64 0, .slice none 0 0, .slice none 0 0, .slice none 0 0, .bool false, .slice none 0 0, .slice none 0 0, .slice none 0 0, .int .i64 0] 52)).alloc (.cells #[.int .i64 fa, .slice none 0 0, .slice none 0 0, .slice none 0 0, .bool false, .slice none 0 0, .slice none 0 0, .slice none 0 0, .int .i64 0] 52)) (w.heap.size + 1) 52 [.int .i64 0, .slice none 0 0, .slice none 0 0, .slice none 0 0, .bool false, .slice none 0 0, .slice none 0 0, .slice none 0 0, .int .i64 0] := (Blk.newB w [.int .i64 fa, .slice ka xs.length kc, .slice da dur.length dc, .slice pa ps.length pc, .bool up, .slice la ln lc, .slice ha hn1 hc, .slice ra rn rc, .int .i64 fr] 42 [.int .i64 0, .slice none 0 0, .slice none 0 0, .slice none 0 0, .bool false, .slice none 0 0, .slice none 0 0, .slice none 0 0, .int .i64 0] 52).alloc _
 have b2 : Blk (((w.alloc (.cells #[.int .i64 fa, .slice ka xs.length kc, .slice da dur.length dc, .slice pa ps.length pc, .bool up, .slice la ln lc, .slice ha hn1 hc, .slice ra rn rc, .int .i64 fr] 42)).alloc (.cells #[.int .i64 0, .slice none 0 0, .slice none 0 0, .slice none 0 0, .bool false, .slice none 0 0, .slice none 0 0, .slice none 0 0, .int .i64 0] 52)).alloc (.cells #[.int .i64 fa, .slice none 0 0, .slice none 0 0, .slice none 0 0, .bool false, .slice none 0 0, .slice none 0 0, .slice none 0 0, .int .i64 0] 52)) (w.heap.size + 1 + 1) 52 [.int .i64 fa, .slice none 0 0, .slice none 0 0, .slice none 0 0, .bool false, .slice none 0 0, .slice none 0 0, .slice none 0 0, .int .i64 0] := by have h := Blk.newL ((w.alloc (.cells #[.int .i64 fa, .slice ka xs.length kc, .slice da dur.length dc, .slice pa ps.length pc, .bool up, .slice la ln lc, .slice ha hn1 hc, .slice ra rn rc, .int .i64 fr] 42)).alloc (.cells #[.int .i64 0, .slice none 0 0, .slice none 0 0, .slice none 0 0, .bool false, .slice none 0 0, .slice none 0 0, .slice none 0 0, .int .i64 0] 52)) [.int .i64 fa, .slice none 0 0, .slice none 0 0, .slice none 0 0, .bool false, .slice none 0 0, .slice none 0 0, .slice none 0 0, .int .i64 0] 52; rw [World.size_alloc, World.size_alloc] at h; exact h
 have hsz : w.heap.size + 1 + 1 + 1 ≤ (((w.alloc (.cells #[.int .i64 fa, .slice ka xs.length kc, .slice da dur.length dc, .slice pa ps.length pc, .bool up, .slice la ln lc, .slice ha hn1 hc, .slice ra rn rc, .int .i64 fr] 42)).alloc (.cells #[.int .i64 0, .slice none 0 0, .slice none 0 0, .slice none 0 0, .bool false, .slice none 0 0, .slice none 0 0, .slice none 0 0, .int .i64 0] 52)).alloc (.cells #[.int .i64 fa, .slice none 0 0, .slice none 0 0, .slice none 0 0, .bool false, .slice none 0 0, .slice none 0 0, .slice none 0 0, .int .i64 0] 52)).heap.size := by simp only [World.size_alloc]; omega
 go_enter Tryd.func13, Tryd.ntmps13
 go_wp2_with fail
 refine (toAnswerS_any _ xs _ (by omega) (fun p hp => by have := sizeAn_mem xs p hp; omega) (HAN.out.same hk0)).mono ?_
 rintro e w1 ⟨g1, qs, rfl, hdq, hfq, hoq, hk⟩
 have hfqB : ∀ b, _ → w.heap.size + 1 + 1 < b := fun b hb => by have h9 := hfq b hb; omega
 replace hk0 := hk0.trans hk
 replace b0 := b0.same hk
 replace b1 := b1.same hk
 replace b2 := b2.same hk
 replace hsz : w.heap.size + 1 + 1 + 1 ≤ w1.heap.size := by have := hk.size; omega
 clear hk hfq
 have da1_0 := b0.cell 0; have dr1_0 := b1.cell 0; have fr1_0 := b1.frozen 0; have do1_0 := b2.cell 0; have fo1_0 := b2.frozen 0
 have da1_1 := b0.cell 1; have dr1_1 := b1.cell 1; have fr1_1 := b1.frozen 1; have do1_1 := b2.cell 1; have fo1_1 := b2.frozen 1
 have da1_2 := b0.cell 2; have dr1_2 := b1.cell 2; have fr1_2 := b1.frozen 2; have do1_2 := b2.cell 2; have fo1_2 := b2.frozen 2
 have da1_3 := b0.cell 3; have dr1_3 := b1.cell 3; have fr1_3 := b1.frozen 3; have do1_3 := b2.cell 3; have fo1_3 := b2.frozen 3
 have da1_4 := b0.cell 4; have dr1_4 := b1.cell 4; have fr1_4 := b1.frozen 4; have do1_4 := b2.cell 4; have fo1_4 := b2.frozen 4
 have da1_5 := b0.cell 5; have dr1_5 := b1.cell 5; have fr1_5 := b1.frozen 5; have do1_5 := b2.cell 5; have fo1_5 := b2.frozen 5
 have da1_6 := b0.cell 6; have dr1_6 := b1.cell 6; have fr1_6 := b1.frozen 6; have do1_6 := b2.cell 6; have fo1_6 := b2.frozen 6
 have da1_7 := b0.cell 7; have dr1_7 := b1.cell 7; have fr1_7 := b1.frozen 7; have do1_7 := b2.cell 7; have fo1_7 := b2.frozen 7
 have da1_8 := b0.cell 8; have dr1_8 := b1.cell 8; have fr1_8 := b1.frozen 8; have do1_8 := b2.cell 8; have fo1_8 := b2.frozen 8
 dsimp only [List.getElem?_cons_zero, List.getElem?_cons_succ] at da1_0 da1_1 da1_2 da1_3 da1_4 da1_5 da1_6 da1_7 da1_8 dr1_0 dr1_1 dr1_2 dr1_3 dr1_4 dr1_5 dr1_6 dr1_7 dr1_8 do1_0 do1_1 do1_2 do1_3 do1_4 do1_5 do1_6 do1_7 do1_8
 have hkS : Kept (fun b => b = w.heap.size + 1 + 1) w1 (w1.setCell ⟨w.heap.size + 1 + 1, 1, none⟩ (.slice (some ⟨g1, 0, none⟩) xs.length xs.length)) := by
  iterate 1 refine Kept.setCell (R := fun b => b = w.heap.size + 1 + 1) ?_ (.inr rfl) _
  exact Kept.refl _ _
 replace hk0 : Same w (w1.setCell ⟨w.heap.size + 1 + 1, 1, none⟩ (.slice (some ⟨g1, 0, none⟩) xs.length xs.length)) := by
  iterate 1 refine Kept.setCell ?_ (.inl (by simp only []; omega)) _
  exact hk0
 replace b0 : Blk (w1.setCell ⟨w.heap.size + 1 + 1, 1, none⟩ (.slice (some ⟨g1, 0, none⟩) xs.length xs.length)) w.heap.size 42 [.int .i64 fa, .slice ka xs.length kc, .slice da dur.length dc, .slice pa ps.length pc, .bool up, .slice la ln lc, .slice ha hn1 hc, .slice ra rn rc, .int .i64 fr] := b0.kept hkS (by omega)
 replace b1 : Blk (w1.setCell ⟨w.heap.size + 1 + 1, 1, none⟩ (.slice (some ⟨g1, 0, none⟩) xs.length xs.length)) (w.heap.size + 1) 52 [.int .i64 0, .slice none 0 0, .slice none 0 0, .slice none 0 0, .bool false, .slice none 0 0, .slice none 0 0, .slice none 0 0, .int .i64 0] := b1.kept hkS (by omega)
 replace b2 : Blk (w1.setCell ⟨w.heap.size + 1 + 1, 1, none⟩ (.slice (some ⟨g1, 0, none⟩) xs.length xs.length)) (w.heap.size + 1 + 1) 52 [.int .i64 fa, .slice (some ⟨g1, 0, none⟩) xs.length xs.length, .slice none 0 0, .slice none 0 0, .bool false, .slice none 0 0, .slice none 0 0, .slice none 0 0, .int .i64 0] := (b2.stored 1 (.slice (some ⟨g1, 0, none⟩) xs.length xs.length))
 replace hsz : w.heap.size + 1 + 1 + 1 ≤ (w1.setCell ⟨w.heap.size + 1 + 1, 1, none⟩ (.slice (some ⟨g1, 0, none⟩) xs.length xs.length)).heap.size := by have := hkS.size; omega
 replace hoq := hoq.kept hkS (fun b hb e => by have h9 := hfqB b hb; omega)
 clear hkS
 go_wp2_with fail
 refine (toDisk_any _ _ dur ps _ (by omega) (by omega) (fun p hp => by have := sizeP_mem ps p hp; omega) (HDK.out.same hk0)).mono ?_
 rintro e w2 ⟨g2, g3, ds, rfl, hdd, hfd, hod, hk⟩
 have hfdB : ∀ b, _ → w.heap.size + 1 + 1 < b := fun b hb => by have h9 := hfd b hb; omega
 replace hk0 := hk0.trans hk
 replace b0 := b0.same hk
 replace b1 := b1.same hk
 replace b2 := b2.same hk
 replace hsz : w.heap.size + 1 + 1 + 1 ≤ w2.heap.size := by have := hk.size; omega
 replace hoq := hoq.same hk
 clear hk hfd
 clear da1_0 da1_1 da1_2 da1_3 da1_4 da1_5 da1_6 da1_7 da1_8 dr1_0 dr1_1 dr1_2 dr1_3 dr1_4 dr1_5 dr1_6 dr1_7 dr1_8 fr1_0 fr1_1 fr1_2 fr1_3 fr1_4 fr1_5 fr1_6 fr1_7 fr1_8 do1_0 do1_1 do1_2 do1_3 do1_4 do1_5 do1_6 do1_7 do1_8 fo1_0 fo1_1 fo1_2 fo1_3 fo1_4 fo1_5 fo1_6 fo1_7 fo1_8
 have da2_0 := b0.cell 0; have dr2_0 := b1.cell 0; have fr2_0 := b1.frozen 0; have do2_0 := b2.cell 0; have fo2_0 := b2.frozen 0
 have da2_1 := b0.cell 1; have dr2_1 := b1.cell 1; have fr2_1 := b1.frozen 1; have do2_1 := b2.cell 1; have fo2_1 := b2.frozen 1
 have da2_2 := b0.cell 2; have dr2_2 := b1.cell 2; have fr2_2 := b1.frozen 2; have do2_2 := b2.cell 2; have fo2_2 := b2.frozen 2
 have da2_3 := b0.cell 3; have dr2_3 := b1.cell 3; have fr2_3 := b1.frozen 3; have do2_3 := b2.cell 3; have fo2_3 := b2.frozen 3
 have da2_4 := b0.cell 4; have dr2_4 := b1.cell 4; have fr2_4 := b1.frozen 4; have do2_4 := b2.cell 4; have fo2_4 := b2.frozen 4
 have da2_5 := b0.cell 5; have dr2_5 := b1.cell 5; have fr2_5 := b1.frozen 5; have do2_5 := b2.cell 5; have fo2_5 := b2.frozen 5
 have da2_6 := b0.cell 6; have dr2_6 := b1.cell 6; have fr2_6 := b1.frozen 6; have do2_6 := b2.cell 6; have fo2_6 := b2.frozen 6
 have da2_7 := b0.cell 7; have dr2_7 := b1.cell 7; have fr2_7 := b1.frozen 7; have do2_7 := b2.cell 7; have fo2_7 := b2.frozen 7
 have da2_8 := b0.cell 8; have dr2_8 := b1.cell 8; have fr2_8 := b1.frozen 8; have do2_8 := b2.cell 8; have fo2_8 := b2.frozen 8
 dsimp only [List.getElem?_cons_zero, List.getElem?_cons_succ] at da2_0 da2_1 da2_2 da2_3 da2_4 da2_5 da2_6 da2_7 da2_8 dr2_0 dr2_1 dr2_2 dr2_3 dr2_4 dr2_5 dr2_6 dr2_7 dr2_8 do2_0 do2_1 do2_2 do2_3 do2_4 do2_5 do2_6 do2_7 do2_8
 have hkS : Kept (fun b => b = w.heap.size + 1 + 1) w2 (((w2.setCell ⟨w.heap.size + 1 + 1, 2, none⟩ (.slice (some ⟨g2, 0, none⟩) dur.length dur.length)).setCell ⟨w.heap.size + 1 + 1, 3, none⟩ (.slice (some ⟨g3, 0, none⟩) ps.length ps.length)).setCell ⟨w.heap.size + 1 + 1, 4, none⟩ (.bool up)) := by
  iterate 3 refine Kept.setCell (R := fun b => b = w.heap.size + 1 + 1) ?_ (.inr rfl) _
  exact Kept.refl _ _
 replace hk0 : Same w (((w2.setCell ⟨w.heap.size + 1 + 1, 2, none⟩ (.slice (some ⟨g2, 0, none⟩) dur.length dur.length)).setCell ⟨w.heap.size + 1 + 1, 3, none⟩ (.slice (some ⟨g3, 0, none⟩) ps.length ps.length)).setCell ⟨w.heap.size + 1 + 1, 4, none⟩ (.bool up)) := by
  iterate 3 refine Kept.setCell ?_ (.inl (by simp only []; omega)) _
  exact hk0
 replace b0 : Blk (((w2.setCell ⟨w.heap.size + 1 + 1, 2, none⟩ (.slice (some ⟨g2, 0, none⟩) dur.length dur.length)).setCell ⟨w.heap.size + 1 + 1, 3, none⟩ (.slice (some ⟨g3, 0, none⟩) ps.length ps.length)).setCell ⟨w.heap.size + 1 + 1, 4, none⟩ (.bool up)) w.heap.size 42 [.int .i64 fa, .slice ka xs.length kc, .slice da dur.length dc, .slice pa ps.length pc, .bool up, .slice la ln lc, .slice ha hn1 hc, .slice ra rn rc, .int .i64 fr] := b0.kept hkS (by omega)
 replace b1 : Blk (((w2.setCell ⟨w.heap.size + 1 + 1, 2, none⟩ (.slice (some ⟨g2, 0, none⟩) dur.length dur.length)).setCell ⟨w.heap.size + 1 + 1, 3, none⟩ (.slice (some ⟨g3, 0, none⟩) ps.length ps.length)).setCell ⟨w.heap.size + 1 + 1, 4, none⟩ (.bool up)) (w.heap.size + 1) 52 [.int .i64 0, .slice none 0 0, .slice none 0 0, .slice none 0 0, .bool false, .slice none 0 0, .slice none 0 0, .slice none 0 0, .int .i64 0] := b1.kept hkS (by omega)
 replace b2 : Blk (((w2.setCell ⟨w.heap.size + 1 + 1, 2, none⟩ (.slice (some ⟨g2, 0, none⟩) dur.length dur.length)).setCell ⟨w.heap.size + 1 + 1, 3, none⟩ (.slice (some ⟨g3, 0, none⟩) ps.length ps.length)).setCell ⟨w.heap.size + 1 + 1, 4, none⟩ (.bool up)) (w.heap.size + 1 + 1) 52 [.int .i64 fa, .slice (some ⟨g1, 0, none⟩) xs.length xs.length, .slice (some ⟨g2, 0, none⟩) dur.length dur.length, .slice (some ⟨g3, 0, none⟩) ps.length ps.length, .bool up, .slice none 0 0, .slice none 0 0, .slice none 0 0, .int .i64 0] := (((b2.stored 2 (.slice (some ⟨g2, 0, none⟩) dur.length dur.length)).stored 3 (.slice (some ⟨g3, 0, none⟩) ps.length ps.length)).stored 4 (.bool up))
 replace hsz : w.heap.size + 1 + 1 + 1 ≤ (((w2.setCell ⟨w.heap.size + 1 + 1, 2, none⟩ (.slice (some ⟨g2, 0, none⟩) dur.length dur.length)).setCell ⟨w.heap.size + 1 + 1, 3, none⟩ (.slice (some ⟨g3, 0, none⟩) ps.length ps.length)).setCell ⟨w.heap.size + 1 + 1, 4, none⟩ (.bool up)).heap.size := by have := hkS.size; omega
 replace hoq := hoq.kept hkS (fun b hb e => by have h9 := hfqB b hb; omega)
 replace hod := hod.kept hkS (fun b hb e => by have h9 := hfdB b hb; omega)
 clear hkS
 go_wp2_with fail
 refine (toLockS_any ⟨le, la, ln, lc, lb⟩ _ (by dsimp only; omega) (HLK.out.same hk0)).mono ?_
 rintro e w3 ⟨⟨le1, la1, ln1, lc1, lb1⟩, rfl, hdl, hzl, hfl, hol, hk⟩
 dsimp only [FR.v] at *
 have HDl := hid hdl
 have HZl := hid hzl
 clear hdl hzl
 have hflB : ∀ b, _ → w.heap.size + 1 + 1 < b := fun b hb => by have h9 := hfl b hb; omega
 replace hk0 := hk0.trans hk
 replace b0 := b0.same hk
 replace b1 := b1.same hk
 replace b2 := b2.same hk
 replace hsz : w.heap.size + 1 + 1 + 1 ≤ w3.heap.size := by have := hk.size; omega
 replace hoq := hoq.same hk
 replace hod := hod.same hk
 clear hk hfl
 clear da2_0 da2_1 da2_2 da2_3 da2_4 da2_5 da2_6 da2_7 da2_8 dr2_0 dr2_1 dr2_2 dr2_3 dr2_4 dr2_5 dr2_6 dr2_7 dr2_8 fr2_0 fr2_1 fr2_2 fr2_3 fr2_4 fr2_5 fr2_6 fr2_7 fr2_8 do2_0 do2_1 do2_2 do2_3 do2_4 do2_5 do2_6 do2_7 do2_8 fo2_0 fo2_1 fo2_2 fo2_3 fo2_4 fo2_5 fo2_6 fo2_7 fo2_8
 have da3_0 := b0.cell 0; have dr3_0 := b1.cell 0; have fr3_0 := b1.frozen 0; have do3_0 := b2.cell 0; have fo3_0 := b2.frozen 0
 have da3_1 := b0.cell 1; have dr3_1 := b1.cell 1; have fr3_1 := b1.frozen 1; have do3_1 := b2.cell 1; have fo3_1 := b2.frozen 1
 have da3_2 := b0.cell 2; have dr3_2 := b1.cell 2; have fr3_2 := b1.frozen 2; have do3_2 := b2.cell 2; have fo3_2 := b2.frozen 2
 have da3_3 := b0.cell 3; have dr3_3 := b1.cell 3; have fr3_3 := b1.frozen 3; have do3_3 := b2.cell 3; have fo3_3 := b2.frozen 3
 have da3_4 := b0.cell 4; have dr3_4 := b1.cell 4; have fr3_4 := b1.frozen 4; have do3_4 := b2.cell 4; have fo3_4 := b2.frozen 4
 have da3_5 := b0.cell 5; have dr3_5 := b1.cell 5; have fr3_5 := b1.frozen 5; have do3_5 := b2.cell 5; have fo3_5 := b2.frozen 5
 have da3_6 := b0.cell 6; have dr3_6 := b1.cell 6; have fr3_6 := b1.frozen 6; have do3_6 := b2.cell 6; have fo3_6 := b2.frozen 6
 have da3_7 := b0.cell 7; have dr3_7 := b1.cell 7; have fr3_7 := b1.frozen 7; have do3_7 := b2.cell 7; have fo3_7 := b2.frozen 7
 have da3_8 := b0.cell 8; have dr3_8 := b1.cell 8; have fr3_8 := b1.frozen 8; have do3_8 := b2.cell 8; have fo3_8 := b2.frozen 8
 dsimp only [List.getElem?_cons_zero, List.getElem?_cons_succ] at da3_0 da3_1 da3_2 da3_3 da3_4 da3_5 da3_6 da3_7 da3_8 dr3_0 dr3_1 dr3_2 dr3_3 dr3_4 dr3_5 dr3_6 dr3_7 dr3_8 do3_0 do3_1 do3_2 do3_3 do3_4 do3_5 do3_6 do3_7 do3_8
 have hkS : Kept (fun b => b = w.heap.size + 1 + 1) w3 (w3.setCell ⟨w.heap.size + 1 + 1, 5, none⟩ (.slice la1 ln1 lc1)) := by
  iterate 1 refine Kept.setCell (R := fun b => b = w.heap.size + 1 + 1) ?_ (.inr rfl) _
  exact Kept.refl _ _
 replace hk0 : Same w (w3.setCell ⟨w.heap.size + 1 + 1, 5, none⟩ (.slice la1 ln1 lc1)) := by
  iterate 1 refine Kept.setCell ?_ (.inl (by simp only []; omega)) _
  exact hk0
 replace b0 : Blk (w3.setCell ⟨w.heap.size + 1 + 1, 5, none⟩ (.slice la1 ln1 lc1)) w.heap.size 42 [.int .i64 fa, .slice ka xs.length kc, .slice da dur.length dc, .slice pa ps.length pc, .bool up, .slice la ln lc, .slice ha hn1 hc, .slice ra rn rc, .int .i64 fr] := b0.kept hkS (by omega)
 replace b1 : Blk (w3.setCell ⟨w.heap.size + 1 + 1, 5, none⟩ (.slice la1 ln1 lc1)) (w.heap.size + 1) 52 [.int .i64 0, .slice none 0 0, .slice none 0 0, .slice none 0 0, .bool false, .slice none 0 0, .slice none 0 0, .slice none 0 0, .int .i64 0] := b1.kept hkS (by omega)
 replace b2 : Blk (w3.setCell ⟨w.heap.size + 1 + 1, 5, none⟩ (.slice la1 ln1 lc1)) (w.heap.size + 1 + 1) 52 [.int .i64 fa, .slice (some ⟨g1, 0, none⟩) xs.length xs.length, .slice (some ⟨g2, 0, none⟩) dur.length dur.length, .slice (some ⟨g3, 0, none⟩) ps.length ps.length, .bool up, .slice la1 ln1 lc1, .slice none 0 0, .slice none 0 0, .int .i64 0] := (b2.stored 5 (.slice la1 ln1 lc1))
 replace hsz : w.heap.size + 1 + 1 + 1 ≤ (w3.setCell ⟨w.heap.size + 1 + 1, 5, none⟩ (.slice la1 ln1 lc1)).heap.size := by have := hkS.size; omega
 replace hoq := hoq.kept hkS (fun b hb e => by have h9 := hfqB b hb; omega)
 replace hod := hod.kept hkS (fun b hb e => by have h9 := hfdB b hb; omega)
 replace hol := hol.kept hkS (fun b hb e => by have h9 := hflB b hb; omega)
 clear hkS
 go_wp2_with fail
 refine (toHoldS_any ⟨he, ha, hn1, hc, hb⟩ _ (by dsimp only; omega) (HHD.out.same hk0)).mono ?_
 rintro e w4 ⟨⟨he1, ha1, hn2, hc1, hb1⟩, rfl, hdh, hzh, hfh, hoh, hk⟩
 dsimp only [FR.v] at *
 have HDh := hid hdh
 have HZh := hid hzh
 clear hdh hzh
 have hfhB : ∀ b, _ → w.heap.size + 1 + 1 < b := fun b hb => by have h9 := hfh b hb; omega
 replace hk0 := hk0.trans hk
 replace b0 := b0.same hk
 replace b1 := b1.same hk
 replace b2 := b2.same hk
 replace hsz : w.heap.size + 1 + 1 + 1 ≤ w4.heap.size := by have := hk.size; omega
 replace hoq := hoq.same hk
 replace hod := hod.same hk
 replace hol := hol.same hk
 clear hk hfh
 clear da3_0 da3_1 da3_2 da3_3 da3_4 da3_5 da3_6 da3_7 da3_8 dr3_0 dr3_1 dr3_2 dr3_3 dr3_4 dr3_5 dr3_6 dr3_7 dr3_8 fr3_0 fr3_1 fr3_2 fr3_3 fr3_4 fr3_5 fr3_6 fr3_7 fr3_8 do3_0 do3_1 do3_2 do3_3 do3_4 do3_5 do3_6 do3_7 do3_8 fo3_0 fo3_1 fo3_2 fo3_3 fo3_4 fo3_5 fo3_6 fo3_7 fo3_8
 have da4_0 := b0.cell 0; have dr4_0 := b1.cell 0; have fr4_0 := b1.frozen 0; have do4_0 := b2.cell 0; have fo4_0 := b2.frozen 0
 have da4_1 := b0.cell 1; have dr4_1 := b1.cell 1; have fr4_1 := b1.frozen 1; have do4_1 := b2.cell 1; have fo4_1 := b2.frozen 1
 have da4_2 := b0.cell 2; have dr4_2 := b1.cell 2; have fr4_2 := b1.frozen 2; have do4_2 := b2.cell 2; have fo4_2 := b2.frozen 2
 have da4_3 := b0.cell 3; have dr4_3 := b1.cell 3; have fr4_3 := b1.frozen 3; have do4_3 := b2.cell 3; have fo4_3 := b2.frozen 3
 have da4_4 := b0.cell 4; have dr4_4 := b1.cell 4; have fr4_4 := b1.frozen 4; have do4_4 := b2.cell 4; have fo4_4 := b2.frozen 4
 have da4_5 := b0.cell 5; have dr4_5 := b1.cell 5; have fr4_5 := b1.frozen 5; have do4_5 := b2.cell 5; have fo4_5 := b2.frozen 5
 have da4_6 := b0.cell 6; have dr4_6 := b1.cell 6; have fr4_6 := b1.frozen 6; have do4_6 := b2.cell 6; have fo4_6 := b2.frozen 6
 have da4_7 := b0.cell 7; have dr4_7 := b1.cell 7; have fr4_7 := b1.frozen 7; have do4_7 := b2.cell 7; have fo4_7 := b2.frozen 7
 have da4_8 := b0.cell 8; have dr4_8 := b1.cell 8; have fr4_8 := b1.frozen 8; have do4_8 := b2.cell 8; have fo4_8 := b2.frozen 8
 dsimp only [List.getElem?_cons_zero, List.getElem?_cons_succ] at da4_0 da4_1 da4_2 da4_3 da4_4 da4_5 da4_6 da4_7 da4_8 dr4_0 dr4_1 dr4_2 dr4_3 dr4_4 dr4_5 dr4_6 dr4_7 dr4_8 do4_0 do4_1 do4_2 do4_3 do4_4 do4_5 do4_6 do4_7 do4_8
 have hkS : Kept (fun b => b = w.heap.size + 1 + 1) w4 (w4.setCell ⟨w.heap.size + 1 + 1, 6, none⟩ (.slice ha1 hn2 hc1)) := by
  iterate 1 refine Kept.setCell (R := fun b => b = w.heap.size + 1 + 1) ?_ (.inr rfl) _
  exact Kept.refl _ _
 replace hk0 : Same w (w4.setCell ⟨w.heap.size + 1 + 1, 6, none⟩ (.slice ha1 hn2 hc1)) := by
  iterate 1 refine Kept.setCell ?_ (.inl (by simp only []; omega)) _
  exact hk0
 replace b0 : Blk (w4.setCell ⟨w.heap.size + 1 + 1, 6, none⟩ (.slice ha1 hn2 hc1)) w.heap.size 42 [.int .i64 fa, .slice ka xs.length kc, .slice da dur.length dc, .slice pa ps.length pc, .bool up, .slice la ln lc, .slice ha hn1 hc, .slice ra rn rc, .int .i64 fr] := b0.kept hkS (by omega)
 replace b1 : Blk (w4.setCell ⟨w.heap.size + 1 + 1, 6, none⟩ (.slice ha1 hn2 hc1)) (w.heap.size + 1) 52 [.int .i64 0, .slice none 0 0, .slice none 0 0, .slice none 0 0, .bool false, .slice none 0 0, .slice none 0 0, .slice none 0 0, .int .i64 0] := b1.kept hkS (by omega)
 replace b2 : Blk (w4.setCell ⟨w.heap.size + 1 + 1, 6, none⟩ (.slice ha1 hn2 hc1)) (w.heap.size + 1 + 1) 52 [.int .i64 fa, .slice (some ⟨g1, 0, none⟩) xs.length xs.length, .slice (some ⟨g2, 0, none⟩) dur.length dur.length, .slice (some ⟨g3, 0, none⟩) ps.length ps.length, .bool up, .slice la1 ln1 lc1, .slice ha1 hn2 hc1, .slice none 0 0, .int .i64 0] := (b2.stored 6 (.slice ha1 hn2 hc1))
 replace hsz : w.heap.size + 1 + 1 + 1 ≤ (w4.setCell ⟨w.heap.size + 1 + 1, 6, none⟩ (.slice ha1 hn2 hc1)).heap.size := by have := hkS.size; omega
 replace hoq := hoq.kept hkS (fun b hb e => by have h9 := hfqB b hb; omega)
 replace hod := hod.kept hkS (fun b hb e => by have h9 := hfdB b hb; omega)
 replace hol := hol.kept hkS (fun b hb e => by have h9 := hflB b hb; omega)
 replace hoh := hoh.kept hkS (fun b hb e => by have h9 := hfhB b hb; omega)
 clear hkS
 go_wp2_with fail
 refine (toInt64SF_any ⟨re, ra, rn, rc, rb⟩ _ (by dsimp only; omega) (HRM.out.same hk0)).mono ?_
 rintro e w5 ⟨⟨re1, ra1, rn1, rc1, rb1⟩, rfl, hdm, hzm, hfm, hom, hk⟩
 dsimp only [FR.v] at *
 have HDm := hid hdm
 have HZm := hid hzm
 clear hdm hzm
 have hfmB : ∀ b, _ → w.heap.size + 1 + 1 < b := fun b hb => by have h9 := hfm b hb; omega
 replace hk0 := hk0.trans hk
 replace b0 := b0.same hk
 replace b1 := b1.same hk
 replace b2 := b2.same hk
 replace hsz : w.heap.size + 1 + 1 + 1 ≤ w5.heap.size := by have := hk.size; omega
 replace hoq := hoq.same hk
 replace hod := hod.same hk
 replace hol := hol.same hk
 replace hoh := hoh.same hk
 clear hk hfm
 clear da4_0 da4_1 da4_2 da4_3 da4_4 da4_5 da4_6 da4_7 da4_8 dr4_0 dr4_1 dr4_2 dr4_3 dr4_4 dr4_5 dr4_6 dr4_7 dr4_8 fr4_0 fr4_1 fr4_2 fr4_3 fr4_4 fr4_5 fr4_6 fr4_7 fr4_8 do4_0 do4_1 do4_2 do4_3 do4_4 do4_5 do4_6 do4_7 do4_8 fo4_0 fo4_1 fo4_2 fo4_3 fo4_4 fo4_5 fo4_6 fo4_7 fo4_8
 have da5_0 := b0.cell 0; have dr5_0 := b1.cell 0; have fr5_0 := b1.frozen 0; have do5_0 := b2.cell 0; have fo5_0 := b2.frozen 0
 have da5_1 := b0.cell 1; have dr5_1 := b1.cell 1; have fr5_1 := b1.frozen 1; have do5_1 := b2.cell 1; have fo5_1 := b2.frozen 1
 have da5_2 := b0.cell 2; have dr5_2 := b1.cell 2; have fr5_2 := b1.frozen 2; have do5_2 := b2.cell 2; have fo5_2 := b2.frozen 2
 have da5_3 := b0.cell 3; have dr5_3 := b1.cell 3; have fr5_3 := b1.frozen 3; have do5_3 := b2.cell 3; have fo5_3 := b2.frozen 3
 have da5_4 := b0.cell 4; have dr5_4 := b1.cell 4; have fr5_4 := b1.frozen 4; have do5_4 := b2.cell 4; have fo5_4 := b2.frozen 4
 have da5_5 := b0.cell 5; have dr5_5 := b1.cell 5; have fr5_5 := b1.frozen 5; have do5_5 := b2.cell 5; have fo5_5 := b2.frozen 5
 have da5_6 := b0.cell 6; have dr5_6 := b1.cell 6; have fr5_6 := b1.frozen 6; have do5_6 := b2.cell 6; have fo5_6 := b2.frozen 6
 have da5_7 := b0.cell 7; have dr5_7 := b1.cell 7; have fr5_7 := b1.frozen 7; have do5_7 := b2.cell 7; have fo5_7 := b2.frozen 7
 have da5_8 := b0.cell 8; have dr5_8 := b1.cell 8; have fr5_8 := b1.frozen 8; have do5_8 := b2.cell 8; have fo5_8 := b2.frozen 8
 dsimp only [List.getElem?_cons_zero, List.getElem?_cons_succ] at da5_0 da5_1 da5_2 da5_3 da5_4 da5_5 da5_6 da5_7 da5_8 dr5_0 dr5_1 dr5_2 dr5_3 dr5_4 dr5_5 dr5_6 dr5_7 dr5_8 do5_0 do5_1 do5_2 do5_3 do5_4 do5_5 do5_6 do5_7 do5_8
 have HKz := hid hk0
 have HOQ := hid hoq
 have HFQ := hid hfqB
 have HOD := hid hod
 have HFD := hid hfdB
 have HOL := hid hol
 have HFL := hid hflB
 have HOH := hid hoh
 have HFH := hid hfhB
 have HOM := hid hom
 have HFM := hid hfmB
 have HDT := (show Hid (datAn qs = datAn xs ∧ dataP ds = dataP ps ∧ lb1 = lb ∧ hb1 = hb ∧ rb1 = rb ∧ ln1 = ln ∧ hn2 = hn1 ∧ rn1 = rn) from ⟨hdq, hdd, HDl.out, HDh.out, HDm.out, HZl.out, HZh.out, HZm.out⟩)
 clear b0 b1 b2 hk0 hoq hod hol hoh hom hfqB hfdB hflB hfhB hfmB hdq hdd HDl HDh HDm HZl HZh HZm
 go_wp2
 refine bodyPost_ret (v := StRep.val ⟨fa, .slice (some ⟨g1, 0, none⟩) xs.length xs.length, qs, .slice (some ⟨g2, 0, none⟩) dur.length dur.length, .slice (some ⟨g3, 0, none⟩) ps.length ps.length, dur, ds, up, ⟨le1, la1, ln1, lc1, lb1⟩, ⟨he1, ha1, hn2, hc1, hb1⟩, ⟨re1, ra1, rn1, rc1, rb1⟩, fr⟩) (by simp [StRep.val, FR.v, results, Tryd.results13, go_sem, dr5_0, dr5_1, dr5_2, dr5_3, dr5_4, dr5_5, dr5_6, dr5_7, dr5_8]) rfl ⟨_, rfl, ?_, ?_, ?_, ?_⟩
 ·obtain ⟨h1, h2, h3, h4, h5, h6, h7, h8⟩ := HDT.out
  simp only [StRep.dat, h1, h2, h3, h4, h5]
 ·obtain ⟨h1, h2, h3, h4, h5, h6, h7, h8⟩ := HDT.out
  have e1 : qs.length = xs.length := by rw [← datAn_length, h1, datAn_length]
  have e2 := sizeAn_dat h1
  have e3 := dataP_sizeP h2
  have e4 : ds.length = ps.length := by have := congrArg List.length h2; simpa [dataP] using this
  simp only [StRep.szs, e1, e2, e3, e4, h6, h7, h8]
 ·have hkE : Kept (fun b => b = w.heap.size + 1 ∨ b = w.heap.size + 1 + 1) w5 (((((((((((w5.setCell ⟨w.heap.size + 1 + 1, 7, none⟩ (.slice ra1 rn1 rc1)).setCell ⟨w.heap.size + 1 + 1, 8, none⟩ (.int .i64 fr)).setCell ⟨w.heap.size + 1, 0, none⟩ (.int .i64 fa)).setCell ⟨w.heap.size + 1, 1, none⟩ (.slice (some ⟨g1, 0, none⟩) xs.length xs.length)).setCell ⟨w.heap.size + 1, 2, none⟩ (.slice (some ⟨g2, 0, none⟩) dur.length dur.length)).setCell ⟨w.heap.size + 1, 3, none⟩ (.slice (some ⟨g3, 0, none⟩) ps.length ps.length)).setCell ⟨w.heap.size + 1, 4, none⟩ (.bool up)).setCell ⟨w.heap.size + 1, 5, none⟩ (.slice la1 ln1 lc1)).setCell ⟨w.heap.size + 1, 6, none⟩ (.slice ha1 hn2 hc1)).setCell ⟨w.heap.size + 1, 7, none⟩ (.slice ra1 rn1 rc1)).setCell ⟨w.heap.size + 1, 8, none⟩ (.int .i64 fr)) := by
   iterate 9 refine Kept.setCell ?_ (.inr (.inl rfl)) _
   iterate 2 refine Kept.setCell ?_ (.inr (.inr rfl)) _
   exact Kept.refl _ _
  exact ⟨HOQ.out.kept hkE (fun b hb e => by have := HFQ.out b hb; omega), HOD.out.kept hkE (fun b hb e => by have := HFD.out b hb; omega), HOL.out.kept hkE (fun b hb e => by have := HFL.out b hb; omega), HOH.out.kept hkE (fun b hb e => by have := HFH.out b hb; omega), HOM.out.kept hkE (fun b hb e => by have := HFM.out b hb; omega)⟩
 ·iterate 11 refine Kept.setCell ?_ (.inl (by simp only []; omega)) _
  exact HKz.out
abbrev IsI' (n : Int) : Prop := -9223372036854775808 ≤ n ∧ n ≤ 9223372036854775807
def recT (r : Int × List Int) : List UInt8 := 32 :: (Lib.itoa r.1 ++ 32 :: hxW r.2)
def anF (d : AnDat) : List UInt8 := Lib.itoa d.1 ++ [32] ++ Lib.itoa d.2.1 ++ [32] ++ Lib.itoa d.2.2.1 ++ [32] ++ hxW d.2.2.2.1 ++ [32] ++ Lib.itoa d.2.2.2.2.2
def anL (d : AnDat) : List UInt8 := anF d ++ d.2.2.2.2.1.flatMap recT ++ [10]
def anW (d : AnDat) : List (List UInt8) := [Lib.itoa d.1, Lib.itoa d.2.1, Lib.itoa d.2.2.1, hxW d.2.2.2.1, Lib.itoa d.2.2.2.2.2] ++ d.2.2.2.2.1.flatMap fun r => [Lib.itoa r.1, hxW r.2]
def upW (up : Bool) : List UInt8 := if up = true then [117, 112] else [100, 111, 119, 110]
def rmT (z : Int) : List UInt8 := 32 :: Lib.itoa z
def stL (up : Bool) (fr : Int) (rm : List Int) : List UInt8 := upW up ++ [32] ++ Lib.itoa fr ++ rm.flatMap rmT ++ [10]
def stW (up : Bool) (fr : Int) (rm : List Int) : List (List UInt8) := [upW up, Lib.itoa fr] ++ rm.map Lib.itoa
def rpT (fa : Int) (ys : List AnDat) (up : Bool) (fr : Int) (rm : List Int) : List UInt8 :=
 if fa ≠ 0 then [102, 97, 117, 108, 116, 32] ++ Lib.itoa fa ++ [10] else ys.flatMap anL ++ stL up fr rm
theorem join_cons (x : List UInt8) (r : List (List UInt8)) : Lib.join (x :: r) [32] = x ++ (r.map (32 :: ·)).flatten := by
 induction r generalizing x with
 | nil => simp [Lib.join, List.intercalate]
 | cons y r ih =>
  have h : Lib.join (x :: y :: r) [32] = x ++ [32] ++ Lib.join (y :: r) [32] := by simp [Lib.join, List.intercalate]
  rw [h, ih]
  simp
theorem join_an (d : AnDat) : Lib.join (anW d) [32] ++ [10] = anL d := by
 unfold anW anL anF
 rw [List.cons_append, join_cons]
 have e : ∀ rs : List (Int × List Int), ((rs.flatMap fun r => [Lib.itoa r.1, hxW r.2]).map (32 :: ·)).flatten = rs.flatMap recT := fun rs => by
  induction rs with
  | nil => rfl
  | cons r rs ih => simp [List.flatMap_cons, recT, ih]
 simp only [List.cons_append, List.nil_append, List.map_cons, List.map_append, List.flatten_cons, List.flatten_append, e]
 simp
theorem join_st (up : Bool) (fr : Int) (rm : List Int) : Lib.join (stW up fr rm) [32] ++ [10] = stL up fr rm := by
 unfold stW stL
 rw [List.cons_append, join_cons]
 have e : ∀ rs : List Int, ((rs.map Lib.itoa).map (32 :: ·)).flatten = rs.flatMap rmT := fun rs => by
  induction rs with
  | nil => rfl
  | cons r rs ih =>
   rw [List.flatMap_cons, ← ih]
   rfl
 simp only [List.cons_append, List.nil_append, List.map_cons, List.map_append, List.flatten_cons, List.flatten_append, e]
 simp
structure EAn.ok (x : EAn) : Prop where
 cd : IsI' x.cd
 tx : IsI' x.tx
 rid : IsI' x.rid
 us : IsI' x.us
 db : IsB x.db
 rs : ∀ r ∈ x.rs, IsI' r.id ∧ IsB r.bs
theorem hxW_len (bs : List Int) : (hxW bs).length ≤ 2 * bs.length + 1 := by
 unfold hxW u8s encH
 rw [List.length_map]
 split
 ·simp
 ·rw [hexB_length]; omega
theorem recs_len : ∀ (rs : List EHeapRecord), (∀ r ∈ rs, IsI' r.id ∧ IsB r.bs) → ((datHeapRecordS rs).flatMap recT).length ≤ 24 * rs.length + 2 * sizeHeapRecordS rs
 | [], _ => by simp [datHeapRecordS]
 | r :: rs, h => by
  have h1 := recs_len rs (fun q hq => h q (List.mem_cons_of_mem _ hq))
  have h2 := (h r (List.mem_cons_self ..)).1
  have h3 := itoa_len r.id h2.1 h2.2
  have h4 := hxW_len r.bs
  have e : datHeapRecordS (r :: rs) = r.dat :: datHeapRecordS rs := rfl
  have e2 : sizeHeapRecordS (r :: rs) = r.bs.length + sizeHeapRecordS rs := rfl
  rw [e, e2, List.flatMap_cons, List.length_append]
  simp only [recT, EHeapRecord.dat, List.length_cons, List.length_append] at h1 ⊢
  omega
theorem anL_len (x : EAn) (h : x.ok) : ((anL x.dat).length : Int) ≤ 120 + 50 * x.szs := by
 have a1 := itoa_len _ h.cd.1 h.cd.2
 have a2 := itoa_len _ h.tx.1 h.tx.2
 have a3 := itoa_len _ h.rid.1 h.rid.2
 have a4 := itoa_len _ h.us.1 h.us.2
 have a5 := hxW_len x.db
 have a6 := recs_len x.rs h.rs
 unfold anL anF EAn.szs
 simp only [EAn.dat, List.length_append, List.length_cons, List.length_nil]
 omega
structure Buf (w : World) (g cap : Nat) (l : List UInt8) : Prop where
 le : l.length ≤ cap
 there : ∀ j, j < cap → (w.cell? ⟨g, j, none⟩).isSome = true ∧ w.frozen? ⟨g, j, none⟩ = false
 cells : ∀ j (h : j < l.length), w.cell? ⟨g, j, none⟩ = some (.int .u8 (l[j].toNat : Int))
theorem Buf.same {w w' : World} {g cap : Nat} {l : List UInt8} (h : Buf w g cap l) (hk : Same w w') : Buf w' g cap l := by
 have hc : ∀ j v, w.cell? ⟨g, j, none⟩ = some v → w'.cell? ⟨g, j, none⟩ = some v := fun j v hv => hk.cellOf hv id
 refine ⟨h.le, fun j hj => ?_, fun j hj => hc j _ (h.cells j hj)⟩
 obtain ⟨h1, h2⟩ := h.there j hj
 obtain ⟨v, hv⟩ := Option.isSome_iff_exists.1 h1
 refine ⟨by rw [hc j v hv]; rfl, ?_⟩
 have hlt : g < w.heap.size := World.block_lt_of_cell? w ⟨g, j, none⟩ hv
 rw [← h2]
 unfold World.frozen?
 rw [hk.block g hlt (fun e => e)]
theorem Buf.lt {w : World} {g cap : Nat} {l : List UInt8} (h : Buf w g cap l) (h0 : 0 < l.length) : g < w.heap.size := World.block_lt_of_cell? w ⟨g, 0, none⟩ (h.cells 0 h0)
theorem tx_cells (m : List UInt8) : byteCells (Tx m) = m.map fun b => Value.int .u8 (b.toNat : Int) := by simp [byteCells, Tx]
theorem Buf.new (w : World) (cs : Array Value) (fz : Nat × Nat) (cap : Nat) (l : List UInt8) (hs : cs.size = cap) (hf : fz.1 = fz.2 ∨ cap ≤ fz.1) (hl : l.length ≤ cap) (hc : ∀ j (h : j < l.length), cs[j]? = some (.int .u8 (l[j].toNat : Int))) :
  Buf (w.alloc (.cells cs 5 fz)) w.heap.size cap l := by
 have hb : (w.alloc (.cells cs 5 fz)).heap[w.heap.size]? = some (.cells cs 5 fz) := by unfold World.alloc; exact Array.getElem?_push_size
 refine ⟨hl, fun j hj => ⟨?_, ?_⟩, fun j hj => ?_⟩
 ·simp only [World.cell?, hb]
  simp; omega
 ·simp only [World.frozen?, hb]
  rcases hf with h | h <;> simp <;> omega
 ·simp only [World.cell?, hb]
  simpa using hc j hj
theorem run_appS {ty : TypeId} {w : World} {g cap : Nat} {l m : List UInt8} (h : Buf w g cap l) (hl : l.length + m.length ≤ 1099511627776) :
  ∃ g' cap' w', (Builtin.append_ #[34, 9] ty #[.slice (some ⟨g, 0, none⟩) l.length cap, .string (Tx m)]).run Tryd.prog w = .ok (.slice (some ⟨g', 0, none⟩) (l.length + m.length) cap') w' ∧ Buf w' g' cap' (l ++ m) ∧ Kept (fun b => b = g) w w' ∧ (g' = g ∨ w.heap.size ≤ g') := by
 obtain ⟨i0, hi, hz0, hz1, hz2⟩ := info_parts Tryd.infoByte'
 have hs : Src Tryd.prog i0.size 9 (.string (Tx m)) m.length (m.map fun b => Value.int .u8 (b.toNat : Int)) w := by
  have h := Src.ofString (P := Tryd.prog) w Tryd.underlying9 (Tx m)
  rw [tx_size, tx_cells] at h
  rw [hz1]
  exact h
 by_cases hr : l.length + m.length ≤ cap
 ·have e := run_append_room_src (P := Tryd.prog) w 34 9 ty 5 i0 Tryd.underlying34 hi g 0 l.length cap _ m.length _ hs hr
   (fun j hj => by rw [hz1]; simp at hj ⊢; exact (h.there (l.length + j) (by omega)).1) (fun j hj => by rw [hz1]; simp at hj ⊢; exact (h.there (l.length + j) (by omega)).2)
  rw [hz1, Nat.zero_add, Nat.mul_one] at e
  refine ⟨g, cap, _, e, ⟨by simp; omega, fun j hj => ?_, fun j hj => ?_⟩, Kept.setCells (R := fun b => b = g) (.inr rfl) _ _ (Kept.refl _ _), .inl rfl⟩
  ·exact ⟨World.isSome_setCells g _ _ w _ (h.there j hj).1, by rw [World.frozen?_setCells]; exact (h.there j hj).2⟩
  ·by_cases hj2 : j < l.length
   ·rw [World.cell?_setCells_out g _ _ w _ (fun _ _ => .inl hj2), h.cells j hj2, List.getElem_append_left hj2]
   ·obtain ⟨k, rfl⟩ : ∃ k, j = l.length + k := ⟨j - l.length, by omega⟩
    have hk : k < m.length := by simp at hj; omega
    rw [World.cell?_setCells_in g _ _ w (fun j hj => by simp at hj; exact (h.there (l.length + j) (by omega)).1) k (by simpa using hk)]
    simp
 ·have hold : (Builtin.firstCells i0.size l.length (.slice (some ⟨g, 0, none⟩) l.length cap)).run Tryd.prog w.drew = .ok (l.map fun b => Value.int .u8 (b.toNat : Int)).toArray w.drew := by
   refine run_firstCells_some w.drew i0.size l.length ⟨g, 0, none⟩ l.length cap _ (by rw [hz1]; simp) (fun j v hv => ?_)
   have hj : j < l.length := by have := (List.getElem?_eq_some_iff.1 hv).1; simpa using this
   have hc := h.cells j hj
   simp [hj] at hv
   rw [← hv]
   simpa [Addr.add_lit] using hc
  have e := run_append_grow_src (P := Tryd.prog) (w := w) 34 9 ty 5 i0 (.int .u8 0) Tryd.underlying34 hi hz0 (some ⟨g, 0, none⟩) l.length cap _ hold _ m.length _ hs (by omega) (by omega) (by rw [hz2]; have := nextslicecap_le (need := l.length + m.length) (old := cap) (by omega); omega)
  have hge := grownCap_ge w (l.length + m.length) cap 5
  refine ⟨w.heap.size, _, _, e, ?_, ((Kept.refl _ _).drew).alloc _, .inr (Nat.le_refl _)⟩
  obtain ⟨c2, hc2⟩ : ∃ c, grownCap w (l.length + m.length) cap 5 = c := ⟨_, rfl⟩
  rw [hc2] at hge ⊢
  refine Buf.new w.drew _ (0, 0) c2 (l ++ m) ?_ (.inl rfl) (by simpa using hge) (fun j hj => ?_)
  ·simp [size_zeroCells, show (Value.int IntKind.u8 0).cells.size = 1 from rfl]; omega
  ·simp at hj
   rw [Array.getElem?_append_left (by simp; omega)]
   rw [List.getElem?_toArray, ← List.map_append, List.getElem?_map, List.getElem?_eq_getElem (by simp; omega)]
   rfl
theorem conv_buf {w : World} {g cap : Nat} {l : List UInt8} (h : Buf w g cap l) : (convert 34 9 (.slice (some ⟨g, 0, none⟩) l.length cap)).run Tryd.prog w = .ok (.string (Tx l)) w := by
 have e := run_convert_bytes_back w 34 9 5 ⟨g, 0, none⟩ cap l Tryd.underlying34 Tryd.underlying5 Tryd.underlying9 (fun j hj => by simpa [Addr.add_lit] using h.cells j hj)
 exact e
theorem wpList_appS {w : World} {ops : Array Oper} {rest : List Oper} {o : Oper} {a : Act} {Q : Exit → Act → World → Prop} (hgd : o.guard = none) (s x : Operand)
  (ho : o.op = .call { callee := .builtin .append, args := #[s, x], argTypes := #[34, 9] })
  (g cap : Nat) (l m : List UInt8) (hs : a.eval s = .slice (some ⟨g, 0, none⟩) l.length cap) (hx : a.eval x = .string (Tx m)) (hb : Buf w g cap l) (hl : l.length + m.length ≤ 1099511627776)
  (h : ∀ g' cap' w', Buf w' g' cap' (l ++ m) → Kept (fun b => b = g) w w' → (g' = g ∨ w.heap.size ≤ g') → wpList Tryd.prog ops Q rest (a.put o.dst (.slice (some ⟨g', 0, none⟩) (l.length + m.length) cap')) w') : wpList Tryd.prog ops Q (o :: rest) a w := by
 obtain ⟨g', cap', w', hr, h2, h3, h4⟩ := run_appS (ty := o.type) hb hl
 refine wpList_plain hgd fun _ hK => ?_
 unfold Oper.wp execOp
 simp only [ho, resolve, invoke, builtin, Sem.run_bind, Sem.run_pure, Result.andThen_ok, List.map_toArray, List.map_cons, List.map_nil, hs, hx, hr]
 exact hK _ _ (h g' cap' w' h2 h3 h4)
theorem run_appX {ty tx : TypeId} {x : Value} {w : World} {g cap : Nat} {l m : List UInt8} (h : Buf w g cap l) (hs0 : ∀ i0 : TypeInfo, i0.size = 1 → Src Tryd.prog i0.size tx x m.length (m.map fun b => Value.int .u8 (b.toNat : Int)) w) (hl : l.length + m.length ≤ 1099511627776) :
  ∃ g' cap' w', (Builtin.append_ #[34, tx] ty #[.slice (some ⟨g, 0, none⟩) l.length cap, x]).run Tryd.prog w = .ok (.slice (some ⟨g', 0, none⟩) (l.length + m.length) cap') w' ∧ Buf w' g' cap' (l ++ m) ∧ Kept (fun b => b = g) w w' ∧ (g' = g ∨ w.heap.size ≤ g') := by
 obtain ⟨i0, hi, hz0, hz1, hz2⟩ := info_parts Tryd.infoByte'
 have hs := hs0 i0 hz1
 by_cases hr : l.length + m.length ≤ cap
 ·have e := run_append_room_src (P := Tryd.prog) w 34 tx ty 5 i0 Tryd.underlying34 hi g 0 l.length cap _ m.length _ hs hr
   (fun j hj => by rw [hz1]; simp at hj ⊢; exact (h.there (l.length + j) (by omega)).1) (fun j hj => by rw [hz1]; simp at hj ⊢; exact (h.there (l.length + j) (by omega)).2)
  rw [hz1, Nat.zero_add, Nat.mul_one] at e
  refine ⟨g, cap, _, e, ⟨by simp; omega, fun j hj => ?_, fun j hj => ?_⟩, Kept.setCells (R := fun b => b = g) (.inr rfl) _ _ (Kept.refl _ _), .inl rfl⟩
  ·exact ⟨World.isSome_setCells g _ _ w _ (h.there j hj).1, by rw [World.frozen?_setCells]; exact (h.there j hj).2⟩
  ·by_cases hj2 : j < l.length
   ·rw [World.cell?_setCells_out g _ _ w _ (fun _ _ => .inl hj2), h.cells j hj2, List.getElem_append_left hj2]
   ·obtain ⟨k, rfl⟩ : ∃ k, j = l.length + k := ⟨j - l.length, by omega⟩
    have hk : k < m.length := by simp at hj; omega
    rw [World.cell?_setCells_in g _ _ w (fun j hj => by simp at hj; exact (h.there (l.length + j) (by omega)).1) k (by simpa using hk)]
    simp
 ·have hold : (Builtin.firstCells i0.size l.length (.slice (some ⟨g, 0, none⟩) l.length cap)).run Tryd.prog w.drew = .ok (l.map fun b => Value.int .u8 (b.toNat : Int)).toArray w.drew := by
   refine run_firstCells_some w.drew i0.size l.length ⟨g, 0, none⟩ l.length cap _ (by rw [hz1]; simp) (fun j v hv => ?_)
   have hj : j < l.length := by have := (List.getElem?_eq_some_iff.1 hv).1; simpa using this
   have hc := h.cells j hj
   simp [hj] at hv
   rw [← hv]
   simpa [Addr.add_lit] using hc
  have e := run_append_grow_src (P := Tryd.prog) (w := w) 34 tx ty 5 i0 (.int .u8 0) Tryd.underlying34 hi hz0 (some ⟨g, 0, none⟩) l.length cap _ hold _ m.length _ hs (by omega) (by omega) (by rw [hz2]; have := nextslicecap_le (need := l.length + m.length) (old := cap) (by omega); omega)
  have hge := grownCap_ge w (l.length + m.length) cap 5
  refine ⟨w.heap.size, _, _, e, ?_, ((Kept.refl _ _).drew).alloc _, .inr (Nat.le_refl _)⟩
  obtain ⟨c2, hc2⟩ : ∃ c, grownCap w (l.length + m.length) cap 5 = c := ⟨_, rfl⟩
  rw [hc2] at hge ⊢
  refine Buf.new w.drew _ (0, 0) c2 (l ++ m) ?_ (.inl rfl) (by simpa using hge) (fun j hj => ?_)
  ·simp [size_zeroCells, show (Value.int IntKind.u8 0).cells.size = 1 from rfl]; omega
  ·simp at hj
   rw [Array.getElem?_append_left (by simp; omega)]
   rw [List.getElem?_toArray, ← List.map_append, List.getElem?_map, List.getElem?_eq_getElem (by simp; omega)]
   rfl
theorem Buf.empty (w : World) : Buf (w.alloc (.cells #[] 5)) w.heap.size 0 [] := Buf.new w #[] (0, 0) 0 [] rfl (.inl rfl) (Nat.le_refl _) (fun j h => by simp at h)
theorem src_one {w : World} {B : Nat} {e : TypeId} (x : UInt8) (h : Blk w B e [.int .u8 (x.toNat : Int)]) : ∀ i0 : TypeInfo, i0.size = 1 → Src Tryd.prog i0.size 34 (.slice (some ⟨B, 0, none⟩) 1 1) [x].length ([x].map fun b => Value.int .u8 (b.toNat : Int)) w := fun i0 h1 => by
 rw [h1]
 refine Src.ofSlice (P := Tryd.prog) w Tryd.underlying34 ⟨B, 0, none⟩ 1 1 _ (by simp) (fun j u hu => ?_) (fun u hu => ?_)
 ·have hj : j = 0 := by have := (List.getElem?_eq_some_iff.1 hu).1; simp at this; omega
  subst hj
  simp at hu
  subst hu
  simpa [Addr.add_lit] using h.cell 0
 ·simp at hu; subst hu; rfl
theorem wpList_app1 {w : World} {ops : Array Oper} {rest : List Oper} {o : Oper} {a : Act} {Q : Exit → Act → World → Prop} (hgd : o.guard = none) (s x : Operand)
  (ho : o.op = .call { callee := .builtin .append, args := #[s, x], argTypes := #[34, 34] })
  (g cap B : Nat) (e : TypeId) (l : List UInt8) (y : UInt8) (hs : a.eval s = .slice (some ⟨g, 0, none⟩) l.length cap) (hx : a.eval x = .slice (some ⟨B, 0, none⟩) 1 1) (hb : Buf w g cap l) (hy : Blk w B e [.int .u8 (y.toNat : Int)]) (hl : l.length + 1 ≤ 1099511627776)
  (h : ∀ g' cap' w', Buf w' g' cap' (l ++ [y]) → Kept (fun b => b = g) w w' → (g' = g ∨ w.heap.size ≤ g') → wpList Tryd.prog ops Q rest (a.put o.dst (.slice (some ⟨g', 0, none⟩) (l.length + 1) cap')) w') : wpList Tryd.prog ops Q (o :: rest) a w := by
 obtain ⟨g', cap', w', hr, h2, h3, h4⟩ := run_appX (ty := o.type) (m := [y]) hb (src_one y hy) hl
 refine wpList_plain hgd fun _ hK => ?_
 unfold Oper.wp execOp
 simp only [ho, resolve, invoke, builtin, Sem.run_bind, Sem.run_pure, Result.andThen_ok, List.map_toArray, List.map_cons, List.map_nil, hs, hx, hr]
 exact hK _ _ (h g' cap' w' h2 h3 h4)
theorem step_appS {w : World} {ops : Array Oper} {o : Oper} {a : Act} {K : Act → World → Prop} {Q : Exit → Act → World → Prop} {E : Prop} (hgd : o.guard = none) (s x : Operand)
  (ho : o.op = .call { callee := .builtin .append, args := #[s, x], argTypes := #[34, 9] })
  (g cap : Nat) (l m : List UInt8) (hs : a.eval s = .slice (some ⟨g, 0, none⟩) l.length cap) (hx : a.eval x = .string (Tx m)) (hb : Buf w g cap l) (hl : l.length + m.length ≤ 1099511627776)
  (h : ∀ g' cap' w', Buf w' g' cap' (l ++ m) → Kept (fun b => b = g) w w' → (g' = g ∨ w.heap.size ≤ g') → K (a.put o.dst (.slice (some ⟨g', 0, none⟩) (l.length + m.length) cap')) w') :
  if Region.wanted o (yielded ops a.tmps) = true then Oper.wp Tryd.prog o a w K Q else E := by
 have hw : Region.wanted o (yielded ops a.tmps) = true := by simp [Region.wanted, hgd]
 rw [if_pos hw]
 obtain ⟨g', cap', w', hr, h2, h3, h4⟩ := run_appS (ty := o.type) hb hl
 unfold Oper.wp execOp
 simp only [ho, resolve, invoke, builtin, Sem.run_bind, Sem.run_pure, Result.andThen_ok, List.map_toArray, List.map_cons, List.map_nil, hs, hx, hr]
 exact h g' cap' w' h2 h3 h4
end Go.Proofs.YtbilnlgjpchgiaaDoor
