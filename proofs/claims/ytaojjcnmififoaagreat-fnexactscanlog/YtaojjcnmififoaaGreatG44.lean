import Derived.Test.YtaojjcnmififoaaGreatG43
namespace Go.Proofs.YtaojjcnmififoaaGreat
set_option maxRecDepth 100000
set_option maxHeartbeats 16000000
open Go.RowKit
set_option linter.unusedVariables false
theorem jbo (AX BF : Value) (dM : List Int) (fG : List PW) (s1 s2 s3 : Int) (w : World) (Bn : RdD w AX BF dM fG) (Ip : DiskB dM fG) :
    Calls Tryz.prog 3 #[.agg #[AX, BF], .int .i64 s1, .int .i64 s2, .int .i64 s3] w fun e w' => e = .returned (.bool true) ∧ Same w w' := by
  obtain ⟨KE, He, rfl⟩ := Bn.dur.form
  obtain ⟨JP, Ic, rfl⟩ := Bn.pend.form
  have xk := (show Hid (RdD w (.slice KE dM.length He) (.slice JP fG.length Ic) dM fG) from Bn)
  clear Bn
  have lg := hid Ip
  clear Ip
  go_enter Tryz.func3, Tryz.ntmps3
  have sD : Hid (Same w w) := kZ0
  go_wp2_with fail
  refine (jb8 _ _ dM fG _ _ (by omega) (by omega) (xk.out.same (kZ0.alloc _))).mono ?_
  rintro e w1 ⟨PO, rfl, hr, hk⟩
  have aG : Same w w1 := (kZ0.alloc _).trans hk
  have Cq := hk.size
  rw [World.size_alloc] at Cq
  have pu := (show Hid (Box w1 (w.heap.size) (.slice KE dM.length He) (.slice JP fG.length Ic)) from (Box.new _ _ _ _).same hk)
  have uj := hid (sD.out.trans aG)
  clear aG hk
  rcases hr with rfl | ⟨hr, tY⟩
  · go_wp2
    go_ret
    exact ⟨rfl, uj.out⟩
  have QQ : dM.length ≤ 1048576 := by omega
  have pS : fG.length ≤ 1048576 := by omega
  have C5 : Ti fG ≤ 1048576 := by omega
  have A5 : Hid (∀ p ∈ fG, p.bs.length ≤ 1048576) := fun p hp => by have := Zq fG p hp; omega
  have J4 : Hid (∀ qs : List PW, Rh qs = Rh fG → qs.length ≤ 1073741824 ∧ ∀ p ∈ qs, p.bs.length ≤ 1099511627776) := fun qs hq => ⟨by rw [← RN, hq, RN]; omega, fun p hp => by have := Zq qs p hp; rw [Xw hq] at this; omega⟩
  clear hr
  obtain ⟨iD, iI⟩ := pu.out
  have iy := pu.out.lt
  go_wp2_with fail
  refine (Vn _ _ dM fG _ (by omega) (by omega) (fun p hp => Nat.le_trans (A5.out p hp) (by omega)) (xk.out.same uj.out)).mono ?_
  rintro e w2 ⟨Hl, xt, rP, rfl, hq, hf, ho, hk⟩
  have zm : Hid (Rh rP = Rh fG) := hq
  have Nm := (show Hid (∀ b, Vu (.slice (some ⟨Hl, 0, none⟩) dM.length dM.length) (.slice (some ⟨xt, 0, none⟩) fG.length fG.length) rP b → w1.heap.size ≤ b ∧ b < w2.heap.size) from fun b hb => ⟨hf b hb, (ho.lt b hb).2⟩)
  have su := (show Hid (OwnD 0 76 5 w2 (.slice (some ⟨Hl, 0, none⟩) dM.length dM.length) (.slice (some ⟨xt, 0, none⟩) fG.length fG.length) dM rP) from ho)
  clear hf ho hq
  have aG : Same w1 w2 := hk
  have Nn := aG.size
  have oH := hid (pu.out.same aG)
  have F7 := hid (uj.out.trans aG)
  clear aG hk
  clear iD iI iy
  obtain ⟨iD, iI⟩ := oH.out
  have iy := oH.out.lt
  go_wp2_with fail
  refine (jau _ _ dM rP s1 s2 s3 _ lg.out.1 (lg.out.dat zm.out).2 (by omega) (su.out.rd)).mono ?_
  rintro e w3 ⟨vW, Wq, en, rfl, hd, hf, ho, hk⟩
  obtain ⟨Wa, Wc, rfl⟩ := ho.rd.row.form
  rw [zm.out] at hd
  have Kw := hid (VK lg.out hd)
  have QI := Kw.out.1
  have OP := Kw.out.2.2
  have Nb := TB Wq
  have Jv := hid hd
  have Js := (show Hid (∀ b, Sm (.slice Wa Wq.length Wc) Wq b → w2.heap.size ≤ b ∧ b < w3.heap.size) from fun b hb => ⟨hf b hb, ho.lt b hb⟩)
  have C6 := (show Hid (OwnFr w3 (.slice Wa Wq.length Wc) Wq) from ho)
  clear hd hf ho
  have aG : Same w2 w3 := hk
  have MW := aG.size
  have oC := hid (oH.out.same aG)
  have IR := hid (su.out.same aG)
  have za := hid (F7.out.trans aG)
  clear aG hk
  clear iD iI iy
  obtain ⟨iD, iI⟩ := oC.out
  have iy := oC.out.lt
  go_wp2_with fail
  refine (Vn _ _ dM fG _ (by omega) (by omega) (fun p hp => Nat.le_trans (A5.out p hp) (by omega)) (xk.out.same (za.out.alloc _))).mono ?_
  rintro e w4 ⟨AY, rU, jn, rfl, hq, hf, ho, hk⟩
  have lT : Hid (Rh jn = Rh fG) := hq
  simp only [World.size_alloc] at hf
  have lR := (show Hid (∀ b, Vu (.slice (some ⟨AY, 0, none⟩) dM.length dM.length) (.slice (some ⟨rU, 0, none⟩) fG.length fG.length) jn b → w3.heap.size < b ∧ b < w4.heap.size) from fun b hb => ⟨by have := hf b hb; omega, (ho.lt b hb).2⟩)
  have s5 := (show Hid (OwnD 0 76 5 w4 (.slice (some ⟨AY, 0, none⟩) dM.length dM.length) (.slice (some ⟨rU, 0, none⟩) fG.length fG.length) dM jn) from ho)
  clear hf ho hq
  have aG : Same w3 w4 := (kZ0.alloc _).trans hk
  have DG := hk.size
  rw [World.size_alloc] at DG
  have oK := hid (oC.out.same aG)
  have CW := hid (C6.out.same aG)
  have qC := (show Hid (Blk w4 (w3.heap.size) 29 [.slice Wa Wq.length Wc, .int .i64 en]) from (Blk.new w3 #[.slice Wa Wq.length Wc, .int .i64 en] 29).same hk)
  have FK := hid (za.out.trans aG)
  clear aG hk
  clear iD iI iy
  obtain ⟨iD, iI⟩ := oK.out
  have iy := oK.out.lt
  have fL := qC.out.c0
  have fK := qC.out.c1
  have lZ := qC.out.lt
  go_wp2_with fail
  refine (WU _ _ dM jn s1 s2 s3 _ lg.out.1 (lg.out.dat lT.out).2 (by omega) (s5.out.rd.same (kZ0.alloc _))).mono ?_
  rintro e w5 ⟨vG, Gq, Qp, rfl, hd, hf, ho, hk⟩
  obtain ⟨Ga, Gc, rfl⟩ := ho.rd.row.form
  rw [lT.out] at hd
  have Bl := hid (VK lg.out hd)
  have QB := Bl.out.1
  have NQ := Bl.out.2.2
  have N0 := TB Gq
  have uE := hid hd
  obtain ⟨qb, GK⟩ := ScanA.one Jv.out uE.out
  subst GK
  have Kb := (show Hid (Sv Gq = Sv Wq) from qb.symm)
  clear qb
  simp only [World.size_alloc] at hf
  have wG := (show Hid (∀ b, Sm (.slice Ga Gq.length Gc) Gq b → w4.heap.size < b ∧ b < w5.heap.size) from fun b hb => ⟨by have := hf b hb; omega, ho.lt b hb⟩)
  have xf := (show Hid (OwnFr w5 (.slice Ga Gq.length Gc) Gq) from ho)
  clear hd hf ho
  have aG : Same w4 w5 := (kZ0.alloc _).trans hk
  have CB := hk.size
  rw [World.size_alloc] at CB
  have oI := hid (oK.out.same aG)
  have Af := hid (CW.out.same aG)
  have rk := hid (qC.out.same aG)
  have zh := hid (s5.out.same aG)
  have ox := (show Hid (Box w5 (w4.heap.size) (.slice (some ⟨AY, 0, none⟩) dM.length dM.length) (.slice (some ⟨rU, 0, none⟩) fG.length fG.length)) from (Box.new _ _ _ _).same hk)
  have qG := hid (FK.out.trans aG)
  clear aG hk
  clear iD iI iy
  clear fL fK lZ
  obtain ⟨iD, iI⟩ := oI.out
  have iy := oI.out.lt
  obtain ⟨AB, yd⟩ := ox.out
  have zL := ox.out.lt
  have fL := rk.out.c0
  have fK := rk.out.c1
  have lZ := rk.out.lt
  go_wp2_with fail
  refine (Wu _ _ Gq Wq en _ (by omega) Kb.out (fun p hp => by have := Bl.out.2.1 p hp; omega) (xf.out.same (kZ0.alloc _)) (Af.out.same (kZ0.alloc _))).mono ?_
  rintro e w6 ⟨rfl, hk⟩
  have aG : Same w5 w6 := (kZ0.alloc _).trans hk
  have DJ := hk.size
  rw [World.size_alloc] at DJ
  have pn := hid (oI.out.same aG)
  have Ge := hid (Af.out.same aG)
  have re := hid (rk.out.same aG)
  have r7 := hid (zh.out.same aG)
  have mB := hid (ox.out.same aG)
  have G1 := hid (xf.out.same aG)
  have qK := (show Hid (Blk w6 (w5.heap.size) 29 [.slice Ga Gq.length Gc, .int .i64 en]) from (Blk.new w5 #[.slice Ga Gq.length Gc, .int .i64 en] 29).same hk)
  have iN := hid (qG.out.trans aG)
  clear aG hk
  clear iD iI iy AB yd zL
  clear fL fK lZ
  obtain ⟨iD, iI⟩ := pn.out
  have iy := pn.out.lt
  obtain ⟨AB, yd⟩ := mB.out
  have zL := mB.out.lt
  have fL := re.out.c0
  have fK := re.out.c1
  have lZ := re.out.lt
  have gj := qK.out.c0
  have gd := qK.out.c1
  have lY := qK.out.lt
  go_wp2_with fail
  go_cut [43] (fun v wc => v = .bool false ∧ Hid (Same w6 wc))
  case first =>
    have ts : Hid (Same w w6.drew) := iN.out.drew
    have wO : Hid (Same w6 w6.drew) := kZ0.drew
    go_region_with (first | (go_at_call 6; refine (Vn _ _ dM fG _ (by omega) (by omega) (fun p hp => Nat.le_trans (A5.out p hp) (by omega)) (by exact xk.out.same ts.out)).mono ?_; rintro e J9 ⟨g3, Ot, Dc, rfl, mP, Cz, tm, gq⟩; obtain ⟨y1, y2⟩ := mB.out.same (wO.out.trans gq); have lu := (show Hid (OwnD 0 76 5 J9 (.slice (some ⟨g3, 0, none⟩) dM.length dM.length) (.slice (some ⟨Ot, 0, none⟩) fG.length fG.length) dM Dc) from tm); have Oo : Hid (Rh Dc = Rh fG) := mP; have dd : Hid (Same w6 J9) := wO.out.trans gq; clear tm mP Cz gq) | (go_at_call 9; refine (jb7 0 _ _ _ _ dM jn Dc _ (by omega) (by have h := (J4.out jn lT.out).1; omega) (lT.out.trans Oo.out.symm) (fun p hp => Nat.le_trans ((J4.out jn lT.out).2 p hp) (by omega)) (r7.out.same dd.out) lu.out).mono ?_; rintro e MG ⟨rfl, gp⟩))
    all_goals
      have gx : Hid (Same w6 MG) := dd.out.trans gp
      clear gp
      go_wp2_with fail
      go_meet
      case rel => exact ⟨rfl, gx⟩
  case rest =>
  obtain ⟨rfl, A0⟩ := hcut
  obtain ⟨w7, OY⟩ : ∃ x, x = wc := ⟨_, rfl⟩
  subst OY
  clear iD iI iy AB yd zL
  clear fL fK lZ gj gd lY
  have aG : Same w6 w7 := A0.out
  have Lv := aG.size
  have oc := hid (pn.out.same aG)
  have Dr := hid (Ge.out.same aG)
  have qP := hid (re.out.same aG)
  have y8 := hid (r7.out.same aG)
  have oz := hid (mB.out.same aG)
  have Gi := hid (G1.out.same aG)
  have rS := hid (qK.out.same aG)
  have j8 := hid (iN.out.trans aG)
  clear aG
  have PQ : (0 : Int) ≤ 1 := by omega
  have Md : (1 : Int) ≤ 1 := by omega
  have IQ : jn.length = fG.length := by rw [← RN, lT.out, RN]
  obtain ⟨E1, hE⟩ : ∃ E, endP (1 + (dM.length : Int)) jn = E := ⟨_, rfl⟩
  have NR : 0 ≤ E1 := by rw [← hE, Zr]; omega
  have L1 : E1 ≤ 5000001 := by rw [← hE, Zr, Xw lT.out]; omega
  have xw : Hid (endP (1 + (dM.length : Int)) jn = E1) := hE
  clear hE
  obtain ⟨iD, iI⟩ := oc.out
  have iy := oc.out.lt
  obtain ⟨AB, yd⟩ := oz.out
  have zL := oz.out.lt
  have fL := qP.out.c0
  have fK := qP.out.c1
  have lZ := qP.out.lt
  have gj := rS.out.c0
  have gd := rS.out.c1
  have lY := rS.out.lt
  go_wp2_with fail
  have hm := jap 0 (.slice (some ⟨AY, 0, none⟩) dM.length dM.length) (.slice (some ⟨rU, 0, none⟩) fG.length fG.length) dM jn 1 w7 (by omega) (by rw [xw.out]; omega) (by omega) y8.out
  rw [xw.out] at hm
  refine hm.mono ?_
  clear hm
  rintro e w8 ⟨rfl, _, hk⟩
  have M8 := hk.size
  have pD := hid (oc.out.kept hk (fun e => by have h1 := lR.out _ e; omega))
  have Az := hid (Dr.out.kept hk (fun b hb e => by have h1 := lR.out _ e; have h2 := Js.out b hb; omega))
  have rQ := hid (qP.out.kept hk (fun e => by have h1 := lR.out _ e; omega))
  have IZ := hid (oz.out.kept hk (fun e => by have h1 := lR.out _ e; omega))
  have yl := hid (Gi.out.kept hk (fun b hb e => by have h1 := lR.out _ e; have h2 := wG.out b hb; omega))
  have rZ := hid (rS.out.kept hk (fun e => by have h1 := lR.out _ e; omega))
  have jK := hid (j8.out.next hk (fun b hb e => by have h1 := lR.out _ e; omega))
  clear iD iI iy AB yd zL
  clear fL fK lZ gj gd lY
  clear hk
  have Pq : ¬ E1 < 0 := by omega
  obtain ⟨iD, iI⟩ := pD.out
  have iy := pD.out.lt
  have fL := rQ.out.c0
  have fK := rQ.out.c1
  have lZ := rQ.out.lt
  have gj := rZ.out.c0
  have gd := rZ.out.c1
  have lY := rZ.out.lt
  go_wp2_with fail
  refine (Wu _ _ Gq Wq en _ (by omega) Kb.out (fun p hp => by have := Bl.out.2.1 p hp; omega) yl.out Az.out).mono ?_
  rintro e w9 ⟨rfl, hk⟩
  have aG : Same w8 w9 := hk
  have MB := aG.size
  have pw := hid (pD.out.same aG)
  have CG := hid (Az.out.same aG)
  have ri := hid (rQ.out.same aG)
  have FA := hid (yl.out.same aG)
  have rB := hid (rZ.out.same aG)
  have FZ := hid (jK.out.trans aG)
  clear aG hk
  clear iD iI iy
  clear fL fK lZ gj gd lY
  have Oa : ¬ (1 + Sn Gq) < 0 := by omega
  obtain ⟨M, hM⟩ : ∃ M, 1 + Sn Gq = M := ⟨_, rfl⟩
  have HM := (show Hid (1 + Sn Gq = M) from hM)
  have P3 : 0 ≤ M ∧ M ≤ 1125899906842624 := by omega
  rw [hM] at Oa
  clear hM
  obtain ⟨iD, iI⟩ := pw.out
  have iy := pw.out.lt
  have fL := ri.out.c0
  have fK := ri.out.c1
  have lZ := ri.out.lt
  have gj := rB.out.c0
  have gd := rB.out.c1
  have lY := rB.out.lt
  go_wp2_with fail
  have hm := Ze (.slice Ga Gq.length Gc) Gq en 1 w9 (by omega) (by rw [HM.out]; omega) (by omega) FA.out
  rw [HM.out] at hm
  refine hm.mono ?_
  clear hm
  rintro e lU ⟨rfl, ho, hk⟩
  have II := hk.size
  have mh := hid (pw.out.kept hk (fun e => by have h1 := wG.out _ e; omega))
  have zA := hid (CG.out.kept hk (fun b hb e => by have h1 := wG.out _ e; have h2 := Js.out b hb; omega))
  have m6 := hid (ri.out.kept hk (fun e => by have h1 := wG.out _ e; omega))
  have m4 := hid (rB.out.kept hk (fun e => by have h1 := wG.out _ e; omega))
  have AV := hid (FZ.out.next hk (fun b hb e => by have h1 := wG.out _ e; omega))
  have sf := (show Hid (MkFr lU (.slice Ga Gq.length Gc) Gq 1) from ho)
  clear iD iI iy
  clear fL fK lZ gj gd lY
  clear hk ho
  obtain ⟨iD, iI⟩ := mh.out
  have iy := mh.out.lt
  have fL := m6.out.c0
  have fK := m6.out.c1
  have lZ := m6.out.lt
  have gj := m4.out.c0
  have gd := m4.out.c1
  have lY := m4.out.lt
  go_wp2_with fail
  have hm := WZ (.slice Ga Gq.length Gc) Gq en 1 lU (by omega) (by rw [HM.out]; omega) (by omega) sf.out
  rw [HM.out] at hm
  refine hm.mono ?_
  clear hm
  rintro e qc ⟨rfl, hk⟩
  have aG : Same lU qc := hk
  have Kx := aG.size
  have mm := hid (mh.out.same aG)
  have zU := hid (zA.out.same aG)
  have m5 := hid (m6.out.same aG)
  have mR := hid (m4.out.same aG)
  have yL := hid (sf.out.same aG)
  have tz := hid (AV.out.trans aG)
  clear aG hk
  clear iD iI iy
  clear fL fK lZ gj gd lY
  obtain ⟨iD, iI⟩ := mm.out
  have iy := mm.out.lt
  have fL := m5.out.c0
  have fK := m5.out.c1
  have lZ := m5.out.lt
  have gj := mR.out.c0
  have gd := mR.out.c1
  have lY := mR.out.lt
  go_wp2_with fail
  refine (Vn _ _ dM fG _ (by omega) (by omega) (fun p hp => Nat.le_trans (A5.out p hp) (by omega)) (xk.out.same tz.out)).mono ?_
  rintro e pp ⟨Ku, zF, qS, rfl, hq, hf, ho, hk⟩
  have yP : Hid (Rh qS = Rh fG) := hq
  have Lz := (show Hid (∀ b, Vu (.slice (some ⟨Ku, 0, none⟩) dM.length dM.length) (.slice (some ⟨zF, 0, none⟩) fG.length fG.length) qS b → qc.heap.size ≤ b ∧ b < pp.heap.size) from fun b hb => ⟨hf b hb, (ho.lt b hb).2⟩)
  have oZ := (show Hid (OwnD 0 76 5 pp (.slice (some ⟨Ku, 0, none⟩) dM.length dM.length) (.slice (some ⟨zF, 0, none⟩) fG.length fG.length) dM qS) from ho)
  clear hf ho hq
  have aG : Same qc pp := hk
  have Ib := aG.size
  have me := hid (mm.out.same aG)
  have xm := hid (zU.out.same aG)
  have mM := hid (m5.out.same aG)
  have mC := hid (mR.out.same aG)
  have Ao := hid (yL.out.same aG)
  have xB := hid (tz.out.trans aG)
  clear aG hk
  clear iD iI iy
  clear fL fK lZ gj gd lY
  obtain ⟨iD, iI⟩ := me.out
  have iy := me.out.lt
  have fL := mM.out.c0
  have fK := mM.out.c1
  have lZ := mM.out.lt
  have gj := mC.out.c0
  have gd := mC.out.c1
  have lY := mC.out.lt
  go_wp2_with fail
  refine (WU _ _ dM qS s1 s2 s3 _ lg.out.1 (lg.out.dat yP.out).2 (by omega) (oZ.out.rd)).mono ?_
  rintro e nU ⟨vL, Lq, Qd, rfl, hd, hf, ho, hk⟩
  obtain ⟨La, Lc, rfl⟩ := ho.rd.row.form
  rw [yP.out] at hd
  have C8 := hid (VK lg.out hd)
  have PK := C8.out.1
  have Ow := C8.out.2.2
  have NA := TB Lq
  have yC := hid hd
  obtain ⟨qb, GK⟩ := ScanA.one Jv.out yC.out
  subst GK
  have Lk := (show Hid (Sv Lq = Sv Wq) from qb.symm)
  clear qb
  have PH := (show Hid (∀ b, Sm (.slice La Lq.length Lc) Lq b → pp.heap.size ≤ b ∧ b < nU.heap.size) from fun b hb => ⟨hf b hb, ho.lt b hb⟩)
  have sB := (show Hid (OwnFr nU (.slice La Lq.length Lc) Lq) from ho)
  clear hd hf ho
  have aG : Same pp nU := hk
  have JI := aG.size
  have ly := hid (me.out.same aG)
  have sw := hid (xm.out.same aG)
  have mw := hid (mM.out.same aG)
  have mH := hid (mC.out.same aG)
  have yM := hid (Ao.out.same aG)
  have Gg := hid (oZ.out.same aG)
  have Ae := hid (xB.out.trans aG)
  clear aG hk
  clear iD iI iy
  clear fL fK lZ gj gd lY
  obtain ⟨iD, iI⟩ := ly.out
  have iy := ly.out.lt
  have fL := mw.out.c0
  have fK := mw.out.c1
  have lZ := mw.out.lt
  have gj := mH.out.c0
  have gd := mH.out.c1
  have lY := mH.out.lt
  go_wp2_with fail
  refine (Wu _ _ Lq Wq en _ (by omega) Lk.out (fun p hp => by have := C8.out.2.1 p hp; omega) (sB.out.same (kZ0.alloc _)) (sw.out.same (kZ0.alloc _))).mono ?_
  rintro e Bb ⟨rfl, hk⟩
  have aG : Same nU Bb := (kZ0.alloc _).trans hk
  have AP := hk.size
  rw [World.size_alloc] at AP
  have lE := hid (ly.out.same aG)
  have Jj := hid (sw.out.same aG)
  have KD := hid (mw.out.same aG)
  have mz := hid (mH.out.same aG)
  have tp := hid (yM.out.same aG)
  have Kq := hid (sB.out.same aG)
  have JQ := (show Hid (Blk Bb (nU.heap.size) 29 [.slice La Lq.length Lc, .int .i64 en]) from (Blk.new nU #[.slice La Lq.length Lc, .int .i64 en] 29).same hk)
  have xx := hid (Ae.out.trans aG)
  clear aG hk
  clear iD iI iy
  clear fL fK lZ gj gd lY
  obtain ⟨iD, iI⟩ := lE.out
  have iy := lE.out.lt
  have gj := mz.out.c0
  have gd := mz.out.c1
  have lY := mz.out.lt
  go_wp2_with fail
  have hm := WZ (.slice Ga Gq.length Gc) Gq en 1 Bb (by omega) (by rw [HM.out]; omega) (by omega) tp.out
  rw [HM.out] at hm
  refine hm.mono ?_
  clear hm
  rintro e NE ⟨rfl, hk⟩
  have aG : Same Bb NE := hk
  have Ks := aG.size
  have D6 := hid (lE.out.same aG)
  have Ia := hid (mz.out.same aG)
  have I4 := hid (tp.out.same aG)
  have xi := hid (xx.out.trans aG)
  clear aG hk
  clear iD iI iy
  clear gj gd lY
  go_wp2
  go_ret
  exact ⟨rfl, xi.out⟩
end Go.Proofs.YtaojjcnmififoaaGreat

namespace Go.Proofs.YtaojjcnmififoaaGreat.fnExactScanLog
open Go.ChangeShapes Go.WideShapes Go.ChangeAt Go.RowKit
set_option linter.unusedVariables false
theorem own : ownKnob Tryz.prog.godebug = none := by kernel_rfl
theorem laidOut : laidOutB Tryz.prog = true := by kernel_rfl
set_option maxRecDepth 100000 in
theorem lifted (os : Os) (started : os.Started) (H : Type) (enc : TypeId × Value → H) :
    ReturnsInHanded {} Tryz.checked os 3 .any (Rows.fnExactScanLogSpec.pre6 enc Tryz.prog Tryz.f3 Rows.fnExactScanLogRow.domain false) (Rows.fnExactScanLogSpec.post enc Tryz.prog Tryz.f3 false true false false) := by
  refine returnsInHanded_of_change (C := Tryz.checked) own started (by kernel_rfl) Tryz.func3
    (ChangeSpec.witness6 (enc := enc) (C := Tryz.checked) false ⟨#[], #[.agg #[.slice none 0 0, .slice none 0 0], .int .i64 0, .int .i64 0, .int .i64 0], []⟩ 8 (by kernel_rfl) (by kernel_rfl) (by kernel_rfl) (by kernel_rfl)) ?_
  intro W base args ds gs before sk hW MJ _
  have jS : ∀ (j : Nat) t v, Tryz.f3.params[j]? = some t → args[j]? = some v → Value.okWide Tryz.prog W .any base t v := sk
  have LD := hW
  obtain ⟨p, q, Kt, hV, rfl, Il, j7⟩ := hW
  have hA : DataW.TrodAll enc Tryz.prog W 0 (fun _ => true) true Tryz.f3.params.toList args.toList ds p := Kt
  rw [Tryz.params3] at hA jS
  obtain ⟨v0, PZ, d0, QD, p0, q0, H7, rfl, rfl, h0, r0⟩ := trodAll_cons hA
  obtain ⟨v1, Qx, d1, QN, p1, q1, rfl, rfl, rfl, h1, r1⟩ := trodAll_cons r0
  obtain ⟨v2, PS, d2, QE, p2, q2, rfl, rfl, rfl, h2, r2⟩ := trodAll_cons r1
  obtain ⟨v3, Qc, d3, Qu, p3, q3, rfl, rfl, rfl, h3, r3⟩ := trodAll_cons r2
  obtain ⟨rfl, rfl, rfl⟩ := trodAll_nil r3
  obtain rfl : args = #[v0, v1, v2, v3] := by cases args; simp_all
  obtain ⟨rfl, rfl⟩ := trodVars_none hV
  have k0 := h0
  have Mh : ∀ x ∈ p0, x.block < W.heap.size := by obtain ⟨m, hm⟩ := k0; exact DataW.trod_lt m _ _ _ hm
  obtain ⟨AX, BF, dM, fG, rfl, Nc, Ln⟩ := jbH (jS 0 25 v0 rfl rfl) h0
  obtain ⟨a1, rfl, rfl, rfl, w1⟩ := open_int Tryz.underlying2 (jS 1 2 v1 rfl rfl) h1
  obtain ⟨a2, rfl, rfl, rfl, w2⟩ := open_int Tryz.underlying2 (jS 2 2 v2 rfl rfl) h2
  obtain ⟨a3, rfl, rfl, rfl, w3⟩ := open_int Tryz.underlying2 (jS 3 2 v3 rfl rfl) h3
  clear Kt sk
  refine (jbo AX BF dM fG a1 a2 a3 W Nc Ln).mono fun e W' ⟨he, hk⟩ => ?_
  have Ka : Below W.heap.size W W' := hk.below (Nat.le_refl _) (fun _ _ => id)
  subst he
  exact ⟨_, rfl, _, _, _, [], _, [], LD, trodAll_mk1 (shut_bool Tryz.underlying4 _), (trodAll_cons_mk (Below.trod laidOut (by kernel_rfl) (of_decide_eq_true (by kernel_rfl)) k0 Ka Mh) (trodAll_cons_mk (shut_int Tryz.underlying2 w1) (trodAll_cons_mk (shut_int Tryz.underlying2 w2) (trodAll_cons_mk (shut_int Tryz.underlying2 w3) trodAll_mk0)))), rfl, Ka.frame _, fun h => by cases h⟩
theorem over : Rows.fnExactScanLogRow.holds Tryz.pinned (OpenSpec.ofChange Rows.fnExactScanLogSpec) :=
  OpenClaim.holds_of_wide 3 Tryz.f3 rfl rfl rfl rfl rfl rfl rfl ⟨rfl, rfl, rfl, rfl, rfl⟩ rfl rfl rfl rfl rfl (by kernel_rfl) Tryz.func3 (by kernel_rfl)
    (of_decide_eq_true (by kernel_rfl)) (by unfold Func.isWrapper; first | (rw [if_pos (by decide +kernel)]; kernel_rfl) | (rw [if_neg (by decide +kernel)]; exact ⟨rfl, rfl⟩))
    (fun os started H enc _ => lifted os started H enc)
end Go.Proofs.YtaojjcnmififoaaGreat.fnExactScanLog
namespace Go.Proofs.YtaojjcnmififoaaGreat
theorem scanLog_proved : Rows.FnExactScanLogSaid := fnExactScanLog.over
#print axioms scanLog_proved
end Go.Proofs.YtaojjcnmififoaaGreat
