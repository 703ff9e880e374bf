import Derived.Test.YtaojjcnmififoaaGreatG29
import Derived.Deep.CutBlock
namespace Go.Proofs.YtaojjcnmififoaaGreat
set_option maxRecDepth 100000
set_option maxHeartbeats 8000000
set_option linter.unusedVariables false
set_option linter.unusedSimpArgs false
open Go.RowKit
theorem jfb {y : StLogRecord} {wx : World} {bs : List Int} (hB : IsB bs) (hd : y.dat = XV bs) (ho : OwnL wx y.rows) : y.isB ∧ y.szs ≤ 1073741824 := by
 obtain ⟨h1, h2, h3, h4⟩ := XF (k := nS bs 1) (t := nS (bs.drop 1) 4) (p := nS (bs.drop 5) 8) (hB.drop 13)
 have l1 := FR.own_len ho.right.right.left
 have l2 := FR.own_len ho.right.right.right.left
 change y.dat = Ru nS SX (nS bs 1) (nS (bs.drop 1) 4) (nS (bs.drop 5) 8) (bs.drop 13) at hd
 rw [← hd] at h1 h2 h3 h4
 refine ⟨⟨h1, h2, h3⟩, ?_⟩
 simp only [WK, StLogRecord.dat, StPageRecord.dat] at h4
 unfold StLogRecord.szs StPageRecord.szs
 omega
theorem jd8 : (Tryz.prog.info? 96).map (fun i => (i.zero, i.size, i.bytes)) = some (some (.agg #[.int .i64 0, .int .i64 0, .int .i64 0, .int .i64 0]), 4, 32) := by kernel_rfl
theorem jcz : (Tryz.prog.info? 98).map (fun i => (i.zero, i.size, i.bytes)) = some (some (.agg #[.int .i64 0, .int .i64 0]), 2, 16) := by kernel_rfl
theorem jdf (num : List Int → Nat → Int) (r : List Int) (j : Nat) : txL num r (j + 1) = txL num r j ++ txE num r j := by unfold txL; rw [List.range_succ, List.flatMap_append]; simp
theorem jdg (num : List Int → Nat → Int) (r : List Int) (j : Nat) : dyL num r (j + 1) = dyL num r j ++ dyE num r j := by unfold dyL; rw [List.range_succ, List.flatMap_append]; simp
theorem jfc (num : List Int → Nat → Int) (r : List Int) (j : Nat) {a b c d : Int} (h0 : num (r.drop (21 * j)) 4 = a) (h1 : num ((r.drop (21 * j)).drop 4) 1 = b) (h2 : num (((r.drop (21 * j)).drop 4).drop 1) 8 = c) (h3 : num ((((r.drop (21 * j)).drop 4).drop 1).drop 8) 8 = d) : txE num r j = [a, b, c, d] := by
 simp only [List.drop_drop] at h0 h1 h2 h3
 unfold txE
 rw [h0, h1, h2, h3]
theorem jfd (num : List Int → Nat → Int) (r : List Int) (j : Nat) {a b : Int} (h0 : num (r.drop (10 * j)) 2 = a) (h1 : num ((r.drop (10 * j)).drop 2) 8 = b) : dyE num r j = [a, b] := by
 simp only [List.drop_drop] at h0 h1
 unfold dyE
 rw [h0, h1]
theorem jay (v : Value) (bs : List Int) (w : World) (hB : IsB bs) (hl : bs.length ≤ 1099511627776) (hv : Rd .u8 w v bs) : Calls Tryz.prog 41 #[v] w fun e w' => ∃ y : StRecordResult, e = .returned y.val ∧ y.dat = VG bs ∧ (∀ b, Rf y.rows b → w.heap.size ≤ b) ∧ OwnL w' y.rows ∧ Same w w' := by
 obtain ⟨va, vc, rfl⟩ := hv.form
 have du : Same w (w.alloc (.cells zCells.toArray 79)) := kZ0.alloc _
 have eL : (w.alloc (.cells zCells.toArray 79)).heap.size = w.heap.size + 1 := by simp
 have eo := hid (Blk.newL w zCells 79)
 have aJ := hid du
 have HV := hid (fun wy (h : Kept (fun b => w.heap.size ≤ b) w wy) => hv.old h)
 unfold zCells at eo aJ eL
 clear du hv
 go_enter Tryz.func41, Tryz.ntmps41
 go_upto_region 1 with fail
 generalize w.alloc (.cells [.bool false, .int .i64 0, .int .i64 0, .int .i64 0, .int .i64 0, .int .i64 0, .bool false, .slice none 0 0, .bool false, .slice none 0 0, .int .i64 0, .int .i64 0, .slice none 0 0, .slice none 0 0, .slice none 0 0].toArray 79) = w0 at eo aJ eL ⊢
 have wK := (show Hid (Blk (w0.alloc (.cells #[.slice va bs.length vc, .int .i64 0] 92)) w0.heap.size 92 [.slice va bs.length vc, .int .i64 0]) from Blk.newL w0 [.slice va bs.length vc, .int .i64 0] 92)
 have ik := (show Hid (Blk (w0.alloc (.cells #[.slice va bs.length vc, .int .i64 0] 92)) w.heap.size 79 zCells) from eo.out.same (kZ0.alloc _))
 have aM := (show Hid (Same w (w0.alloc (.cells #[.slice va bs.length vc, .int .i64 0] 92))) from aJ.out.alloc _)
 go_upto_region 2 with fail
 generalize w0.alloc (.cells #[.slice va bs.length vc, .int .i64 0] 92) = w1 at wK ik aM ⊢
 generalize Value.slice va bs.length vc = v at wK HV ⊢
 rw [eL] at wK
 obtain ⟨P, hP⟩ : ∃ P, w.heap.size + 1 = P := ⟨_, rfl⟩
 rw [hP] at wK ⊢
 have fU := (show Hid (RS w1 w.heap.size P v bs bs 0) from ⟨⟨0, Nat.le_refl _, rfl, wK.out⟩, fun wy h => HV.out wy ((aM.out.mono (fun _ _ e => e.elim)).trans h), by omega⟩)
 clear wK aJ eo eL HV
 go_wp2_with fail
 refine (R4 1 hB (by omega) (by omega) hl fU.out).mono ?_
 rintro e w2 ⟨rfl, b9, aN⟩
 obtain ⟨k, hk⟩ : ∃ x, nS (bs) 1 = x := ⟨_, rfl⟩
 rw [hk]
 have jD := hid b9
 have mI := hid (ik.out.kept aN (by omega))
 have aY := hid (aM.out.next aN (fun i hi e => by omega))
 clear b9 aN fU ik aM
 go_wp2_with fail
 refine (R4 4 hB (by omega) (by omega) hl jD.out).mono ?_
 rintro e w3 ⟨rfl, b9, aN⟩
 obtain ⟨t, ht⟩ : ∃ x, nS (bs.drop 1) 4 = x := ⟨_, rfl⟩
 rw [ht]
 have vk := hid b9
 have zd := hid (mI.out.kept aN (by omega))
 have dt := hid (aY.out.next aN (fun i hi e => by omega))
 clear b9 aN jD mI aY
 go_wp2_with fail
 refine (R4 8 hB (by omega) (by omega) hl vk.out).mono ?_
 rintro e w4 ⟨rfl, b9, aN⟩
 obtain ⟨p, hp⟩ : ∃ x, nS ((bs.drop 1).drop 4) 8 = x := ⟨_, rfl⟩
 rw [hp]
 have kb := hid b9
 have wF := hid (zd.out.kept aN (by omega))
 have cu := hid (dt.out.next aN (fun i hi e => by omega))
 clear b9 aN vk zd dt
 obtain ⟨D, hD⟩ : ∃ D, XV bs = D := ⟨_, rfl⟩
 have nF := (show Hid (VG bs = if RJ D = 0 ∧ RD D = bs then (true, D) else (false, V6)) from by unfold Hid VG; rw [hD])
 have gw := (show Hid (∀ (y : StLogRecord) (wx : World), y.dat = D → OwnL wx y.rows → y.isB ∧ y.szs ≤ 1073741824) from fun y wx h1 h2 => jfb hB (h1.trans hD.symm) h2)
 unfold XV at hD
 rw [List.drop_drop, List.drop_drop] at kb
 simp only [Nat.reduceAdd] at kb
 obtain ⟨r, hr⟩ : ∃ r, bs.drop 13 = r := ⟨_, rfl⟩
 have kq := (show Hid (IsB r) from hr ▸ hB.drop 13)
 rw [hr] at kb hD
 clear hr
 have pN : nS (bs.drop 5) 8 = p := by rw [← hp, List.drop_drop]
 rw [hk, ht, pN] at hD
 clear hk ht hp pN
 have O1 := kb.out.lt
 have Hv := wF.out.lt
 have jC := (show Hid (DcI w (w4.alloc (.cells #[.int .i64 k, .int .i64 t, .int .i64 p, .int .i64 0, .int .i64 0, .bool false, .slice none 0 0, .bool false, .slice none 0 0, .int .i64 0, .int .i64 0, .slice none 0 0, .slice none 0 0, .slice none 0 0] 50)) v bs r 13 P w4.heap.size w.heap.size (TI k t p)) from ⟨kb.out.same (kZ0.alloc _), Blk.newL w4 (TI k t p).cells 50, wF.out.same (kZ0.alloc _), cu.out.alloc _, Yu _ _ _ _, fun b hb => (Xq hb).elim, cu.out.size, Nat.le_refl _, by omega, by omega, by omega⟩)
 clear kb wF cu
 go_upto_region 3 with fail
 generalize w4.alloc (.cells #[.int .i64 k, .int .i64 t, .int .i64 p, .int .i64 0, .int .i64 0, .bool false, .slice none 0 0, .bool false, .slice none 0 0, .int .i64 0, .int .i64 0, .slice none 0 0, .slice none 0 0, .slice none 0 0] 50) = w5 at jC ⊢
 generalize w4.heap.size = R at jC O1 Hv ⊢
 obtain ⟨Z, hZ⟩ : ∃ Z, w.heap.size = Z := ⟨_, rfl⟩
 rw [hZ] at hP Hv
 have iY := hid hZ
 have jC := (show Hid (DcI w w5 v bs r 13 P R Z (TI k t p)) from hZ ▸ jC.out)
 rw [hZ]
 clear hZ
 have cK : w5.cell? ⟨R, 0, none⟩ = some (.int .i64 k) := jC.out.box.c0
 go_upto_block 0 with fail
 clear cK
 go_cut [0] (fun uv wx => v = uv ∧ ∃ (y : StLogRecord) (rs : List Int) (ez : Nat), Hid (DcI w wx v bs rs ez P R Z y) ∧ Hid (y.dat = D))
 case first =>
  by_cases k1 : k = 1
  ·subst k1
   as_aux_lemma =>
    go_wp2_with fail
    try clear cc fb nW
    try clear c1 c2 fb nW
    refine (R4 2 hB (by omega) (by omega) hl jC.out.rs).mono ?_
    rintro e u6 ⟨rfl, b9, aN⟩
    have i1 := hid (jC.out.read b9 aN)
    obtain ⟨x6, od⟩ : ∃ x, nS (r) 2 = x := ⟨_, rfl⟩
    rw [od]
    have lp := hid (i1.out.num 3 (.int .i64 x6) ({ TI 1 t p with page := x6 }) rfl rfl)
    have cc := i1.out.box.cell 3
    have fb := i1.out.box.frozen
    dsimp only [StLogRecord.cells, TI] at cc
    clear b9 aN jC
    go_wp2_with fail
    try clear cc fb i1
    try clear c1 c2 fb i1
    refine (R4 2 hB (by omega) (by omega) hl lp.out.rs).mono ?_
    rintro e u7 ⟨rfl, b9, aN⟩
    have kk := hid (lp.out.read b9 aN)
    obtain ⟨x7, xS⟩ : ∃ x, nS (r.drop 2) 2 = x := ⟨_, rfl⟩
    rw [xS]
    have kN := hid (kk.out.num 4 (.int .i64 x7) ({ TI 1 t p with page := x6, slot := x7 }) rfl rfl)
    have cc := kk.out.box.cell 4
    have fb := kk.out.box.frozen
    dsimp only [StLogRecord.cells, TI] at cc
    clear b9 aN lp
    go_wp2_with fail
    try clear cc fb kk
    try clear c1 c2 fb kk
    refine (U5 hB (by omega) hl kN.out.rs).mono ?_
    rintro e u8 ⟨q8, rfl, zX, sY, m3, b9, aN⟩
    have mr := hid (kN.out.read b9 aN)
    have ll := hid (kN.out.slotB q8 _ (Nat.le_refl _) b9 aN m3 sY)
    have c1 := mr.out.box.cell 5
    have c2 := mr.out.box.cell 6
    have fb := mr.out.box.frozen
    dsimp only [StLogRecord.cells, TI] at c1 c2
    dsimp only [StPageRecord.val, BS.v]
    dsimp only [BS.v] at ll
    have nf := hid zX
    clear b9 aN sY m3 zX kN
    go_wp2_with fail
    try clear cc fb mr
    try clear c1 c2 fb mr
    refine (U5 hB (by omega) hl ll.out.rs).mono ?_
    rintro e u9 ⟨q9, rfl, EL, sY, m3, b9, aN⟩
    have qD := hid (ll.out.read b9 aN)
    have BG := hid (ll.out.slotA q9 _ (Nat.le_refl _) b9 aN m3 sY)
    have c1 := qD.out.box.cell 7
    have c2 := qD.out.box.cell 8
    have fb := qD.out.box.frozen
    dsimp only [StLogRecord.cells, TI] at c1 c2
    dsimp only [StPageRecord.val, BS.v]
    dsimp only [BS.v] at BG
    have dQ := hid EL
    clear b9 aN sY m3 EL ll
    have HT := (show Hid (StLogRecord.dat { TI 1 t p with page := x6, slot := x7, before := q8, after := q9 } = D) from by
     unfold Hid
     rw [← hD]
     unfold Ru
     rw [if_pos rfl, od, xS]
     have e1 := nf.out
     have e2 := dQ.out
     rw [List.drop_drop] at e1 e2
     unfold StLogRecord.dat
     dsimp only [TI]
     rw [e1, e2]
     rfl)
    go_wp2_with fail
    go_meet
    case rel => exact ⟨rfl, _, _, _, BG, HT⟩
  have e1 : (k == 1) = false := by simp [k1]
  by_cases k2 : k = 2
  ·subst k2
   as_aux_lemma =>
    go_wp2_with fail
    try clear cc fb nW
    try clear c1 c2 fb nW
    refine (R4 2 hB (by omega) (by omega) hl jC.out.rs).mono ?_
    rintro e u6 ⟨rfl, b9, aN⟩
    have i1 := hid (jC.out.read b9 aN)
    obtain ⟨x6, od⟩ : ∃ x, nS (r) 2 = x := ⟨_, rfl⟩
    rw [od]
    have lp := hid (i1.out.num 3 (.int .i64 x6) ({ TI 2 t p with page := x6 }) rfl rfl)
    have cc := i1.out.box.cell 3
    have fb := i1.out.box.frozen
    dsimp only [StLogRecord.cells, TI] at cc
    clear b9 aN jC
    go_wp2_with fail
    try clear cc fb i1
    try clear c1 c2 fb i1
    refine (R4 2 hB (by omega) (by omega) hl lp.out.rs).mono ?_
    rintro e u7 ⟨rfl, b9, aN⟩
    have kk := hid (lp.out.read b9 aN)
    obtain ⟨x7, xS⟩ : ∃ x, nS (r.drop 2) 2 = x := ⟨_, rfl⟩
    rw [xS]
    have kN := hid (kk.out.num 4 (.int .i64 x7) ({ TI 2 t p with page := x6, slot := x7 }) rfl rfl)
    have cc := kk.out.box.cell 4
    have fb := kk.out.box.frozen
    dsimp only [StLogRecord.cells, TI] at cc
    clear b9 aN lp
    go_wp2_with fail
    try clear cc fb kk
    try clear c1 c2 fb kk
    refine (U5 hB (by omega) hl kN.out.rs).mono ?_
    rintro e u8 ⟨q8, rfl, zX, sY, m3, b9, aN⟩
    have mr := hid (kN.out.read b9 aN)
    have ll := hid (kN.out.slotA q8 _ (Nat.le_refl _) b9 aN m3 sY)
    have c1 := mr.out.box.cell 7
    have c2 := mr.out.box.cell 8
    have fb := mr.out.box.frozen
    dsimp only [StLogRecord.cells, TI] at c1 c2
    dsimp only [StPageRecord.val, BS.v]
    dsimp only [BS.v] at ll
    have nf := hid zX
    clear b9 aN sY m3 zX kN
    go_wp2_with fail
    try clear cc fb mr
    try clear c1 c2 fb mr
    refine (R4 8 hB (by omega) (by omega) hl ll.out.rs).mono ?_
    rintro e u9 ⟨rfl, b9, aN⟩
    have qD := hid (ll.out.read b9 aN)
    obtain ⟨x9, Dq⟩ : ∃ x, nS ((Sz nS SX ((r.drop 2).drop 2)).2) 8 = x := ⟨_, rfl⟩
    rw [Dq]
    have BG := hid (qD.out.num 9 (.int .i64 x9) ({ TI 2 t p with page := x6, slot := x7, after := q8, uN := x9 }) rfl rfl)
    have cc := qD.out.box.cell 9
    have fb := qD.out.box.frozen
    dsimp only [StLogRecord.cells, TI] at cc
    clear b9 aN ll
    have HT := (show Hid (StLogRecord.dat { TI 2 t p with page := x6, slot := x7, after := q8, uN := x9 } = D) from by
     unfold Hid
     rw [← hD]
     unfold Ru
     rw [if_neg (by decide), if_pos rfl, od, xS]
     have e1 := nf.out
     rw [List.drop_drop] at e1 Dq
     rw [Dq]
     unfold StLogRecord.dat
     dsimp only [TI]
     rw [e1]
     rfl)
    go_wp2_with fail
    go_meet
    case rel => exact ⟨rfl, _, _, _, BG, HT⟩
  have e2 : (k == 2) = false := by simp [k2]
  by_cases k7 : k = 7
  ·subst k7
   as_aux_lemma =>
    go_wp2_with fail
    try clear cc fb nW
    try clear c1 c2 fb nW
    refine (R4 4 hB (by omega) (by omega) hl jC.out.rs).mono ?_
    rintro e u6 ⟨rfl, b9, aN⟩
    have i1 := hid (jC.out.read b9 aN)
    obtain ⟨x6, od⟩ : ∃ x, nS (r) 4 = x := ⟨_, rfl⟩
    rw [od]
    have lp := hid (i1.out.num 10 (.int .i64 x6) ({ TI 7 t p with nT := x6 }) rfl rfl)
    have cc := i1.out.box.cell 10
    have fb := i1.out.box.frozen
    dsimp only [StLogRecord.cells, TI] at cc
    clear b9 aN jC
    go_wp2_with fail
    clear cc fb i1
    refine (R4 1 hB (by omega) (by omega) hl lp.out.rs).mono ?_
    rintro e u7 ⟨rfl, b9, aN⟩
    have kN := hid (lp.out.read b9 aN)
    have tr := jao (kq.out.drop 4)
    obtain ⟨n, hn⟩ : ∃ n : Nat, nS (r.drop 4) 1 = n := ⟨(nS (r.drop 4) 1).toNat, by omega⟩
    rw [hn] at tr ⊢
    rw [List.drop_drop] at kN
    simp only [Nat.reduceAdd] at kN
    have HN := hid hn
    have jZ : n ≤ 255 := by omega
    clear b9 aN lp hn tr
    obtain ⟨i0, hi, eT, fM, tT⟩ := info_parts jd8
    obtain ⟨d0, di, NV, LA, Od⟩ := info_parts jcz
    go_wp2_with fail
    go_loopw [5] (fun iv wr => ∃ (j : Nat) (a : Option Addr) (c : Nat), j ≤ n ∧ iv = .int .i64 ((n - j : Nat) : Int) ∧ Hid (DcI w wr v bs ((r.drop 5).drop (21 * j)) (18 + 21 * j) P R Z { TI 7 t p with nT := x6, txns := ⟨96, a, j, c, txL nS (r.drop 5) j⟩ })) (fun iv _ => (intOf iv).toNat)
    case atStart => exact ⟨0, none, 0, Nat.zero_le _, rfl, kN⟩
    case round =>
     obtain ⟨j, a, c, hj, rfl, HI⟩ := hrel
     by_cases bH : j < n
     ·obtain ⟨f, hf⟩ : ∃ f : Nat, n - j = f + 1 := ⟨n - j - 1, by omega⟩
      have NG : (0 : Int) < ((f + 1 : Nat) : Int) := by omega
      rw [hf]
      go_wp2_with fail
      refine (R4 4 hB (by omega) (by omega) hl HI.out.rs).mono ?_
      rintro e v1 ⟨rfl, b9, aN⟩
      have jX := hid (HI.out.read b9 aN)
      obtain ⟨y1, gZ⟩ : ∃ x, nS ((r.drop 5).drop (21 * j)) 4 = x := ⟨_, rfl⟩
      rw [gZ]
      clear b9 aN HI
      go_wp2_with fail
      refine (R4 1 hB (by omega) (by omega) hl jX.out.rs).mono ?_
      rintro e v2 ⟨rfl, b9, aN⟩
      have iL := hid (jX.out.read b9 aN)
      obtain ⟨y2, wX⟩ : ∃ x, nS (((r.drop 5).drop (21 * j)).drop 4) 1 = x := ⟨_, rfl⟩
      rw [wX]
      clear b9 aN jX
      have qZ := (show Hid (Blk (v2.alloc (.cells #[.int .i64 y1, .int .i64 y2, .int .i64 0, .int .i64 0] 96)) v2.heap.size 96 [.int .i64 y1, .int .i64 y2, .int .i64 0, .int .i64 0]) from Blk.newL v2 [.int .i64 y1, .int .i64 y2, .int .i64 0, .int .i64 0] 96)
      have lh := (show Hid (DcI w (v2.alloc (.cells #[.int .i64 y1, .int .i64 y2, .int .i64 0, .int .i64 0] 96)) v bs _ _ P R Z _) from iL.out.same (kZ0.alloc _))
      have D9 := iL.out.rs.lt
      have DD := iL.out.box.lt
      have DK := iL.out.kept.size
      have FI := iL.out.res.lt
      have r9 := (show Hid (∀ b, Rf _ b → b < _) from fun b hb => iL.out.own.lt b hb)
      clear iL
      go_upto_region 20 with fail
      generalize v2.alloc (.cells #[.int .i64 y1, .int .i64 y2, .int .i64 0, .int .i64 0] 96) = v3 at qZ lh ⊢
      obtain ⟨X, hX⟩ : ∃ X, v2.heap.size = X := ⟨_, rfl⟩
      rw [hX] at qZ D9 DD DK FI r9 ⊢
      clear hX
      go_wp2_with fail
      refine (R4 8 hB (by omega) (by omega) hl lh.out.rs).mono ?_
      rintro e v4 ⟨rfl, b9, aN⟩
      have jP := hid (lh.out.read b9 aN)
      obtain ⟨y4, Kr⟩ : ∃ x, nS ((((r.drop 5).drop (21 * j)).drop 4).drop 1) 8 = x := ⟨_, rfl⟩
      rw [Kr]
      have uk := hid (qZ.out.kept aN (by omega))
      clear b9 aN lh qZ
      have gL : Kept (fun b => b = X) v4 (v4.setCell ⟨X, 2, none⟩ (.int .i64 y4)) := (Kept.refl (fun b => b = X) v4).setCell (p := ⟨X, 2, none⟩) (.inr rfl) _
      have GD := hid (jP.out.aside gL (by omega) (by omega) (by omega) (by omega) (fun b hb e => by have := r9.out b hb; omega))
      have sF := (show Hid (Blk (v4.setCell ⟨X, 2, none⟩ (.int .i64 y4)) X 96 [.int .i64 y1, .int .i64 y2, .int .i64 y4, .int .i64 0]) from uk.out.stored 2 _)
      have cc : v4.cell? ⟨X, 2, none⟩ = some (.int .i64 0) := uk.out.cell 2
      have fb := uk.out.frozen
      clear gL jP uk
      go_upto_region 21 with fail
      generalize v4.setCell ⟨X, 2, none⟩ (.int .i64 y4) = v5 at GD sF ⊢
      have ix := GD
      have Jt := sF
      clear GD sF cc fb
      go_wp2_with fail
      refine (R4 8 hB (by omega) (by omega) hl ix.out.rs).mono ?_
      rintro e v6 ⟨rfl, b9, aN⟩
      have IH := hid (ix.out.read b9 aN)
      obtain ⟨y6, Ie⟩ : ∃ x, nS (((((r.drop 5).drop (21 * j)).drop 4).drop 1).drop 8) 8 = x := ⟨_, rfl⟩
      rw [Ie]
      have Bd := hid (Jt.out.kept aN (by omega))
      clear b9 aN ix Jt
      have gL : Kept (fun b => b = X) v6 (v6.setCell ⟨X, 3, none⟩ (.int .i64 y6)) := (Kept.refl (fun b => b = X) v6).setCell (p := ⟨X, 3, none⟩) (.inr rfl) _
      have Dd := hid (IH.out.aside gL (by omega) (by omega) (by omega) (by omega) (fun b hb e => by have := r9.out b hb; omega))
      have GL := (show Hid (Blk (v6.setCell ⟨X, 3, none⟩ (.int .i64 y6)) X 96 [.int .i64 y1, .int .i64 y2, .int .i64 y4, .int .i64 y6]) from Bd.out.stored 3 _)
      have cc : v6.cell? ⟨X, 3, none⟩ = some (.int .i64 0) := Bd.out.cell 3
      have fb := Bd.out.frozen
      clear gL IH Bd
      go_upto_region 22 with fail
      generalize v6.setCell ⟨X, 3, none⟩ (.int .i64 y6) = v7 at Dd GL ⊢
      have rq := Dd
      have Hj := GL
      clear Dd GL cc fb
      have HA := (show Hid (Same v7 (v7.alloc (.cells #[.int .i64 y1, .int .i64 y2, .int .i64 y4, .int .i64 y6] 96))) from kZ0.alloc _)
      have HO := (show Hid ((v7.alloc (.cells #[.int .i64 y1, .int .i64 y2, .int .i64 y4, .int .i64 y6] 96)).ownsRow 0 96 4 (.slice a j c) j (vals .i64 (txL nS (r.drop 5) j))) from (rq.out.same HA.out).owntxns)
      have HN := (show Hid (Blk (v7.alloc (.cells #[.int .i64 y1, .int .i64 y2, .int .i64 y4, .int .i64 y6] 96)) v7.heap.size 96 [.int .i64 y1, .int .i64 y2, .int .i64 y4, .int .i64 y6]) from Blk.newL v7 [.int .i64 y1, .int .i64 y2, .int .i64 y4, .int .i64 y6] 96)
      have cc : v7.cell? ⟨R, 11, none⟩ = some (.slice a j c) := rq.out.box.cell 11
      have fb := rq.out.box.frozen
      have Iy := rq.out.box.lt
      have BE := Hj.out.lt
      obtain ⟨t0, t1, t2, t3⟩ := Hj.out.all4
      go_wp2_with (at_builtin; go_loud (refine wpList_append_lies _ rfl (.tmp 72) (.tmp 74) 47 rfl 0 96 i0 _ 4 32 Tryz.underlying47 hi eT fM tT rfl (by omega) (.slice a j c) j (vals .i64 (txL nS (r.drop 5) j)) rfl (by exact HO.out) ⟨v7.heap.size, 0, none⟩ 1 1 [.int .i64 y1, .int .i64 y2, .int .i64 y4, .int .i64 y6] rfl rfl (World.news_of_block (cs := #[.int .i64 y1, .int .i64 y2, .int .i64 y4, .int .i64 y6]) (t := 96) (fr := (0, 0)) (by exact HN.out)) (by simp [Value.oneCell']) (by omega) (by unfold maxLen; omega) (by omega) (Nat.zero_le _) (v7.heap.size + 1) (by simp) ?_); intro g5 ov w9 fp et je uF; have Ew := hid (rq.out.appT HA.out fp et je (by simp)); have ck := (Kept.of_grown et (fun k e => e) : Kept (fun k => (Value.slice a j c).ownBlock = some k) _ _); have Nq := ((rq.out.same HA.out).box.kept ck (rq.out.outtxns)).frozen; have Ng := ((rq.out.same HA.out).box.kept ck (rq.out.outtxns)).cell 11; clear ck fp et je)
      go_roundw
      case rel =>
       refine ⟨j + 1, some ⟨g5, 0, none⟩, ov, by omega, by congr 1; omega, hid (Ew.out.rest ?_ ?_ ?_)⟩
       ·simp only [List.drop_drop]; congr 1
       ·omega
       ·have e9 := jfc nS (r.drop 5) j gZ wX Kr Ie
        rw [jdf, e9]
      case measure => simp [intOf] <;> omega
     ·obtain rfl : n = j := by omega
      clear bH hj
      have nu : (0 : Int) < ((n - n : Nat) : Int) ↔ False := by simp
      go_wp2_with fail
      refine (R4 1 hB (by omega) (by omega) hl HI.out.rs).mono ?_
      rintro e u8 ⟨rfl, b9, aN⟩
      have ll := hid (HI.out.read b9 aN)
      have iZ := jao ((kq.out.drop 5).drop (21 * n))
      obtain ⟨m, hm⟩ : ∃ m : Nat, nS ((r.drop 5).drop (21 * n)) 1 = m := ⟨(nS ((r.drop 5).drop (21 * n)) 1).toNat, by omega⟩
      rw [hm] at iZ ⊢
      rw [List.drop_drop] at ll
      obtain ⟨rd, fw⟩ : ∃ rd, (r.drop 5).drop (21 * n + 1) = rd := ⟨_, rfl⟩
      rw [fw] at ll
      have HM := hid hm
      have vQ := hid fw
      have CP : m ≤ 255 := by omega
      obtain ⟨ta, s7⟩ : ∃ x, a = x := ⟨_, rfl⟩
      obtain ⟨tc, kn⟩ : ∃ x, c = x := ⟨_, rfl⟩
      rw [s7, kn] at ll
      obtain ⟨TL, yA⟩ : ∃ x, txL nS (r.drop 5) n = x := ⟨_, rfl⟩
      rw [yA] at ll
      have OO := hid yA
      clear b9 aN HI hm iZ fw s7 kn yA nu
      go_wp2_with fail
      go_loopw [7] (fun iv wr => ∃ (j : Nat) (a : Option Addr) (c : Nat), j ≤ m ∧ iv = .int .i64 ((m - j : Nat) : Int) ∧ Hid (DcI w wr v bs (rd.drop (10 * j)) (18 + 21 * n + 1 + 10 * j) P R Z { TI 7 t p with nT := x6, txns := ⟨96, ta, n, tc, TL⟩, dirty := ⟨98, a, j, c, dyL nS rd j⟩ })) (fun iv _ => (intOf iv).toNat)
      case atStart => exact ⟨0, none, 0, Nat.zero_le _, rfl, ll⟩
      case round =>
       obtain ⟨j, a, c, hj, rfl, HI⟩ := hrel
       by_cases bH : j < m
       ·obtain ⟨f, hf⟩ : ∃ f : Nat, m - j = f + 1 := ⟨m - j - 1, by omega⟩
        have NG : (0 : Int) < ((f + 1 : Nat) : Int) := by omega
        rw [hf]
        go_wp2_with fail
        refine (R4 2 hB (by omega) (by omega) hl HI.out.rs).mono ?_
        rintro e v1 ⟨rfl, b9, aN⟩
        have jX := hid (HI.out.read b9 aN)
        obtain ⟨y1, gZ⟩ : ∃ x, nS (rd.drop (10 * j)) 2 = x := ⟨_, rfl⟩
        rw [gZ]
        clear b9 aN HI
        have Bf := (show Hid (Blk (v1.alloc (.cells #[.int .i64 y1, .int .i64 0] 98)) v1.heap.size 98 [.int .i64 y1, .int .i64 0]) from Blk.newL v1 [.int .i64 y1, .int .i64 0] 98)
        have iL := (show Hid (DcI w (v1.alloc (.cells #[.int .i64 y1, .int .i64 0] 98)) v bs _ _ P R Z _) from jX.out.same (kZ0.alloc _))
        have D9 := jX.out.rs.lt
        have DD := jX.out.box.lt
        have DK := jX.out.kept.size
        have FI := jX.out.res.lt
        have r9 := (show Hid (∀ b, Rf _ b → b < _) from fun b hb => jX.out.own.lt b hb)
        clear jX
        go_upto_region 27 with fail
        generalize v1.alloc (.cells #[.int .i64 y1, .int .i64 0] 98) = v2 at Bf iL ⊢
        obtain ⟨X, hX⟩ : ∃ X, v1.heap.size = X := ⟨_, rfl⟩
        rw [hX] at Bf D9 DD DK FI r9 ⊢
        clear hX
        go_wp2_with fail
        refine (R4 8 hB (by omega) (by omega) hl iL.out.rs).mono ?_
        rintro e v3 ⟨rfl, b9, aN⟩
        have lh := hid (iL.out.read b9 aN)
        obtain ⟨y3, wW⟩ : ∃ x, nS ((rd.drop (10 * j)).drop 2) 8 = x := ⟨_, rfl⟩
        rw [wW]
        have qZ := hid (Bf.out.kept aN (by omega))
        clear b9 aN iL Bf
        have gL : Kept (fun b => b = X) v3 (v3.setCell ⟨X, 1, none⟩ (.int .i64 y3)) := (Kept.refl (fun b => b = X) v3).setCell (p := ⟨X, 1, none⟩) (.inr rfl) _
        have xK := hid (lh.out.aside gL (by omega) (by omega) (by omega) (by omega) (fun b hb e => by have := r9.out b hb; omega))
        have sZ := (show Hid (Blk (v3.setCell ⟨X, 1, none⟩ (.int .i64 y3)) X 98 [.int .i64 y1, .int .i64 y3]) from qZ.out.stored 1 _)
        have cc : v3.cell? ⟨X, 1, none⟩ = some (.int .i64 0) := qZ.out.cell 1
        have fb := qZ.out.frozen
        clear gL lh qZ
        go_upto_region 28 with fail
        generalize v3.setCell ⟨X, 1, none⟩ (.int .i64 y3) = v4 at xK sZ ⊢
        have jP := xK
        have uk := sZ
        clear xK sZ cc fb
        have HA := (show Hid (Same v4 (v4.alloc (.cells #[.int .i64 y1, .int .i64 y3] 98))) from kZ0.alloc _)
        have HO := (show Hid ((v4.alloc (.cells #[.int .i64 y1, .int .i64 y3] 98)).ownsRow 0 98 2 (.slice a j c) j (vals .i64 (dyL nS rd j))) from (jP.out.same HA.out).owndirty)
        have HN := (show Hid (Blk (v4.alloc (.cells #[.int .i64 y1, .int .i64 y3] 98)) v4.heap.size 98 [.int .i64 y1, .int .i64 y3]) from Blk.newL v4 [.int .i64 y1, .int .i64 y3] 98)
        have cc : v4.cell? ⟨R, 12, none⟩ = some (.slice a j c) := jP.out.box.cell 12
        have fb := jP.out.box.frozen
        have Iy := jP.out.box.lt
        have BE := uk.out.lt
        obtain ⟨t0, t1⟩ := uk.out.all2
        go_wp2_with (at_builtin; go_loud (refine wpList_append_lies _ rfl (.tmp 90) (.tmp 92) 48 rfl 0 98 d0 _ 2 16 Tryz.underlying48 di NV LA Od rfl (by omega) (.slice a j c) j (vals .i64 (dyL nS rd j)) rfl (by exact HO.out) ⟨v4.heap.size, 0, none⟩ 1 1 [.int .i64 y1, .int .i64 y3] rfl rfl (World.news_of_block (cs := #[.int .i64 y1, .int .i64 y3]) (t := 98) (fr := (0, 0)) (by exact HN.out)) (by simp [Value.oneCell']) (by omega) (by unfold maxLen; omega) (by omega) (Nat.zero_le _) (v4.heap.size + 1) (by simp) ?_); intro g5 ov w9 fp et je uF; have Ew := hid (jP.out.appD HA.out fp et je (by simp)); have ck := (Kept.of_grown et (fun k e => e) : Kept (fun k => (Value.slice a j c).ownBlock = some k) _ _); have Nq := ((jP.out.same HA.out).box.kept ck (jP.out.outdirty)).frozen; have Ng := ((jP.out.same HA.out).box.kept ck (jP.out.outdirty)).cell 12; clear ck fp et je)
        go_roundw
        case rel =>
         refine ⟨j + 1, some ⟨g5, 0, none⟩, ov, by omega, by congr 1; omega, hid (Ew.out.rest ?_ ?_ ?_)⟩
         ·simp only [List.drop_drop]; congr 1
         ·omega
         ·have e9 := jfd nS rd j gZ wW
          rw [jdg, e9]
        case measure => simp [intOf] <;> omega
       ·obtain rfl : m = j := by omega
        clear bH hj
        have nu : (0 : Int) < ((m - m : Nat) : Int) ↔ False := by simp
        have HT := (show Hid (StLogRecord.dat { TI 7 t p with nT := x6, txns := ⟨96, ta, n, tc, TL⟩, dirty := ⟨98, a, m, c, dyL nS rd m⟩ } = D) from by
         unfold Hid
         rw [← hD]
         unfold Ru
         rw [if_neg (by decide), if_neg (by decide), if_pos rfl, od, HN.out, Int.toNat_natCast, HM.out, Int.toNat_natCast, OO.out, vQ.out]
         rfl)
        go_wp2_with fail
        go_meet
        case rel => exact ⟨rfl, _, _, _, HI, HT⟩
  have e7 : (k == 7) = false := by simp [k7]
  by_cases k8 : k = 8
  ·subst k8
   as_aux_lemma =>
    go_wp2_with fail
    try clear cc fb nW
    try clear c1 c2 fb nW
    refine (R4 2 hB (by omega) (by omega) hl jC.out.rs).mono ?_
    rintro e u6 ⟨rfl, b9, aN⟩
    have i1 := hid (jC.out.read b9 aN)
    obtain ⟨x6, od⟩ : ∃ x, nS (r) 2 = x := ⟨_, rfl⟩
    rw [od]
    have lp := hid (i1.out.num 3 (.int .i64 x6) ({ TI 8 t p with page := x6 }) rfl rfl)
    have cc := i1.out.box.cell 3
    have fb := i1.out.box.frozen
    dsimp only [StLogRecord.cells, TI] at cc
    clear b9 aN jC
    go_wp2_with fail
    clear cc fb i1
    refine (ZM 4096 (by omega) (by omega) hl lp.out.rs).mono ?_
    rintro e u7 ⟨g, rfl, hg, ho, b9, aN⟩
    have dh : (SX (r.drop 2) 4096).length = 4096 := by simp only [SX, List.length_append, List.length_take, List.length_replicate]; omega
    obtain ⟨im, qk⟩ : ∃ x, SX (r.drop 2) 4096 = x := ⟨_, rfl⟩
    rw [qk] at ho dh
    have HO := (show Hid (OwnL u7 (BS.rows ⟨5, some ⟨g, 0, none⟩, 4096, im⟩)) from OwnL.one (by unfold BS.v; rw [dh]; exact ho))
    have kk := hid (lp.out.read b9 aN)
    have kN := hid (lp.out.img ⟨5, some ⟨g, 0, none⟩, 4096, im⟩ b9 aN HO.out (fun b hb => by have h := (RF _ _ _ _ _).1 hb; have h7 : g = b := Option.some.inj h; omega))
    unfold BS.v at kN
    rw [dh] at kN
    have cc := kk.out.box.cell 13
    have fb := kk.out.box.frozen
    dsimp only [StLogRecord.cells, TI] at cc
    have HT := (show Hid (StLogRecord.dat { TI 8 t p with page := x6, image := ⟨5, some ⟨g, 0, none⟩, 4096, im⟩ } = D) from by
     unfold Hid
     rw [← hD]
     unfold Ru
     rw [if_neg (by decide), if_neg (by decide), if_neg (by decide), if_pos rfl, od, qk]
     rfl)
    clear b9 aN ho dh lp HO
    go_wp2_with fail
    go_meet
    case rel => exact ⟨rfl, _, _, _, kN, HT⟩
  have e8 : (k == 8) = false := by simp [k8]
  have HT := (show Hid (StLogRecord.dat (TI k t p) = D) from by
   unfold Hid
   rw [← hD]
   unfold Ru
   rw [if_neg k1, if_neg k2, if_neg k7, if_neg k8]
   rfl)
  go_wp2_with fail
  go_meet
  case rel => exact ⟨rfl, _, _, _, jC, HT⟩
 case rest =>
  obtain ⟨hu, y, rs, ez, HD, HY⟩ := hcut
  subst hu
  obtain ⟨Ba, CS⟩ := gw.out y _ HY.out HD.out.own
  have m2 := (show Hid (VG bs = if RJ y.dat = 0 ∧ RD y.dat = bs then (true, y.dat) else (false, V6)) from by unfold Hid; rw [nF.out, HY.out])
  have HF := hid (SA y wc Ba CS (StLogRecord.own_rd HD.out.own))
  have HG := (show Hid (∀ wz, Same wc wz → _) from fun wz (h : Same wc wz) => ja2 y wz Ba CS ((StLogRecord.own_rd HD.out.own).same h))
  have HW := (show Hid (RJ y.dat = 0 → IsB (RD y.dat)) from fun h => ZG Ba h)
  have uy := (show Hid (Blk wc R 50 y.cells) from HD.out.box)
  have vr := (show Hid (Blk wc Z 79 zCells) from HD.out.res)
  obtain ⟨F, hF⟩ : ∃ F, RJ y.dat = F := ⟨_, rfl⟩
  have Ea := (show Hid (V5 y.dat = if F = 0 then RD y.dat else []) from by unfold Hid; by_cases h : F = 0; rw [if_pos h, Yn (hF.trans h)]; rw [if_neg h, ZF (by rw [hF]; exact h)])
  have M5 := (show Hid (∀ wz, Same wc wz → Rd .u8 wz v bs) from fun wz h => HD.out.rs.rd wz (h.mono (fun _ _ e => e.elim)))
  rw [hF] at HF m2 HW
  have f0 := HF.out
  have Pn := hid hF
  clear HF hF Ba CS gw nF hD
  dsimp only [StLogRecord.val, StPageRecord.val, BS.v, FR.v] at f0
  obtain ⟨q0, q1, q2, q3, q4, q5, q6, q7, q8, q9, yX, zC, zg, zB⟩ := (show Blk wc R 50 [.int .i64 y.kind, .int .i64 y.txn, .int .i64 y.prev, .int .i64 y.page, .int .i64 y.slot, .bool y.before.used, .slice y.before.data.a y.before.data.bs.length y.before.data.c, .bool y.after.used, .slice y.after.data.a y.after.data.bs.length y.after.data.c, .int .i64 y.uN, .int .i64 y.nT, .slice y.txns.a y.txns.n y.txns.c, .slice y.dirty.a y.dirty.n y.dirty.c, .slice y.image.a y.image.bs.length y.image.c] from uy.out).all14
  have Iy := uy.out.lt
  have Ky := vr.out.lt
  go_wp2_with fail
  refine f0.mono ?_
  rintro e w6 ⟨rfl, fN⟩
  have eh := (show Hid (Same wc w6) from fN)
  clear fN f0 q0 q1 q2 q3 q4 q5 q6 q7 q8 q9 yX zC zg zB
  have QG : w.heap.size ≤ Z := HD.out.pl.2.1
  by_cases hz : F = 0
  ·subst hz
   have JW := (show Hid (V5 y.dat = RD y.dat) from by have h := Ea.out; rw [if_pos rfl] at h; exact h)
   have g0 := HG.out w6 eh.out
   rw [JW.out] at g0
   have Dv := (show Hid (Blk w6 R 50 [.int .i64 y.kind, .int .i64 y.txn, .int .i64 y.prev, .int .i64 y.page, .int .i64 y.slot, .bool y.before.used, .slice y.before.data.a y.before.data.bs.length y.before.data.c, .bool y.after.used, .slice y.after.data.a y.after.data.bs.length y.after.data.c, .int .i64 y.uN, .int .i64 y.nT, .slice y.txns.a y.txns.n y.txns.c, .slice y.dirty.a y.dirty.n y.dirty.c, .slice y.image.a y.image.bs.length y.image.c]) from uy.out.same eh.out)
   obtain ⟨q0, q1, q2, q3, q4, q5, q6, q7, q8, q9, yX, zC, zg, zB⟩ := Dv.out.all14
   have QL := Dv.out.lt
   dsimp only [StLogRecord.val, StPageRecord.val, BS.v, FR.v] at g0
   obtain ⟨eb, wo⟩ : ∃ x, RD y.dat = x := ⟨_, rfl⟩
   rw [wo] at g0 HW m2
   have wh := (show Hid (IsB eb) from HW.out rfl)
   have yV := (show Hid (VG bs = if eb = bs then (true, y.dat) else (false, V6)) from by have h := m2.out; simp only [true_and] at h; exact h)
   clear HW m2
   have Pw := hid wo
   clear wo HG Ea JW
   go_wp2_with fail
   refine g0.mono ?_
   rintro e w7 ⟨a7, c7, rfl, L3, JC, gq⟩
   have dd := hid (eh.out.trans gq)
   have lu := hid JC
   generalize Value.slice a7 eb.length c7 = V7 at lu ⊢
   clear g0 L3 JC gq q0 q1 q2 q3 q4 q5 q6 q7 q8 q9 yX zC zg zB
   go_wp2_with fail
   refine (jbL _ _ eb bs _ wh.out hB lu.out.rd (M5.out _ dd.out)).mono ?_
   rintro e w8 ⟨rfl, gp⟩
   have gx := hid (dd.out.trans gp)
   clear gp
   by_cases he : eb = bs
   ·have hd : decide (eb = bs) = true := decide_eq_true he
    rw [hd]
    have GQ := (show Hid (Blk w8 R 50 [.int .i64 y.kind, .int .i64 y.txn, .int .i64 y.prev, .int .i64 y.page, .int .i64 y.slot, .bool y.before.used, .slice y.before.data.a y.before.data.bs.length y.before.data.c, .bool y.after.used, .slice y.after.data.a y.after.data.bs.length y.after.data.c, .int .i64 y.uN, .int .i64 y.nT, .slice y.txns.a y.txns.n y.txns.c, .slice y.dirty.a y.dirty.n y.dirty.c, .slice y.image.a y.image.bs.length y.image.c]) from uy.out.same gx.out)
    obtain ⟨q0, q1, q2, q3, q4, q5, q6, q7, q8, q9, yX, zC, zg, zB⟩ := GQ.out.all14
    have Pp := GQ.out.lt
    have BZ := (show Blk w8 Z 79 [.bool false, .int .i64 0, .int .i64 0, .int .i64 0, .int .i64 0, .int .i64 0, .bool false, .slice none 0 0, .bool false, .slice none 0 0, .int .i64 0, .int .i64 0, .slice none 0 0, .slice none 0 0, .slice none 0 0] from vr.out.same gx.out)
    have fz := BZ.frozen
    have ru := BZ.lt
    have z0 := BZ.cell 0
    have z1 := BZ.cell 1
    have z2 := BZ.cell 2
    have z3 := BZ.cell 3
    have z4 := BZ.cell 4
    have z5 := BZ.cell 5
    have z6 := BZ.cell 6
    have z7 := BZ.cell 7
    have z8 := BZ.cell 8
    have z9 := BZ.cell 9
    have ip := BZ.cell 10
    have iw := BZ.cell 11
    have ir := BZ.cell 12
    have gY := BZ.cell 13
    have iU := BZ.cell 14
    simp only [List.getElem?_cons_zero, List.getElem?_cons_succ] at z0 z1 z2 z3 z4 z5 z6 z7 z8 z9 ip iw ir gY iU
    have qt := hid BZ
    clear BZ
    have dQ := (show Hid (Kept (fun b => b = Z) w8 (((((((((((((((w8.setCell ⟨Z, 0, none⟩ (.bool true)).setCell ⟨Z, 1, none⟩ (.int .i64 y.kind)).setCell ⟨Z, 2, none⟩ (.int .i64 y.txn)).setCell ⟨Z, 3, none⟩ (.int .i64 y.prev)).setCell ⟨Z, 4, none⟩ (.int .i64 y.page)).setCell ⟨Z, 5, none⟩ (.int .i64 y.slot)).setCell ⟨Z, 6, none⟩ (.bool y.before.used)).setCell ⟨Z, 7, none⟩ (.slice y.before.data.a y.before.data.bs.length y.before.data.c)).setCell ⟨Z, 8, none⟩ (.bool y.after.used)).setCell ⟨Z, 9, none⟩ (.slice y.after.data.a y.after.data.bs.length y.after.data.c)).setCell ⟨Z, 10, none⟩ (.int .i64 y.uN)).setCell ⟨Z, 11, none⟩ (.int .i64 y.nT)).setCell ⟨Z, 12, none⟩ (.slice y.txns.a y.txns.n y.txns.c)).setCell ⟨Z, 13, none⟩ (.slice y.dirty.a y.dirty.n y.dirty.c)).setCell ⟨Z, 14, none⟩ (.slice y.image.a y.image.bs.length y.image.c))) from (((((((((((((((Kept.refl (fun b => b = Z) w8).setCell (p := ⟨Z, 0, none⟩) (.inr rfl) _).setCell (p := ⟨Z, 1, none⟩) (.inr rfl) _).setCell (p := ⟨Z, 2, none⟩) (.inr rfl) _).setCell (p := ⟨Z, 3, none⟩) (.inr rfl) _).setCell (p := ⟨Z, 4, none⟩) (.inr rfl) _).setCell (p := ⟨Z, 5, none⟩) (.inr rfl) _).setCell (p := ⟨Z, 6, none⟩) (.inr rfl) _).setCell (p := ⟨Z, 7, none⟩) (.inr rfl) _).setCell (p := ⟨Z, 8, none⟩) (.inr rfl) _).setCell (p := ⟨Z, 9, none⟩) (.inr rfl) _).setCell (p := ⟨Z, 10, none⟩) (.inr rfl) _).setCell (p := ⟨Z, 11, none⟩) (.inr rfl) _).setCell (p := ⟨Z, 12, none⟩) (.inr rfl) _).setCell (p := ⟨Z, 13, none⟩) (.inr rfl) _).setCell (p := ⟨Z, 14, none⟩) (.inr rfl) _)
    have Ee := hid ((HD.out.own.same gx.out).kept dQ.out (fun b hb e => (HD.out.foot b hb).2.2.2 e))
    have vP := hid he
    clear qt vr uy GQ Dv he hd
    go_wp2
    refine bodyPost_ret (v := .agg #[.bool true, .int .i64 y.kind, .int .i64 y.txn, .int .i64 y.prev, .int .i64 y.page, .int .i64 y.slot, .bool y.before.used, .slice y.before.data.a y.before.data.bs.length y.before.data.c, .bool y.after.used, .slice y.after.data.a y.after.data.bs.length y.after.data.c, .int .i64 y.uN, .int .i64 y.nT, .slice y.txns.a y.txns.n y.txns.c, .slice y.dirty.a y.dirty.n y.dirty.c, .slice y.image.a y.image.bs.length y.image.c]) (by simp [results, Tryz.results41, go_sem, z0, z1, z2, z3, z4, z5, z6, z7, z8, z9, ip, iw, ir, gY, iU]) rfl ⟨⟨true, y⟩, rfl, ?_, fun b hb => (HD.out.foot b hb).1, Ee.out, ?_⟩
    ·rw [yV.out, if_pos vP.out]; rfl
    ·exact (HD.out.kept.trans gx.out).next dQ.out (fun i hi e => by omega)
   ·have hd : decide (eb = bs) = false := decide_eq_false he
    rw [hd]
    have vP := hid he
    clear he hd
    have BZ := (show Blk w8 Z 79 [.bool false, .int .i64 0, .int .i64 0, .int .i64 0, .int .i64 0, .int .i64 0, .bool false, .slice none 0 0, .bool false, .slice none 0 0, .int .i64 0, .int .i64 0, .slice none 0 0, .slice none 0 0, .slice none 0 0] from vr.out.same gx.out)
    have fz := BZ.frozen
    have ru := BZ.lt
    have z0 := BZ.cell 0
    have z1 := BZ.cell 1
    have z2 := BZ.cell 2
    have z3 := BZ.cell 3
    have z4 := BZ.cell 4
    have z5 := BZ.cell 5
    have z6 := BZ.cell 6
    have z7 := BZ.cell 7
    have z8 := BZ.cell 8
    have z9 := BZ.cell 9
    have ip := BZ.cell 10
    have iw := BZ.cell 11
    have ir := BZ.cell 12
    have gY := BZ.cell 13
    have iU := BZ.cell 14
    simp only [List.getElem?_cons_zero, List.getElem?_cons_succ] at z0 z1 z2 z3 z4 z5 z6 z7 z8 z9 ip iw ir gY iU
    have qt := hid BZ
    clear BZ
    have dQ := (show Hid (Kept (fun b => b = Z) w8 (((((((((((((((w8.setCell ⟨Z, 0, none⟩ (.bool false)).setCell ⟨Z, 1, none⟩ (.int .i64 0)).setCell ⟨Z, 2, none⟩ (.int .i64 0)).setCell ⟨Z, 3, none⟩ (.int .i64 0)).setCell ⟨Z, 4, none⟩ (.int .i64 0)).setCell ⟨Z, 5, none⟩ (.int .i64 0)).setCell ⟨Z, 6, none⟩ (.bool false)).setCell ⟨Z, 7, none⟩ (.slice none 0 0)).setCell ⟨Z, 8, none⟩ (.bool false)).setCell ⟨Z, 9, none⟩ (.slice none 0 0)).setCell ⟨Z, 10, none⟩ (.int .i64 0)).setCell ⟨Z, 11, none⟩ (.int .i64 0)).setCell ⟨Z, 12, none⟩ (.slice none 0 0)).setCell ⟨Z, 13, none⟩ (.slice none 0 0)).setCell ⟨Z, 14, none⟩ (.slice none 0 0))) from (((((((((((((((Kept.refl (fun b => b = Z) w8).setCell (p := ⟨Z, 0, none⟩) (.inr rfl) _).setCell (p := ⟨Z, 1, none⟩) (.inr rfl) _).setCell (p := ⟨Z, 2, none⟩) (.inr rfl) _).setCell (p := ⟨Z, 3, none⟩) (.inr rfl) _).setCell (p := ⟨Z, 4, none⟩) (.inr rfl) _).setCell (p := ⟨Z, 5, none⟩) (.inr rfl) _).setCell (p := ⟨Z, 6, none⟩) (.inr rfl) _).setCell (p := ⟨Z, 7, none⟩) (.inr rfl) _).setCell (p := ⟨Z, 8, none⟩) (.inr rfl) _).setCell (p := ⟨Z, 9, none⟩) (.inr rfl) _).setCell (p := ⟨Z, 10, none⟩) (.inr rfl) _).setCell (p := ⟨Z, 11, none⟩) (.inr rfl) _).setCell (p := ⟨Z, 12, none⟩) (.inr rfl) _).setCell (p := ⟨Z, 13, none⟩) (.inr rfl) _).setCell (p := ⟨Z, 14, none⟩) (.inr rfl) _)
    clear qt vr uy
    go_wp2
    refine bodyPost_ret (v := .agg #[.bool false, .int .i64 0, .int .i64 0, .int .i64 0, .int .i64 0, .int .i64 0, .bool false, .slice none 0 0, .bool false, .slice none 0 0, .int .i64 0, .int .i64 0, .slice none 0 0, .slice none 0 0, .slice none 0 0]) (by simp [results, Tryz.results41, go_sem, z0, z1, z2, z3, z4, z5, z6, z7, z8, z9, ip, iw, ir, gY, iU]) rfl ⟨⟨false, TI 0 0 0⟩, rfl, ?_, fun b hb => (Xq hb).elim, Yu 0 0 0 _, ?_⟩
    ·rw [yV.out, if_neg (by exact vP.out)]; rfl
    ·first
     | exact (HD.out.kept.trans gx.out).next dQ.out (fun i hi e => by omega)
     | exact HD.out.kept.trans gx.out
  ·have FO : (F != 0) = true := bne_iff_ne.2 hz
   have xG := hid hz
   clear hz HG Ea HW
   have BZ := (show Blk w6 Z 79 [.bool false, .int .i64 0, .int .i64 0, .int .i64 0, .int .i64 0, .int .i64 0, .bool false, .slice none 0 0, .bool false, .slice none 0 0, .int .i64 0, .int .i64 0, .slice none 0 0, .slice none 0 0, .slice none 0 0] from vr.out.same eh.out)
   have fz := BZ.frozen
   have ru := BZ.lt
   have z0 := BZ.cell 0
   have z1 := BZ.cell 1
   have z2 := BZ.cell 2
   have z3 := BZ.cell 3
   have z4 := BZ.cell 4
   have z5 := BZ.cell 5
   have z6 := BZ.cell 6
   have z7 := BZ.cell 7
   have z8 := BZ.cell 8
   have z9 := BZ.cell 9
   have ip := BZ.cell 10
   have iw := BZ.cell 11
   have ir := BZ.cell 12
   have gY := BZ.cell 13
   have iU := BZ.cell 14
   simp only [List.getElem?_cons_zero, List.getElem?_cons_succ] at z0 z1 z2 z3 z4 z5 z6 z7 z8 z9 ip iw ir gY iU
   have qt := hid BZ
   clear BZ
   have dQ := (show Hid (Kept (fun b => b = Z) w6 (((((((((((((((w6.setCell ⟨Z, 0, none⟩ (.bool false)).setCell ⟨Z, 1, none⟩ (.int .i64 0)).setCell ⟨Z, 2, none⟩ (.int .i64 0)).setCell ⟨Z, 3, none⟩ (.int .i64 0)).setCell ⟨Z, 4, none⟩ (.int .i64 0)).setCell ⟨Z, 5, none⟩ (.int .i64 0)).setCell ⟨Z, 6, none⟩ (.bool false)).setCell ⟨Z, 7, none⟩ (.slice none 0 0)).setCell ⟨Z, 8, none⟩ (.bool false)).setCell ⟨Z, 9, none⟩ (.slice none 0 0)).setCell ⟨Z, 10, none⟩ (.int .i64 0)).setCell ⟨Z, 11, none⟩ (.int .i64 0)).setCell ⟨Z, 12, none⟩ (.slice none 0 0)).setCell ⟨Z, 13, none⟩ (.slice none 0 0)).setCell ⟨Z, 14, none⟩ (.slice none 0 0))) from (((((((((((((((Kept.refl (fun b => b = Z) w6).setCell (p := ⟨Z, 0, none⟩) (.inr rfl) _).setCell (p := ⟨Z, 1, none⟩) (.inr rfl) _).setCell (p := ⟨Z, 2, none⟩) (.inr rfl) _).setCell (p := ⟨Z, 3, none⟩) (.inr rfl) _).setCell (p := ⟨Z, 4, none⟩) (.inr rfl) _).setCell (p := ⟨Z, 5, none⟩) (.inr rfl) _).setCell (p := ⟨Z, 6, none⟩) (.inr rfl) _).setCell (p := ⟨Z, 7, none⟩) (.inr rfl) _).setCell (p := ⟨Z, 8, none⟩) (.inr rfl) _).setCell (p := ⟨Z, 9, none⟩) (.inr rfl) _).setCell (p := ⟨Z, 10, none⟩) (.inr rfl) _).setCell (p := ⟨Z, 11, none⟩) (.inr rfl) _).setCell (p := ⟨Z, 12, none⟩) (.inr rfl) _).setCell (p := ⟨Z, 13, none⟩) (.inr rfl) _).setCell (p := ⟨Z, 14, none⟩) (.inr rfl) _)
   clear qt vr uy
   go_wp2
   refine bodyPost_ret (v := .agg #[.bool false, .int .i64 0, .int .i64 0, .int .i64 0, .int .i64 0, .int .i64 0, .bool false, .slice none 0 0, .bool false, .slice none 0 0, .int .i64 0, .int .i64 0, .slice none 0 0, .slice none 0 0, .slice none 0 0]) (by simp [results, Tryz.results41, go_sem, z0, z1, z2, z3, z4, z5, z6, z7, z8, z9, ip, iw, ir, gY, iU]) rfl ⟨⟨false, TI 0 0 0⟩, rfl, ?_, fun b hb => (Xq hb).elim, Yu 0 0 0 _, ?_⟩
   ·rw [m2.out, if_neg (by rintro ⟨h, _⟩; exact xG.out h)]; rfl
   ·first
    | exact (HD.out.kept.trans eh.out).next dQ.out (fun i hi e => by omega)
    | exact HD.out.kept.trans eh.out
end Go.Proofs.YtaojjcnmififoaaGreat
