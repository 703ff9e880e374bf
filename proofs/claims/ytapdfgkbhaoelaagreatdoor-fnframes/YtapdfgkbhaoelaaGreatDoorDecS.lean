import Derived.Test.YtapdfgkbhaoelaaGreatDoorDecI
import Derived.Deep.CutBlock
namespace Go.Proofs.YtapdfgkbhaoelaaGreatDoor
set_option maxRecDepth 100000
set_option maxHeartbeats 8000000
set_option linter.unusedVariables false
set_option linter.unusedSimpArgs false
open Go.RowKit
theorem jeh {y : StLogRecord} {wx : World} {bs : List Int} (hB : IsB bs) (hd : y.dat = VS bs) (ho : OwnL wx y.rows) : y.isB ∧ y.szs ≤ 1073741824 := by
 obtain ⟨h1, h2, h3, h4⟩ := Vy (k := nS bs 1) (t := nS (bs.drop 1) 4) (p := nS (bs.drop 5) 8) (hB.drop 13);have l1 := FR.own_len ho.right.right.left;have l2 := FR.own_len ho.right.right.right.left
 change y.dat = Pt nS QL (nS bs 1) (nS (bs.drop 1) 4) (nS (bs.drop 5) 8) (bs.drop 13) at hd
 rw [← hd] at h1 h2 h3 h4;refine ⟨⟨h1, h2, h3⟩, ?_⟩;simp only [UQ, StLogRecord.dat, StPageRecord.dat] at h4;unfold StLogRecord.szs StPageRecord.szs;omega
theorem jdq : (Tryz.prog.info? 79).map (fun i => (i.zero, i.size, i.bytes)) = some (some (.agg #[Q1 0, Q1 0, Q1 0, Q1 0]), 4, 32) := by kernel_rfl
theorem jbk : (Tryz.prog.info? 81).map (fun i => (i.zero, i.size, i.bytes)) = some (some (.agg #[Q1 0, Q1 0]), 2, 16) := by kernel_rfl
theorem jcc (num : List Int → Nat → Int) (r : List Int) (j : Nat) : txL num r (j + 1) = txL num r j ++ txE num r j := by unfold txL; rw [List.range_succ, List.flatMap_append]; simp
theorem jcd (num : List Int → Nat → Int) (r : List Int) (j : Nat) : dyL num r (j + 1) = dyL num r j ++ dyE num r j := by unfold dyL; rw [List.range_succ, List.flatMap_append]; simp
theorem jei (num : List Int → Nat → Int) (r : List Int) (j : Nat) {a b c d : Int} (h0 : num (r.drop (21 * j)) 4 = a) (h1 : num ((r.drop (21 * j)).drop 4) 1 = b) (h2 : num (((r.drop (21 * j)).drop 4).drop 1) 8 = c) (h3 : num ((((r.drop (21 * j)).drop 4).drop 1).drop 8) 8 = d) : txE num r j = [a, b, c, d] := by
 simp only [List.drop_drop] at h0 h1 h2 h3;unfold txE;rw [h0, h1, h2, h3]
theorem jej (num : List Int → Nat → Int) (r : List Int) (j : Nat) {a b : Int} (h0 : num (r.drop (10 * j)) 2 = a) (h1 : num ((r.drop (10 * j)).drop 2) 8 = b) : dyE num r j = [a, b] := by
 simp only [List.drop_drop] at h0 h1;unfold dyE;rw [h0, h1]
theorem Za (v : Value) (bs : List Int) (w : World) (hB : IsB bs) (hl : bs.length ≤ 1099511627776) (hv : Rd .u8 w v bs) : Calls Tryz.prog 11 #[v] w fun e w' => ∃ y : StRecordResult, e = .returned y.val ∧ y.dat = QU bs ∧ (∀ b, O6 y.rows b → w.heap.size ≤ b) ∧ OwnL w' y.rows ∧ Same w w' := by
 obtain ⟨va, vc, rfl⟩ := hv.form;have aW : Same w (w.alloc (.cells zCells.toArray 33)) := kZ0.alloc _
 have b8 : (w.alloc (.cells zCells.toArray 33)).heap.size = w.heap.size + 1 := by simp
 have fv := hid (Blk.newL w zCells 33);have aP := hid aW;have HV := hid (fun wy (h : Kept (fun b => w.heap.size ≤ b) w wy) => hv.old h);unfold zCells at fv aP b8;clear aW hv
 go_enter Tryz.func11, Tryz.ntmps11
 go_upto_region 1 with fail
 generalize w.alloc (.cells [.bool false, Q1 0, Q1 0, Q1 0, Q1 0, Q1 0, .bool false, Q4, .bool false, Q4, Q1 0, Q1 0, Q4, Q4, Q4].toArray 33) = w0 at fv aP b8 ⊢;have ug : Hid (Blk (w0.alloc (.cells #[.slice va bs.length vc, Q1 0] 75)) w0.heap.size 75 [.slice va bs.length vc, Q1 0]) := Blk.newL w0 [.slice va bs.length vc, Q1 0] 75;have lE : Hid (Blk (w0.alloc (.cells #[.slice va bs.length vc, Q1 0] 75)) w.heap.size 33 zCells) := fv.out.same (kZ0.alloc _);have aN : Hid (Same w (w0.alloc (.cells #[.slice va bs.length vc, Q1 0] 75))) := aP.out.alloc _
 go_upto_region 2 with fail
 generalize w0.alloc (.cells #[.slice va bs.length vc, Q1 0] 75) = w1 at ug lE aN ⊢;generalize Value.slice va bs.length vc = v at ug HV ⊢;rw [b8] at ug;obtain ⟨P, hP⟩ : ∃ P, w.heap.size + 1 = P := ⟨_, rfl⟩;rw [hP] at ug ⊢;have dU : Hid (RS w1 w.heap.size P v bs bs 0) := ⟨⟨0, Nat.le_refl _, rfl, ug.out⟩, fun wy h => HV.out wy ((aN.out.mono (fun _ _ e => e.elim)).trans h), by omega⟩;clear ug aP fv b8 HV
 go_wp2_with fail
 refine (Qb 1 hB (by omega) (by omega) hl dU.out).mono ?_;rintro e w2 ⟨rfl, aS, aj⟩;obtain ⟨k, hk⟩ : ∃ x, nS (bs) 1 = x := ⟨_, rfl⟩;rw [hk];have gi := hid aS;have IP := hid (lE.out.kept aj (by omega));have aO := hid (aN.out.next aj (fun i hi e => by omega));clear aS aj dU lE aN
 go_wp2_with fail
 refine (Qb 4 hB (by omega) (by omega) hl gi.out).mono ?_;rintro e w3 ⟨rfl, aS, aj⟩;obtain ⟨t, ht⟩ : ∃ x, nS (bs.drop 1) 4 = x := ⟨_, rfl⟩;rw [ht];have s8 := hid aS;have GX := hid (IP.out.kept aj (by omega));have bo := hid (aO.out.next aj (fun i hi e => by omega));clear aS aj gi IP aO
 go_wp2_with fail
 refine (Qb 8 hB (by omega) (by omega) hl s8.out).mono ?_;rintro e w4 ⟨rfl, aS, aj⟩;obtain ⟨p, hp⟩ : ∃ x, nS ((bs.drop 1).drop 4) 8 = x := ⟨_, rfl⟩;rw [hp];have gC := hid aS;have C9 := hid (GX.out.kept aj (by omega));have bp := hid (bo.out.next aj (fun i hi e => by omega));clear aS aj s8 GX bo;obtain ⟨D, hD⟩ : ∃ D, VS bs = D := ⟨_, rfl⟩;have lL := (show Hid (QU bs = if O9 D = 0 ∧ Pe D = bs then (true, D) else (false, SN)) from by unfold Hid QU; rw [hD]);have nQ := (show Hid (∀ (y : StLogRecord) (wx : World), y.dat = D → OwnL wx y.rows → y.isB ∧ y.szs ≤ 1073741824) from fun y wx h1 h2 => jeh hB (h1.trans hD.symm) h2);unfold VS at hD;rw [List.drop_drop, List.drop_drop] at gC;simp only [Nat.reduceAdd] at gC;obtain ⟨r, hr⟩ : ∃ r, bs.drop 13 = r := ⟨_, rfl⟩;have jf : Hid (IsB r) := hr ▸ hB.drop 13;rw [hr] at gC hD;clear hr
 have iK : nS (bs.drop 5) 8 = p := by rw [← hp, List.drop_drop]
 rw [hk, ht, iK] at hD;clear hk ht hp iK;have Lu := gC.out.lt;have GL := C9.out.lt;have iz : Hid (DcI w (w4.alloc (.cells #[Q1 k, Q1 t, Q1 p, Q1 0, Q1 0, .bool false, Q4, .bool false, Q4, Q1 0, Q1 0, Q4, Q4, Q4] 28)) v bs r 13 P w4.heap.size w.heap.size (Rl k t p)) := ⟨gC.out.same (kZ0.alloc _), Blk.newL w4 (Rl k t p).cells 28, C9.out.same (kZ0.alloc _), bp.out.alloc _, Wj _ _ _ _, fun b hb => (Vd hb).elim, bp.out.size, Nat.le_refl _, by omega, by omega, by omega⟩;clear gC C9 bp
 go_upto_region 3 with fail
 generalize w4.alloc (.cells #[Q1 k, Q1 t, Q1 p, Q1 0, Q1 0, .bool false, Q4, .bool false, Q4, Q1 0, Q1 0, Q4, Q4, Q4] 28) = w5 at iz ⊢;generalize w4.heap.size = R at iz Lu GL ⊢;obtain ⟨Z, hZ⟩ : ∃ Z, w.heap.size = Z := ⟨_, rfl⟩;rw [hZ] at hP GL;have kX := hid hZ;have iz : Hid (DcI w w5 v bs r 13 P R Z (Rl k t p)) := hZ ▸ iz.out;rw [hZ];clear hZ;have cK : w5.cell? ⟨R, 0, none⟩ = some (Q1 k) := iz.out.box.c0
 go_upto_block 0 with fail
 clear cK
 go_cut [0] (fun uv wx => v = uv ∧ ∃ (y : StLogRecord) (rs : List Int) (cu : Nat), Hid (DcI w wx v bs rs cu P R Z y) ∧ Hid (y.dat = D))
 case first =>
  by_cases k1 : k = 1
  ·subst k1
   as_aux_lemma =>
    go_wp2_with fail
    try clear cc fb jd
    try clear c1 c2 fb jd
    refine (Qb 2 hB (by omega) (by omega) hl iz.out.rs).mono ?_;rintro e u6 ⟨rfl, aS, aj⟩;have fE := hid (iz.out.read aS aj);obtain ⟨x6, mG⟩ : ∃ x, nS (r) 2 = x := ⟨_, rfl⟩;rw [mG];have iI := hid (fE.out.num 3 (Q1 x6) ({ Rl 1 t p with page := x6 }) rfl rfl);have cc := fE.out.box.cell 3;have fb := fE.out.box.frozen;dsimp only [StLogRecord.cells, Rl] at cc;clear aS aj iz
    go_wp2_with fail
    try clear cc fb fE
    try clear c1 c2 fb fE
    refine (Qb 2 hB (by omega) (by omega) hl iI.out.rs).mono ?_;rintro e u7 ⟨rfl, aS, aj⟩;have jh := hid (iI.out.read aS aj);obtain ⟨x7, uV⟩ : ∃ x, nS (r.drop 2) 2 = x := ⟨_, rfl⟩;rw [uV];have jq := hid (jh.out.num 4 (Q1 x7) ({ Rl 1 t p with page := x6, slot := x7 }) rfl rfl);have cc := jh.out.box.cell 4;have fb := jh.out.box.frozen;dsimp only [StLogRecord.cells, Rl] at cc;clear aS aj iI
    go_wp2_with fail
    try clear cc fb jh
    try clear c1 c2 fb jh
    refine (S9 hB (by omega) hl jq.out.rs).mono ?_;rintro e u8 ⟨q8, rfl, xW, iq, eZ, aS, aj⟩;have lf := hid (jq.out.read aS aj);have jJ := hid (jq.out.slotB q8 _ (Nat.le_refl _) aS aj eZ iq);have c1 := lf.out.box.cell 5;have c2 := lf.out.box.cell 6;have fb := lf.out.box.frozen;dsimp only [StLogRecord.cells, Rl] at c1 c2;dsimp only [StPageRecord.val, BS.v];dsimp only [BS.v] at jJ;have oG := hid xW;clear aS aj iq eZ xW jq
    go_wp2_with fail
    try clear cc fb lf
    try clear c1 c2 fb lf
    refine (S9 hB (by omega) hl jJ.out.rs).mono ?_;rintro e u9 ⟨q9, rfl, Ih, iq, eZ, aS, aj⟩;have po := hid (jJ.out.read aS aj);have uw := hid (jJ.out.slotA q9 _ (Nat.le_refl _) aS aj eZ iq);have c1 := po.out.box.cell 7;have c2 := po.out.box.cell 8;have fb := po.out.box.frozen;dsimp only [StLogRecord.cells, Rl] at c1 c2;dsimp only [StPageRecord.val, BS.v];dsimp only [BS.v] at uw;have cx := hid Ih;clear aS aj iq eZ Ih jJ
    have HT := (show Hid (StLogRecord.dat { Rl 1 t p with page := x6, slot := x7, before := q8, after := q9 } = D) from by
     unfold Hid;rw [← hD];unfold Pt;rw [if_pos rfl, mG, uV];have e1 := oG.out;have e2 := cx.out;rw [List.drop_drop] at e1 e2;unfold StLogRecord.dat;dsimp only [Rl];rw [e1, e2]
     rfl)
    go_wp2_with fail
    go_meet
    case rel => exact ⟨rfl, _, _, _, uw, HT⟩
  have e1 : (k == 1) = false := by simp [k1]
  by_cases k2 : k = 2
  ·subst k2
   as_aux_lemma =>
    go_wp2_with fail
    try clear cc fb jd
    try clear c1 c2 fb jd
    refine (Qb 2 hB (by omega) (by omega) hl iz.out.rs).mono ?_;rintro e u6 ⟨rfl, aS, aj⟩;have fE := hid (iz.out.read aS aj);obtain ⟨x6, mG⟩ : ∃ x, nS (r) 2 = x := ⟨_, rfl⟩;rw [mG];have iI := hid (fE.out.num 3 (Q1 x6) ({ Rl 2 t p with page := x6 }) rfl rfl);have cc := fE.out.box.cell 3;have fb := fE.out.box.frozen;dsimp only [StLogRecord.cells, Rl] at cc;clear aS aj iz
    go_wp2_with fail
    try clear cc fb fE
    try clear c1 c2 fb fE
    refine (Qb 2 hB (by omega) (by omega) hl iI.out.rs).mono ?_;rintro e u7 ⟨rfl, aS, aj⟩;have jh := hid (iI.out.read aS aj);obtain ⟨x7, uV⟩ : ∃ x, nS (r.drop 2) 2 = x := ⟨_, rfl⟩;rw [uV];have jq := hid (jh.out.num 4 (Q1 x7) ({ Rl 2 t p with page := x6, slot := x7 }) rfl rfl);have cc := jh.out.box.cell 4;have fb := jh.out.box.frozen;dsimp only [StLogRecord.cells, Rl] at cc;clear aS aj iI
    go_wp2_with fail
    try clear cc fb jh
    try clear c1 c2 fb jh
    refine (S9 hB (by omega) hl jq.out.rs).mono ?_;rintro e u8 ⟨q8, rfl, xW, iq, eZ, aS, aj⟩;have lf := hid (jq.out.read aS aj);have jJ := hid (jq.out.slotA q8 _ (Nat.le_refl _) aS aj eZ iq);have c1 := lf.out.box.cell 7;have c2 := lf.out.box.cell 8;have fb := lf.out.box.frozen;dsimp only [StLogRecord.cells, Rl] at c1 c2;dsimp only [StPageRecord.val, BS.v];dsimp only [BS.v] at jJ;have oG := hid xW;clear aS aj iq eZ xW jq
    go_wp2_with fail
    try clear cc fb lf
    try clear c1 c2 fb lf
    refine (Qb 8 hB (by omega) (by omega) hl jJ.out.rs).mono ?_;rintro e u9 ⟨rfl, aS, aj⟩;have po := hid (jJ.out.read aS aj);obtain ⟨x9, Dl⟩ : ∃ x, nS ((Qr nS QL ((r.drop 2).drop 2)).2) 8 = x := ⟨_, rfl⟩;rw [Dl];have uw := hid (po.out.num 9 (Q1 x9) ({ Rl 2 t p with page := x6, slot := x7, after := q8, uN := x9 }) rfl rfl);have cc := po.out.box.cell 9;have fb := po.out.box.frozen;dsimp only [StLogRecord.cells, Rl] at cc;clear aS aj jJ
    have HT := (show Hid (StLogRecord.dat { Rl 2 t p with page := x6, slot := x7, after := q8, uN := x9 } = D) from by
     unfold Hid;rw [← hD];unfold Pt;rw [if_neg (by decide), if_pos rfl, mG, uV];have e1 := oG.out;rw [List.drop_drop] at e1 Dl;rw [Dl];unfold StLogRecord.dat;dsimp only [Rl];rw [e1]
     rfl)
    go_wp2_with fail
    go_meet
    case rel => exact ⟨rfl, _, _, _, uw, HT⟩
  have e2 : (k == 2) = false := by simp [k2]
  by_cases k7 : k = 7
  ·subst k7
   as_aux_lemma =>
    go_wp2_with fail
    try clear cc fb jd
    try clear c1 c2 fb jd
    refine (Qb 4 hB (by omega) (by omega) hl iz.out.rs).mono ?_;rintro e u6 ⟨rfl, aS, aj⟩;have fE := hid (iz.out.read aS aj);obtain ⟨x6, mG⟩ : ∃ x, nS (r) 4 = x := ⟨_, rfl⟩;rw [mG];have iI := hid (fE.out.num 10 (Q1 x6) ({ Rl 7 t p with nT := x6 }) rfl rfl);have cc := fE.out.box.cell 10;have fb := fE.out.box.frozen;dsimp only [StLogRecord.cells, Rl] at cc;clear aS aj iz
    go_wp2_with fail
    clear cc fb fE;refine (Qb 1 hB (by omega) (by omega) hl iI.out.rs).mono ?_;rintro e u7 ⟨rfl, aS, aj⟩;have jq := hid (iI.out.read aS aj);have mK := Yr (jf.out.drop 4);obtain ⟨n, hn⟩ : ∃ n : Nat, nS (r.drop 4) 1 = n := ⟨(nS (r.drop 4) 1).toNat, by omega⟩;rw [hn] at mK ⊢;rw [List.drop_drop] at jq;simp only [Nat.reduceAdd] at jq;have HN := hid hn
    have rB : n ≤ 255 := by omega
    clear aS aj iI hn mK;obtain ⟨i0, hi, cE, cP, oS⟩ := info_parts jdq;obtain ⟨d0, di, K5, LI, Jt⟩ := info_parts jbk
    go_wp2_with fail
    go_loopw [5] (fun iv wr => ∃ (j : Nat) (a : Option Addr) (c : Nat), j ≤ n ∧ iv = Q1 ((n - j : Nat) : Int) ∧ Hid (DcI w wr v bs ((r.drop 5).drop (21 * j)) (18 + 21 * j) P R Z { Rl 7 t p with nT := x6, txns := ⟨79, a, j, c, txL nS (r.drop 5) j⟩ })) (fun iv _ => (intOf iv).toNat)
    case atStart => exact ⟨0, none, 0, Nat.zero_le _, rfl, jq⟩
    case round =>
     obtain ⟨j, a, c, hj, rfl, HI⟩ := hrel
     by_cases bg : j < n
     ·obtain ⟨f, hf⟩ : ∃ f : Nat, n - j = f + 1 := ⟨n - j - 1, by omega⟩
      have JC : (0 : Int) < ((f + 1 : Nat) : Int) := by omega
      rw [hf]
      go_wp2_with fail
      refine (Qb 4 hB (by omega) (by omega) hl HI.out.rs).mono ?_;rintro e v1 ⟨rfl, aS, aj⟩;have bD := hid (HI.out.read aS aj);obtain ⟨y1, dM⟩ : ∃ x, nS ((r.drop 5).drop (21 * j)) 4 = x := ⟨_, rfl⟩;rw [dM];clear aS aj HI
      go_wp2_with fail
      refine (Qb 1 hB (by omega) (by omega) hl bD.out.rs).mono ?_;rintro e v2 ⟨rfl, aS, aj⟩;have bL := hid (bD.out.read aS aj);obtain ⟨y2, mh⟩ : ∃ x, nS (((r.drop 5).drop (21 * j)).drop 4) 1 = x := ⟨_, rfl⟩;rw [mh];clear aS aj bD;have pR : Hid (Blk (v2.alloc (.cells #[Q1 y1, Q1 y2, Q1 0, Q1 0] 79)) v2.heap.size 79 [Q1 y1, Q1 y2, Q1 0, Q1 0]) := Blk.newL v2 [Q1 y1, Q1 y2, Q1 0, Q1 0] 79;have ct := (show Hid (DcI w (v2.alloc (.cells #[Q1 y1, Q1 y2, Q1 0, Q1 0] 79)) v bs _ _ P R Z _) from bL.out.same (kZ0.alloc _));have C4 := bL.out.rs.lt;have C5 := bL.out.box.lt;have BD := bL.out.kept.size;have Cn := bL.out.res.lt;have qo := (show Hid (∀ b, O6 _ b → b < _) from fun b hb => bL.out.own.lt b hb);clear bL
      go_upto_region 20 with fail
      generalize v2.alloc (.cells #[Q1 y1, Q1 y2, Q1 0, Q1 0] 79) = v3 at pR ct ⊢;obtain ⟨X, hX⟩ : ∃ X, v2.heap.size = X := ⟨_, rfl⟩;rw [hX] at pR C4 C5 BD Cn qo ⊢;clear hX
      go_wp2_with fail
      refine (Qb 8 hB (by omega) (by omega) hl ct.out.rs).mono ?_;rintro e v4 ⟨rfl, aS, aj⟩;have eE := hid (ct.out.read aS aj);obtain ⟨y4, IH⟩ : ∃ x, nS ((((r.drop 5).drop (21 * j)).drop 4).drop 1) 8 = x := ⟨_, rfl⟩;rw [IH];have sQ := hid (pR.out.kept aj (by omega));clear aS aj ct pR;have cQ : Kept (fun b => b = X) v4 (v4.setCell ⟨X, 2, none⟩ (Q1 y4)) := (Kept.refl (fun b => b = X) v4).setCell (p := ⟨X, 2, none⟩) (.inr rfl) _;have Fa := hid (eE.out.aside cQ (by omega) (by omega) (by omega) (by omega) (fun b hb e => by have := qo.out b hb; omega));have EY : Hid (Blk (v4.setCell ⟨X, 2, none⟩ (Q1 y4)) X 79 [Q1 y1, Q1 y2, Q1 y4, Q1 0]) := sQ.out.stored 2 _;have cc : v4.cell? ⟨X, 2, none⟩ = some (Q1 0) := sQ.out.cell 2;have fb := sQ.out.frozen;clear cQ eE sQ
      go_upto_region 21 with fail
      generalize v4.setCell ⟨X, 2, none⟩ (Q1 y4) = v5 at Fa EY ⊢;have eQ := Fa;have IC := EY;clear Fa EY cc fb
      go_wp2_with fail
      refine (Qb 8 hB (by omega) (by omega) hl eQ.out.rs).mono ?_;rintro e v6 ⟨rfl, aS, aj⟩;have ox := hid (eQ.out.read aS aj);obtain ⟨y6, FH⟩ : ∃ x, nS (((((r.drop 5).drop (21 * j)).drop 4).drop 1).drop 8) 8 = x := ⟨_, rfl⟩;rw [FH];have zX := hid (IC.out.kept aj (by omega));clear aS aj eQ IC;have cQ : Kept (fun b => b = X) v6 (v6.setCell ⟨X, 3, none⟩ (Q1 y6)) := (Kept.refl (fun b => b = X) v6).setCell (p := ⟨X, 3, none⟩) (.inr rfl) _;have AY := hid (ox.out.aside cQ (by omega) (by omega) (by omega) (by omega) (fun b hb e => by have := qo.out b hb; omega));have Eg : Hid (Blk (v6.setCell ⟨X, 3, none⟩ (Q1 y6)) X 79 [Q1 y1, Q1 y2, Q1 y4, Q1 y6]) := zX.out.stored 3 _;have cc : v6.cell? ⟨X, 3, none⟩ = some (Q1 0) := zX.out.cell 3;have fb := zX.out.frozen;clear cQ ox zX
      go_upto_region 22 with fail
      generalize v6.setCell ⟨X, 3, none⟩ (Q1 y6) = v7 at AY Eg ⊢;have lg := AY;have Hg := Eg;clear AY Eg cc fb;have HA : Hid (Same v7 (v7.alloc (.cells #[Q1 y1, Q1 y2, Q1 y4, Q1 y6] 79))) := kZ0.alloc _;have HO := hid ((lg.out.same HA.out).owntxns);have HN : Hid (Blk (v7.alloc (.cells #[Q1 y1, Q1 y2, Q1 y4, Q1 y6] 79)) v7.heap.size 79 [Q1 y1, Q1 y2, Q1 y4, Q1 y6]) := Blk.newL v7 [Q1 y1, Q1 y2, Q1 y4, Q1 y6] 79;have cc : v7.cell? ⟨R, 11, none⟩ = some (.slice a j c) := lg.out.box.cell 11;have fb := lg.out.box.frozen;have pD := lg.out.box.lt;have se := Hg.out.lt;obtain ⟨t0, t1, t2, t3⟩ := Hg.out.all4
      go_wp2_with (at_builtin; go_loud (refine wpList_append_lies _ rfl (.tmp 72) (.tmp 74) 25 rfl 0 79 i0 _ 4 32 Tryz.underlying25 hi cE cP oS rfl (by omega) (.slice a j c) j (vals .i64 (txL nS (r.drop 5) j)) rfl (by exact HO.out) ⟨v7.heap.size, 0, none⟩ 1 1 [Q1 y1, Q1 y2, Q1 y4, Q1 y6] rfl rfl (World.news_of_block (cs := #[Q1 y1, Q1 y2, Q1 y4, Q1 y6]) (t := 79) (fr := (0, 0)) (by exact HN.out)) (by simp [Value.oneCell']) (by omega) (by unfold maxLen; omega) (by omega) (Nat.zero_le _) (v7.heap.size + 1) (by simp) ?_); intro g5 nN w9 dm bZ gQ sD; have Dj := hid (lg.out.appT HA.out dm bZ gQ (by simp)); have ck := (Kept.of_grown bZ (fun k e => e) : Kept (fun k => (Value.slice a j c).ownBlock = some k) _ _); have KX := ((lg.out.same HA.out).box.kept ck (lg.out.outtxns)).frozen; have Kb := ((lg.out.same HA.out).box.kept ck (lg.out.outtxns)).cell 11; clear ck dm bZ gQ)
      go_roundw
      case rel =>
       refine ⟨j + 1, some ⟨g5, 0, none⟩, nN, by omega, by congr 1; omega, hid (Dj.out.rest ?_ ?_ ?_)⟩
       ·simp only [List.drop_drop]; congr 1
       ·omega
       ·have e9 := jei nS (r.drop 5) j dM mh IH FH
        rw [jcc, e9]
      case measure => simp [intOf] <;> omega
     ·obtain rfl : n = j := by omega
      clear bg hj
      have AC : (0 : Int) < ((n - n : Nat) : Int) ↔ False := by simp
      go_wp2_with fail
      refine (Qb 1 hB (by omega) (by omega) hl HI.out.rs).mono ?_;rintro e u8 ⟨rfl, aS, aj⟩;have jJ := hid (HI.out.read aS aj);have i6 := Yr ((jf.out.drop 5).drop (21 * n));obtain ⟨m, hm⟩ : ∃ m : Nat, nS ((r.drop 5).drop (21 * n)) 1 = m := ⟨(nS ((r.drop 5).drop (21 * n)) 1).toNat, by omega⟩;rw [hm] at i6 ⊢;rw [List.drop_drop] at jJ;obtain ⟨rd, b9⟩ : ∃ rd, (r.drop 5).drop (21 * n + 1) = rd := ⟨_, rfl⟩;rw [b9] at jJ;have HM := hid hm;have jg := hid b9
      have CX : m ≤ 255 := by omega
      obtain ⟨ta, rb⟩ : ∃ x, a = x := ⟨_, rfl⟩;obtain ⟨tc, jc⟩ : ∃ x, c = x := ⟨_, rfl⟩;rw [rb, jc] at jJ;obtain ⟨TL, zG⟩ : ∃ x, txL nS (r.drop 5) n = x := ⟨_, rfl⟩;rw [zG] at jJ;have xN := hid zG;clear aS aj HI hm i6 b9 rb jc zG AC
      go_wp2_with fail
      go_loopw [7] (fun iv wr => ∃ (j : Nat) (a : Option Addr) (c : Nat), j ≤ m ∧ iv = Q1 ((m - j : Nat) : Int) ∧ Hid (DcI w wr v bs (rd.drop (10 * j)) (18 + 21 * n + 1 + 10 * j) P R Z { Rl 7 t p with nT := x6, txns := ⟨79, ta, n, tc, TL⟩, dirty := ⟨81, a, j, c, dyL nS rd j⟩ })) (fun iv _ => (intOf iv).toNat)
      case atStart => exact ⟨0, none, 0, Nat.zero_le _, rfl, jJ⟩
      case round =>
       obtain ⟨j, a, c, hj, rfl, HI⟩ := hrel
       by_cases bg : j < m
       ·obtain ⟨f, hf⟩ : ∃ f : Nat, m - j = f + 1 := ⟨m - j - 1, by omega⟩
        have JC : (0 : Int) < ((f + 1 : Nat) : Int) := by omega
        rw [hf]
        go_wp2_with fail
        refine (Qb 2 hB (by omega) (by omega) hl HI.out.rs).mono ?_;rintro e v1 ⟨rfl, aS, aj⟩;have bD := hid (HI.out.read aS aj);obtain ⟨y1, dM⟩ : ∃ x, nS (rd.drop (10 * j)) 2 = x := ⟨_, rfl⟩;rw [dM];clear aS aj HI;have AG : Hid (Blk (v1.alloc (.cells #[Q1 y1, Q1 0] 81)) v1.heap.size 81 [Q1 y1, Q1 0]) := Blk.newL v1 [Q1 y1, Q1 0] 81;have bL := (show Hid (DcI w (v1.alloc (.cells #[Q1 y1, Q1 0] 81)) v bs _ _ P R Z _) from bD.out.same (kZ0.alloc _));have C4 := bD.out.rs.lt;have C5 := bD.out.box.lt;have BD := bD.out.kept.size;have Cn := bD.out.res.lt;have qo := (show Hid (∀ b, O6 _ b → b < _) from fun b hb => bD.out.own.lt b hb);clear bD
        go_upto_region 27 with fail
        generalize v1.alloc (.cells #[Q1 y1, Q1 0] 81) = v2 at AG bL ⊢;obtain ⟨X, hX⟩ : ∃ X, v1.heap.size = X := ⟨_, rfl⟩;rw [hX] at AG C4 C5 BD Cn qo ⊢;clear hX
        go_wp2_with fail
        refine (Qb 8 hB (by omega) (by omega) hl bL.out.rs).mono ?_;rintro e v3 ⟨rfl, aS, aj⟩;have ct := hid (bL.out.read aS aj);obtain ⟨y3, uP⟩ : ∃ x, nS ((rd.drop (10 * j)).drop 2) 8 = x := ⟨_, rfl⟩;rw [uP];have pR := hid (AG.out.kept aj (by omega));clear aS aj bL AG;have cQ : Kept (fun b => b = X) v3 (v3.setCell ⟨X, 1, none⟩ (Q1 y3)) := (Kept.refl (fun b => b = X) v3).setCell (p := ⟨X, 1, none⟩) (.inr rfl) _;have Ef := hid (ct.out.aside cQ (by omega) (by omega) (by omega) (by omega) (fun b hb e => by have := qo.out b hb; omega));have D4 : Hid (Blk (v3.setCell ⟨X, 1, none⟩ (Q1 y3)) X 81 [Q1 y1, Q1 y3]) := pR.out.stored 1 _;have cc : v3.cell? ⟨X, 1, none⟩ = some (Q1 0) := pR.out.cell 1;have fb := pR.out.frozen;clear cQ ct pR
        go_upto_region 28 with fail
        generalize v3.setCell ⟨X, 1, none⟩ (Q1 y3) = v4 at Ef D4 ⊢;have eE := Ef;have sQ := D4;clear Ef D4 cc fb;have HA : Hid (Same v4 (v4.alloc (.cells #[Q1 y1, Q1 y3] 81))) := kZ0.alloc _;have HO := hid ((eE.out.same HA.out).owndirty);have HN : Hid (Blk (v4.alloc (.cells #[Q1 y1, Q1 y3] 81)) v4.heap.size 81 [Q1 y1, Q1 y3]) := Blk.newL v4 [Q1 y1, Q1 y3] 81;have cc : v4.cell? ⟨R, 12, none⟩ = some (.slice a j c) := eE.out.box.cell 12;have fb := eE.out.box.frozen;have pD := eE.out.box.lt;have se := sQ.out.lt;obtain ⟨t0, t1⟩ := sQ.out.all2
        go_wp2_with (at_builtin; go_loud (refine wpList_append_lies _ rfl (.tmp 90) (.tmp 92) 26 rfl 0 81 d0 _ 2 16 Tryz.underlying26 di K5 LI Jt rfl (by omega) (.slice a j c) j (vals .i64 (dyL nS rd j)) rfl (by exact HO.out) ⟨v4.heap.size, 0, none⟩ 1 1 [Q1 y1, Q1 y3] rfl rfl (World.news_of_block (cs := #[Q1 y1, Q1 y3]) (t := 81) (fr := (0, 0)) (by exact HN.out)) (by simp [Value.oneCell']) (by omega) (by unfold maxLen; omega) (by omega) (Nat.zero_le _) (v4.heap.size + 1) (by simp) ?_); intro g5 nN w9 dm bZ gQ sD; have Dj := hid (eE.out.appD HA.out dm bZ gQ (by simp)); have ck := (Kept.of_grown bZ (fun k e => e) : Kept (fun k => (Value.slice a j c).ownBlock = some k) _ _); have KX := ((eE.out.same HA.out).box.kept ck (eE.out.outdirty)).frozen; have Kb := ((eE.out.same HA.out).box.kept ck (eE.out.outdirty)).cell 12; clear ck dm bZ gQ)
        go_roundw
        case rel =>
         refine ⟨j + 1, some ⟨g5, 0, none⟩, nN, by omega, by congr 1; omega, hid (Dj.out.rest ?_ ?_ ?_)⟩
         ·simp only [List.drop_drop]; congr 1
         ·omega
         ·have e9 := jej nS rd j dM uP
          rw [jcd, e9]
        case measure => simp [intOf] <;> omega
       ·obtain rfl : m = j := by omega
        clear bg hj
        have AC : (0 : Int) < ((m - m : Nat) : Int) ↔ False := by simp
        have HT := (show Hid (StLogRecord.dat { Rl 7 t p with nT := x6, txns := ⟨79, ta, n, tc, TL⟩, dirty := ⟨81, a, m, c, dyL nS rd m⟩ } = D) from by
         unfold Hid;rw [← hD];unfold Pt;rw [if_neg (by decide), if_neg (by decide), if_pos rfl, mG, HN.out, Int.toNat_natCast, HM.out, Int.toNat_natCast, xN.out, jg.out]
         rfl)
        go_wp2_with fail
        go_meet
        case rel => exact ⟨rfl, _, _, _, HI, HT⟩
  have e7 : (k == 7) = false := by simp [k7]
  by_cases k8 : k = 8
  ·subst k8
   as_aux_lemma =>
    go_wp2_with fail
    try clear cc fb jd
    try clear c1 c2 fb jd
    refine (Qb 2 hB (by omega) (by omega) hl iz.out.rs).mono ?_;rintro e u6 ⟨rfl, aS, aj⟩;have fE := hid (iz.out.read aS aj);obtain ⟨x6, mG⟩ : ∃ x, nS (r) 2 = x := ⟨_, rfl⟩;rw [mG];have iI := hid (fE.out.num 3 (Q1 x6) ({ Rl 8 t p with page := x6 }) rfl rfl);have cc := fE.out.box.cell 3;have fb := fE.out.box.frozen;dsimp only [StLogRecord.cells, Rl] at cc;clear aS aj iz
    go_wp2_with fail
    clear cc fb fE;refine (Yb 4096 (by omega) (by omega) hl iI.out.rs).mono ?_;rintro e u7 ⟨g, rfl, hg, ho, aS, aj⟩
    have fe : (QL (r.drop 2) 4096).length = 4096 := by simp only [QL, List.length_append, List.length_take, List.length_replicate]; omega
    obtain ⟨im, pS⟩ : ∃ x, QL (r.drop 2) 4096 = x := ⟨_, rfl⟩;rw [pS] at ho fe;have HO : Hid (OwnL u7 (BS.rows ⟨5, some ⟨g, 0, none⟩, 4096, im⟩)) := OwnL.one (by unfold BS.v; rw [fe]; exact ho);have jh := hid (iI.out.read aS aj);have jq := hid (iI.out.img ⟨5, some ⟨g, 0, none⟩, 4096, im⟩ aS aj HO.out (fun b hb => by have h := (Pv _ _ _ _ _).1 hb; have h7 : g = b := Option.some.inj h; omega));unfold BS.v at jq;rw [fe] at jq;have cc := jh.out.box.cell 13;have fb := jh.out.box.frozen;dsimp only [StLogRecord.cells, Rl] at cc
    have HT := (show Hid (StLogRecord.dat { Rl 8 t p with page := x6, image := ⟨5, some ⟨g, 0, none⟩, 4096, im⟩ } = D) from by
     unfold Hid;rw [← hD];unfold Pt;rw [if_neg (by decide), if_neg (by decide), if_neg (by decide), if_pos rfl, mG, pS]
     rfl)
    clear aS aj ho fe iI HO
    go_wp2_with fail
    go_meet
    case rel => exact ⟨rfl, _, _, _, jq, HT⟩
  have e8 : (k == 8) = false := by simp [k8]
  have HT := (show Hid (StLogRecord.dat (Rl k t p) = D) from by
   unfold Hid;rw [← hD];unfold Pt;rw [if_neg k1, if_neg k2, if_neg k7, if_neg k8]
   rfl)
  go_wp2_with fail
  go_meet
  case rel => exact ⟨rfl, _, _, _, iz, HT⟩
 case rest =>
  obtain ⟨hu, y, rs, cu, HD, HY⟩ := hcut;subst hu;obtain ⟨Ax, AV⟩ := nQ.out y _ HY.out HD.out.own;have kQ := (show Hid (QU bs = if O9 y.dat = 0 ∧ Pe y.dat = bs then (true, y.dat) else (false, SN)) from by unfold Hid; rw [lL.out, HY.out]);have HF := hid (Qc y wc Ax AV (StLogRecord.own_rd HD.out.own));have HG := (show Hid (∀ wz, Same wc wz → _) from fun wz (h : Same wc wz) => Rz y wz Ax AV ((StLogRecord.own_rd HD.out.own).same h));have HW := (show Hid (O9 y.dat = 0 → IsB (Pe y.dat)) from fun h => Sk Ax h);have gE : Hid (Blk wc R 28 y.cells) := HD.out.box;have rU : Hid (Blk wc Z 33 zCells) := HD.out.res;obtain ⟨F, hF⟩ : ∃ F, O9 y.dat = F := ⟨_, rfl⟩;have Eh := (show Hid (P8 y.dat = if F = 0 then Pe y.dat else []) from by unfold Hid; by_cases h : F = 0; rw [if_pos h, P9 (hF.trans h)]; rw [if_neg h, Sj (by rw [hF]; exact h)]);have M3 := (show Hid (∀ wz, Same wc wz → Rd .u8 wz v bs) from fun wz h => HD.out.rs.rd wz (h.mono (fun _ _ e => e.elim)));rw [hF] at HF kQ HW;have f0 := HF.out;have Nh := hid hF;clear HF hF Ax AV nQ lL hD;dsimp only [StLogRecord.val, StPageRecord.val, BS.v, FR.v] at f0;obtain ⟨q0, q1, q2, q3, q4, q5, q6, q7, q8, q9, yY, vD, oF, wV⟩ := (show Blk wc R 28 [Q1 y.kind, Q1 y.txn, Q1 y.prev, Q1 y.page, Q1 y.slot, .bool y.before.used, .slice y.before.data.a y.before.data.bs.length y.before.data.c, .bool y.after.used, .slice y.after.data.a y.after.data.bs.length y.after.data.c, Q1 y.uN, Q1 y.nT, .slice y.txns.a y.txns.n y.txns.c, .slice y.dirty.a y.dirty.n y.dirty.c, .slice y.image.a y.image.bs.length y.image.c] from gE.out).all14;have pD := gE.out.lt;have Ks := rU.out.lt
  go_wp2_with fail
  refine f0.mono ?_;rintro e w6 ⟨rfl, dX⟩;have bR : Hid (Same wc w6) := dX;clear dX f0 q0 q1 q2 q3 q4 q5 q6 q7 q8 q9 yY vD oF wV;have Ox : w.heap.size ≤ Z := HD.out.pl.2.1
  by_cases hz : F = 0
  ·subst hz
   have IS := (show Hid (P8 y.dat = Pe y.dat) from by have h := Eh.out; rw [if_pos rfl] at h; exact h);have g0 := HG.out w6 bR.out;rw [IS.out] at g0;have eK : Hid (Blk w6 R 28 [Q1 y.kind, Q1 y.txn, Q1 y.prev, Q1 y.page, Q1 y.slot, .bool y.before.used, .slice y.before.data.a y.before.data.bs.length y.before.data.c, .bool y.after.used, .slice y.after.data.a y.after.data.bs.length y.after.data.c, Q1 y.uN, Q1 y.nT, .slice y.txns.a y.txns.n y.txns.c, .slice y.dirty.a y.dirty.n y.dirty.c, .slice y.image.a y.image.bs.length y.image.c]) := gE.out.same bR.out;obtain ⟨q0, q1, q2, q3, q4, q5, q6, q7, q8, q9, yY, vD, oF, wV⟩ := eK.out.all14;have Ol := eK.out.lt;dsimp only [StLogRecord.val, StPageRecord.val, BS.v, FR.v] at g0;obtain ⟨eb, uj⟩ : ∃ x, Pe y.dat = x := ⟨_, rfl⟩;rw [uj] at g0 HW kQ;have D9 : Hid (IsB eb) := HW.out rfl;have vV := (show Hid (QU bs = if eb = bs then (true, y.dat) else (false, SN)) from by have h := kQ.out; simp only [true_and] at h; exact h);clear HW kQ;have Em := hid uj;clear uj HG Eh IS
   go_wp2_with fail
   refine g0.mono ?_;rintro e w7 ⟨a7, c7, rfl, JU, lW, cL⟩;have dD := hid (bR.out.trans cL);have gh := hid lW;generalize Value.slice a7 eb.length c7 = V7 at gh ⊢;clear g0 JU lW cL q0 q1 q2 q3 q4 q5 q6 q7 q8 q9 yY vD oF wV
   go_wp2_with fail
   refine (jaq _ _ eb bs _ D9.out hB gh.out.rd (M3.out _ dD.out)).mono ?_;rintro e w8 ⟨rfl, fo⟩;have dG := hid (dD.out.trans fo);clear fo
   by_cases he : eb = bs
   ·have hd : decide (eb = bs) = true := decide_eq_true he
    rw [hd];have C6 : Hid (Blk w8 R 28 [Q1 y.kind, Q1 y.txn, Q1 y.prev, Q1 y.page, Q1 y.slot, .bool y.before.used, .slice y.before.data.a y.before.data.bs.length y.before.data.c, .bool y.after.used, .slice y.after.data.a y.after.data.bs.length y.after.data.c, Q1 y.uN, Q1 y.nT, .slice y.txns.a y.txns.n y.txns.c, .slice y.dirty.a y.dirty.n y.dirty.c, .slice y.image.a y.image.bs.length y.image.c]) := gE.out.same dG.out;obtain ⟨q0, q1, q2, q3, q4, q5, q6, q7, q8, q9, yY, vD, oF, wV⟩ := C6.out.all14;have On := C6.out.lt;have BZ := (show Blk w8 Z 33 [.bool false, Q1 0, Q1 0, Q1 0, Q1 0, Q1 0, .bool false, Q4, .bool false, Q4, Q1 0, Q1 0, Q4, Q4, Q4] from rU.out.same dG.out);have fz := BZ.frozen;have tQ := BZ.lt;have z0 := BZ.cell 0;have z1 := BZ.cell 1;have z2 := BZ.cell 2;have z3 := BZ.cell 3;have z4 := BZ.cell 4;have z5 := BZ.cell 5;have z6 := BZ.cell 6;have z7 := BZ.cell 7;have z8 := BZ.cell 8;have z9 := BZ.cell 9;have bV := BZ.cell 10;have bW := BZ.cell 11;have bX := BZ.cell 12;have bY := BZ.cell 13;have gj := BZ.cell 14;simp only [List.getElem?_cons_zero, List.getElem?_cons_succ] at z0 z1 z2 z3 z4 z5 z6 z7 z8 z9 bV bW bX bY gj;have wQ := hid BZ;clear BZ;have cx : Hid (Kept (fun b => b = Z) w8 (((((((((((((((w8.setCell ⟨Z, 0, none⟩ (.bool true)).setCell ⟨Z, 1, none⟩ (Q1 y.kind)).setCell ⟨Z, 2, none⟩ (Q1 y.txn)).setCell ⟨Z, 3, none⟩ (Q1 y.prev)).setCell ⟨Z, 4, none⟩ (Q1 y.page)).setCell ⟨Z, 5, none⟩ (Q1 y.slot)).setCell ⟨Z, 6, none⟩ (.bool y.before.used)).setCell ⟨Z, 7, none⟩ (.slice y.before.data.a y.before.data.bs.length y.before.data.c)).setCell ⟨Z, 8, none⟩ (.bool y.after.used)).setCell ⟨Z, 9, none⟩ (.slice y.after.data.a y.after.data.bs.length y.after.data.c)).setCell ⟨Z, 10, none⟩ (Q1 y.uN)).setCell ⟨Z, 11, none⟩ (Q1 y.nT)).setCell ⟨Z, 12, none⟩ (.slice y.txns.a y.txns.n y.txns.c)).setCell ⟨Z, 13, none⟩ (.slice y.dirty.a y.dirty.n y.dirty.c)).setCell ⟨Z, 14, none⟩ (.slice y.image.a y.image.bs.length y.image.c))) := (by show Kept _ _ _; (iterate 15 refine kS0 ?_); exact Kept.refl _ _);have Dx := hid ((HD.out.own.same dG.out).kept cx.out (fun b hb e => (HD.out.foot b hb).2.2.2 e));have nD := hid he;clear wQ rU gE C6 eK he hd;go_wp2;refine bodyPost_ret (v := .agg #[.bool true, Q1 y.kind, Q1 y.txn, Q1 y.prev, Q1 y.page, Q1 y.slot, .bool y.before.used, .slice y.before.data.a y.before.data.bs.length y.before.data.c, .bool y.after.used, .slice y.after.data.a y.after.data.bs.length y.after.data.c, Q1 y.uN, Q1 y.nT, .slice y.txns.a y.txns.n y.txns.c, .slice y.dirty.a y.dirty.n y.dirty.c, .slice y.image.a y.image.bs.length y.image.c]) (by simp [results, Tryz.results11, go_sem, z0, z1, z2, z3, z4, z5, z6, z7, z8, z9, bV, bW, bX, bY, gj]) rfl ⟨⟨true, y⟩, rfl, ?_, fun b hb => (HD.out.foot b hb).1, Dx.out, ?_⟩
    ·rw [vV.out, if_pos nD.out]; rfl
    ·exact (HD.out.kept.trans dG.out).next cx.out (fun i hi e => by omega)
   ·have hd : decide (eb = bs) = false := decide_eq_false he
    rw [hd];have nD := hid he;clear he hd;have BZ := (show Blk w8 Z 33 [.bool false, Q1 0, Q1 0, Q1 0, Q1 0, Q1 0, .bool false, Q4, .bool false, Q4, Q1 0, Q1 0, Q4, Q4, Q4] from rU.out.same dG.out);have fz := BZ.frozen;have tQ := BZ.lt;have z0 := BZ.cell 0;have z1 := BZ.cell 1;have z2 := BZ.cell 2;have z3 := BZ.cell 3;have z4 := BZ.cell 4;have z5 := BZ.cell 5;have z6 := BZ.cell 6;have z7 := BZ.cell 7;have z8 := BZ.cell 8;have z9 := BZ.cell 9;have bV := BZ.cell 10;have bW := BZ.cell 11;have bX := BZ.cell 12;have bY := BZ.cell 13;have gj := BZ.cell 14;simp only [List.getElem?_cons_zero, List.getElem?_cons_succ] at z0 z1 z2 z3 z4 z5 z6 z7 z8 z9 bV bW bX bY gj;have wQ := hid BZ;clear BZ;have cx : Hid (Kept (fun b => b = Z) w8 (((((((((((((((w8.setCell ⟨Z, 0, none⟩ (.bool false)).setCell ⟨Z, 1, none⟩ (Q1 0)).setCell ⟨Z, 2, none⟩ (Q1 0)).setCell ⟨Z, 3, none⟩ (Q1 0)).setCell ⟨Z, 4, none⟩ (Q1 0)).setCell ⟨Z, 5, none⟩ (Q1 0)).setCell ⟨Z, 6, none⟩ (.bool false)).setCell ⟨Z, 7, none⟩ (Q4)).setCell ⟨Z, 8, none⟩ (.bool false)).setCell ⟨Z, 9, none⟩ (Q4)).setCell ⟨Z, 10, none⟩ (Q1 0)).setCell ⟨Z, 11, none⟩ (Q1 0)).setCell ⟨Z, 12, none⟩ (Q4)).setCell ⟨Z, 13, none⟩ (Q4)).setCell ⟨Z, 14, none⟩ (Q4))) := (by show Kept _ _ _; (iterate 15 refine kS0 ?_); exact Kept.refl _ _);clear wQ rU gE;go_wp2;refine bodyPost_ret (v := .agg #[.bool false, Q1 0, Q1 0, Q1 0, Q1 0, Q1 0, .bool false, Q4, .bool false, Q4, Q1 0, Q1 0, Q4, Q4, Q4]) (by simp [results, Tryz.results11, go_sem, z0, z1, z2, z3, z4, z5, z6, z7, z8, z9, bV, bW, bX, bY, gj]) rfl ⟨⟨false, Rl 0 0 0⟩, rfl, ?_, fun b hb => (Vd hb).elim, Wj 0 0 0 _, ?_⟩
    ·rw [vV.out, if_neg (by exact nD.out)]; rfl
    ·first
     | exact (HD.out.kept.trans dG.out).next cx.out (fun i hi e => by omega)
     | exact HD.out.kept.trans dG.out
  ·have vg : (F != 0) = true := bne_iff_ne.2 hz
   have uT := hid hz;clear hz HG Eh HW;have BZ := (show Blk w6 Z 33 [.bool false, Q1 0, Q1 0, Q1 0, Q1 0, Q1 0, .bool false, Q4, .bool false, Q4, Q1 0, Q1 0, Q4, Q4, Q4] from rU.out.same bR.out);have fz := BZ.frozen;have tQ := BZ.lt;have z0 := BZ.cell 0;have z1 := BZ.cell 1;have z2 := BZ.cell 2;have z3 := BZ.cell 3;have z4 := BZ.cell 4;have z5 := BZ.cell 5;have z6 := BZ.cell 6;have z7 := BZ.cell 7;have z8 := BZ.cell 8;have z9 := BZ.cell 9;have bV := BZ.cell 10;have bW := BZ.cell 11;have bX := BZ.cell 12;have bY := BZ.cell 13;have gj := BZ.cell 14;simp only [List.getElem?_cons_zero, List.getElem?_cons_succ] at z0 z1 z2 z3 z4 z5 z6 z7 z8 z9 bV bW bX bY gj;have wQ := hid BZ;clear BZ;have cx : Hid (Kept (fun b => b = Z) w6 (((((((((((((((w6.setCell ⟨Z, 0, none⟩ (.bool false)).setCell ⟨Z, 1, none⟩ (Q1 0)).setCell ⟨Z, 2, none⟩ (Q1 0)).setCell ⟨Z, 3, none⟩ (Q1 0)).setCell ⟨Z, 4, none⟩ (Q1 0)).setCell ⟨Z, 5, none⟩ (Q1 0)).setCell ⟨Z, 6, none⟩ (.bool false)).setCell ⟨Z, 7, none⟩ (Q4)).setCell ⟨Z, 8, none⟩ (.bool false)).setCell ⟨Z, 9, none⟩ (Q4)).setCell ⟨Z, 10, none⟩ (Q1 0)).setCell ⟨Z, 11, none⟩ (Q1 0)).setCell ⟨Z, 12, none⟩ (Q4)).setCell ⟨Z, 13, none⟩ (Q4)).setCell ⟨Z, 14, none⟩ (Q4))) := (by show Kept _ _ _; (iterate 15 refine kS0 ?_); exact Kept.refl _ _);clear wQ rU gE;go_wp2;refine bodyPost_ret (v := .agg #[.bool false, Q1 0, Q1 0, Q1 0, Q1 0, Q1 0, .bool false, Q4, .bool false, Q4, Q1 0, Q1 0, Q4, Q4, Q4]) (by simp [results, Tryz.results11, go_sem, z0, z1, z2, z3, z4, z5, z6, z7, z8, z9, bV, bW, bX, bY, gj]) rfl ⟨⟨false, Rl 0 0 0⟩, rfl, ?_, fun b hb => (Vd hb).elim, Wj 0 0 0 _, ?_⟩
   ·rw [kQ.out, if_neg (by rintro ⟨h, _⟩; exact uT.out h)]; rfl
   ·first
    | exact (HD.out.kept.trans bR.out).next cx.out (fun i hi e => by omega)
    | exact HD.out.kept.trans bR.out
end Go.Proofs.YtapdfgkbhaoelaaGreatDoor
