import Derived.Test.YtapdfgkbhaoelaaGreatDoorG31
namespace Go.Proofs.YtapdfgkbhaoelaaGreatDoor
set_option maxRecDepth 100000
set_option maxHeartbeats 4000000
set_option linter.unusedVariables false
set_option linter.unusedSimpArgs false
open Go.RowKit
theorem jcb {y : StLogRecord} (h : ¬ (1 ≤ y.kind ∧ y.kind ≤ 8)) : O9 y.dat ≠ 0 := fun hz => h (Tm (show Pw y.kind _ _ _ _ _ _ _ _ _ _ _ _ _ = 0 from hz))
theorem Wn (w : World) : OwnL w (Pj 0 0 0).rows :=
 have hB : OwnL w nlB.rows := OwnL.one (Own.nil 0 _ .u8 _)
 have fB : ∀ b, ¬ O6 nlB.rows b := fun b h => by have h := (Pv _ _ _ _ _).1 h; simp [nlB, BS.v, Value.ownBlock] at h
 have fF : ∀ (m : Nat) (e : TypeId) (b : Nat), ¬ O6 ((nlF e).rows m) b := fun m e b h => by have h := (PD _ _).1 h; simp [nlF, FR.v, Value.ownBlock] at h
 hB.append (hB.append ((RH 4 _ w).append ((RH 2 _ w).append hB (fun b h => (fF _ _ _ h).elim)) (fun b h => (fF _ _ _ h).elim)) (fun b h => (fB _ h).elim)) (fun b h => (fB _ h).elim)
theorem Ve {b : Nat} (h : O6 (Pj 0 0 0).rows b) : False := by
 have fB : ∀ b, ¬ O6 nlB.rows b := fun b h => by have h := (Pv _ _ _ _ _).1 h; simp [nlB, BS.v, Value.ownBlock] at h
 have fF : ∀ (m : Nat) (e : TypeId) (b : Nat), ¬ O6 ((nlF e).rows m) b := fun m e b h => by have h := (PD _ _).1 h; simp [nlF, FR.v, Value.ownBlock] at h
 rcases (OX _ _ _).1 h with h | h
 ·exact fB _ h
 rcases (OX _ _ _).1 h with h | h
 ·exact fB _ h
 rcases (OX _ _ _).1 h with h | h
 ·exact fF _ _ _ h
 rcases (OX _ _ _).1 h with h | h
 ·exact fF _ _ _ h
 ·exact fB _ h
theorem Vz (v : Value) (bs : List Int) (w : World) (hB : IsB bs) (hl : bs.length ≤ 1099511627776) (hv : Rd .u8 w v bs) : Calls Tryz.prog 6 #[v] w fun e w' => ∃ y : StRecordResult, e = .returned y.val ∧ y.dat = QU bs ∧ (∀ b, O6 y.rows b → w.heap.size ≤ b) ∧ OwnL w' y.rows ∧ Same w w' := by
 have pH := (show Hid (QU bs = _) from jeT bs);have aP : Hid (Same w (w.alloc (.cells #[.bool false, Q1 0, Q1 0, Q1 0, Q1 0, Q1 0, .bool false, Q4, .bool false, Q4, Q1 0, Q1 0, Q4, Q4, Q4] 33))) := kZ0.alloc _;have fv : Hid (Blk (w.alloc (.cells #[.bool false, Q1 0, Q1 0, Q1 0, Q1 0, Q1 0, .bool false, Q4, .bool false, Q4, Q1 0, Q1 0, Q4, Q4, Q4] 33)) w.heap.size 33 [.bool false, Q1 0, Q1 0, Q1 0, Q1 0, Q1 0, .bool false, Q4, .bool false, Q4, Q1 0, Q1 0, Q4, Q4, Q4]) := Blk.newL w [.bool false, Q1 0, Q1 0, Q1 0, Q1 0, Q1 0, .bool false, Q4, .bool false, Q4, Q1 0, Q1 0, Q4, Q4, Q4] 33;have HV := hid hv;clear hv
 go_enter Tryz.func6, Tryz.ntmps6
 go_upto_region 1 with fail
 generalize w.alloc (.cells #[.bool false, Q1 0, Q1 0, Q1 0, Q1 0, Q1 0, .bool false, Q4, .bool false, Q4, Q1 0, Q1 0, Q4, Q4, Q4] 33) = w0 at aP fv ⊢;obtain ⟨Z, hZ⟩ : ∃ Z, w.heap.size = Z := ⟨_, rfl⟩;rw [hZ] at fv ⊢;have kX := hid hZ;clear hZ
 go_wp2_with fail
 refine (ZL _ bs _ hB hl (HV.out.same aP.out)).mono ?_;rintro e w1 ⟨y, rfl, hd, D6, b9, hk⟩;have aN := hid (aP.out.trans hk);have lE := hid (fv.out.same hk);have kQ := (show Hid (QU bs = if O9 y.dat = 0 ∧ Pe y.dat = bs then (true, y.dat) else (false, SN)) from by unfold Hid; rw [pH.out, hd]);have wY := jey hB hd b9;have JN : Hid (y.isB) := jex hB hd;clear hk aP fv pH hd
 by_cases hk : 1 ≤ y.kind ∧ y.kind ≤ 8
 ·obtain ⟨T, A, rc, ri, t9, hm, Fl, hf, he, hp⟩ := ZN D6 hk w1 ⟨wY.1.2.2.2.2, wY.2⟩ b9
  have MO := (show Hid (∀ wx, Same w1 wx → _) from fun wx (h : Same w1 wx) => ZM y wx wY.1 (b9.same h));have HW := (show Hid (O9 y.dat = 0 → IsB (Pe y.dat)) from fun h => Sk JN.out h);rw [t9];obtain ⟨F, hF⟩ : ∃ F, O9 y.dat = F := ⟨_, rfl⟩;obtain ⟨eb, uj⟩ : ∃ x, Pe y.dat = x := ⟨_, rfl⟩;rw [hF] at hf he kQ HW;rw [uj] at he kQ HW;have HF := hid hf;have HE := hid he;have HP := hid hp;clear hF uj hf he hp wY b9 D6 t9 hk
  go_wp2_with fail
  refine (HF.out _ kZ0).mono ?_;rintro e w2 ⟨rfl, aj⟩;have aO : Hid (Same w1 w2) := aj;clear aj
  by_cases hz : F = 0
  ·subst hz
   have uK : Hid (jcN (.iface T A) eb w1) := HE.out rfl;have D9 : Hid (IsB eb) := HW.out rfl;have vV := (show Hid (QU bs = if eb = bs then (true, y.dat) else (false, SN)) from by have h := kQ.out; simp only [true_and] at h; exact h);clear HE HW kQ
   go_wp2_with fail
   refine (uK.out _ aO.out).mono ?_;rintro e w3 ⟨a3, n3, c3, rfl, uO, vX, aZ⟩;have bo := hid (aO.out.trans aZ);have cI := hid uO;generalize Value.slice a3 n3 c3 = V3 at cI ⊢;clear uO vX aZ
   go_wp2_with fail
   refine (SH _ _ eb bs _ D9.out hB cI.out.rd (HV.out.same (aN.out.trans bo.out))).mono ?_;rintro e w4 ⟨rfl, cS⟩;have bp := hid (bo.out.trans cS);clear cS
   by_cases he : eb = bs
   ·have hd : decide (eb = bs) = true := decide_eq_true he
    rw [hd];have nD := hid he;clear he hd
    go_wp2_with fail
    refine (HP.out _ bp.out).mono ?_;rintro e w5 ⟨rfl, bF⟩;have cd := hid (bp.out.trans bF);clear bF
    go_wp2_with fail
    refine (MO.out _ cd.out).mono ?_;rintro e w6 ⟨z, rfl, Gu, Hj, Ig, dX⟩;have bR := hid (cd.out.trans dX);have Aw := hid Gu;have Io : Hid (∀ b, O6 z.rows b → w5.heap.size ≤ b) := Hj;have Lq := hid Ig;have rF := cd.out.size;clear Gu Hj Ig dX;dsimp only [StLogRecord.val, StPageRecord.val, BS.v, FR.v];have BZ := (show Blk w6 Z 33 [.bool false, Q1 0, Q1 0, Q1 0, Q1 0, Q1 0, .bool false, Q4, .bool false, Q4, Q1 0, Q1 0, Q4, Q4, Q4] from lE.out.same bR.out);have fz := BZ.frozen;have tQ := BZ.lt;have z0 := BZ.cell 0;have z1 := BZ.cell 1;have z2 := BZ.cell 2;have z3 := BZ.cell 3;have z4 := BZ.cell 4;have z5 := BZ.cell 5;have z6 := BZ.cell 6;have z7 := BZ.cell 7;have z8 := BZ.cell 8;have z9 := BZ.cell 9;have bV := BZ.cell 10;have bW := BZ.cell 11;have bX := BZ.cell 12;have bY := BZ.cell 13;have gj := BZ.cell 14;simp only [List.getElem?_cons_zero, List.getElem?_cons_succ] at z0 z1 z2 z3 z4 z5 z6 z7 z8 z9 bV bW bX bY gj;clear BZ;have cx : Hid (Kept (fun b => b = Z) w6 (((((((((((((((w6.setCell ⟨Z, 0, none⟩ (.bool true)).setCell ⟨Z, 1, none⟩ (Q1 z.kind)).setCell ⟨Z, 2, none⟩ (Q1 z.txn)).setCell ⟨Z, 3, none⟩ (Q1 z.prev)).setCell ⟨Z, 4, none⟩ (Q1 z.page)).setCell ⟨Z, 5, none⟩ (Q1 z.slot)).setCell ⟨Z, 6, none⟩ (.bool z.before.used)).setCell ⟨Z, 7, none⟩ (.slice z.before.data.a z.before.data.bs.length z.before.data.c)).setCell ⟨Z, 8, none⟩ (.bool z.after.used)).setCell ⟨Z, 9, none⟩ (.slice z.after.data.a z.after.data.bs.length z.after.data.c)).setCell ⟨Z, 10, none⟩ (Q1 z.uN)).setCell ⟨Z, 11, none⟩ (Q1 z.nT)).setCell ⟨Z, 12, none⟩ (.slice z.txns.a z.txns.n z.txns.c)).setCell ⟨Z, 13, none⟩ (.slice z.dirty.a z.dirty.n z.dirty.c)).setCell ⟨Z, 14, none⟩ (.slice z.image.a z.image.bs.length z.image.c))) := (by show Kept _ _ _; (iterate 15 refine kS0 ?_); exact Kept.refl _ _);have jL := hid (aN.out.trans bR.out);have OE := lE.out.lt;have Dx := hid (Lq.out.kept cx.out (fun b hb e => by have := Io.out b hb; omega));have fi := aN.out.size;clear lE;go_wp2;refine bodyPost_ret (v := .agg #[.bool true, Q1 z.kind, Q1 z.txn, Q1 z.prev, Q1 z.page, Q1 z.slot, .bool z.before.used, .slice z.before.data.a z.before.data.bs.length z.before.data.c, .bool z.after.used, .slice z.after.data.a z.after.data.bs.length z.after.data.c, Q1 z.uN, Q1 z.nT, .slice z.txns.a z.txns.n z.txns.c, .slice z.dirty.a z.dirty.n z.dirty.c, .slice z.image.a z.image.bs.length z.image.c]) (by simp [results, Tryz.results6, go_sem, z0, z1, z2, z3, z4, z5, z6, z7, z8, z9, bV, bW, bX, bY, gj]) rfl ⟨⟨true, z⟩, rfl, ?_, fun b hb => by have := Io.out b hb; omega, Dx.out, ?_⟩
    ·rw [vV.out, if_pos nD.out, ← Aw.out]; rfl
    ·have := kX.out
     exact jL.out.next cx.out (fun i hi e => by omega)
   ·have hd : decide (eb = bs) = false := decide_eq_false he
    rw [hd];have nD := hid he;clear he hd;have BZ := (show Blk w4 Z 33 [.bool false, Q1 0, Q1 0, Q1 0, Q1 0, Q1 0, .bool false, Q4, .bool false, Q4, Q1 0, Q1 0, Q4, Q4, Q4] from lE.out.same bp.out);have fz := BZ.frozen;have tQ := BZ.lt;have z0 := BZ.cell 0;have z1 := BZ.cell 1;have z2 := BZ.cell 2;have z3 := BZ.cell 3;have z4 := BZ.cell 4;have z5 := BZ.cell 5;have z6 := BZ.cell 6;have z7 := BZ.cell 7;have z8 := BZ.cell 8;have z9 := BZ.cell 9;have bV := BZ.cell 10;have bW := BZ.cell 11;have bX := BZ.cell 12;have bY := BZ.cell 13;have gj := BZ.cell 14;simp only [List.getElem?_cons_zero, List.getElem?_cons_succ] at z0 z1 z2 z3 z4 z5 z6 z7 z8 z9 bV bW bX bY gj;clear BZ;have cx : Hid (Kept (fun b => b = Z) w4 (((((((((((((((w4.setCell ⟨Z, 0, none⟩ (.bool false)).setCell ⟨Z, 1, none⟩ (Q1 0)).setCell ⟨Z, 2, none⟩ (Q1 0)).setCell ⟨Z, 3, none⟩ (Q1 0)).setCell ⟨Z, 4, none⟩ (Q1 0)).setCell ⟨Z, 5, none⟩ (Q1 0)).setCell ⟨Z, 6, none⟩ (.bool false)).setCell ⟨Z, 7, none⟩ (Q4)).setCell ⟨Z, 8, none⟩ (.bool false)).setCell ⟨Z, 9, none⟩ (Q4)).setCell ⟨Z, 10, none⟩ (Q1 0)).setCell ⟨Z, 11, none⟩ (Q1 0)).setCell ⟨Z, 12, none⟩ (Q4)).setCell ⟨Z, 13, none⟩ (Q4)).setCell ⟨Z, 14, none⟩ (Q4))) := (by show Kept _ _ _; (iterate 15 refine kS0 ?_); exact Kept.refl _ _);have jL := hid (aN.out.trans bp.out);clear lE;go_wp2;refine bodyPost_ret (v := .agg #[.bool false, Q1 0, Q1 0, Q1 0, Q1 0, Q1 0, .bool false, Q4, .bool false, Q4, Q1 0, Q1 0, Q4, Q4, Q4]) (by simp [results, Tryz.results6, go_sem, z0, z1, z2, z3, z4, z5, z6, z7, z8, z9, bV, bW, bX, bY, gj]) rfl ⟨⟨false, Pj 0 0 0⟩, rfl, ?_, fun b hb => (Ve hb).elim, Wn _, ?_⟩
    ·rw [vV.out, if_neg (by exact nD.out)]; rfl
    ·have := kX.out
     first
     | exact jL.out.next cx.out (fun i hi e => by omega)
     | exact jL.out
  ·have vg : (F != 0) = true := bne_iff_ne.2 hz
   have uT := hid hz;clear hz HE HW;have BZ := (show Blk w2 Z 33 [.bool false, Q1 0, Q1 0, Q1 0, Q1 0, Q1 0, .bool false, Q4, .bool false, Q4, Q1 0, Q1 0, Q4, Q4, Q4] from lE.out.same aO.out);have fz := BZ.frozen;have tQ := BZ.lt;have z0 := BZ.cell 0;have z1 := BZ.cell 1;have z2 := BZ.cell 2;have z3 := BZ.cell 3;have z4 := BZ.cell 4;have z5 := BZ.cell 5;have z6 := BZ.cell 6;have z7 := BZ.cell 7;have z8 := BZ.cell 8;have z9 := BZ.cell 9;have bV := BZ.cell 10;have bW := BZ.cell 11;have bX := BZ.cell 12;have bY := BZ.cell 13;have gj := BZ.cell 14;simp only [List.getElem?_cons_zero, List.getElem?_cons_succ] at z0 z1 z2 z3 z4 z5 z6 z7 z8 z9 bV bW bX bY gj;clear BZ;have cx : Hid (Kept (fun b => b = Z) w2 (((((((((((((((w2.setCell ⟨Z, 0, none⟩ (.bool false)).setCell ⟨Z, 1, none⟩ (Q1 0)).setCell ⟨Z, 2, none⟩ (Q1 0)).setCell ⟨Z, 3, none⟩ (Q1 0)).setCell ⟨Z, 4, none⟩ (Q1 0)).setCell ⟨Z, 5, none⟩ (Q1 0)).setCell ⟨Z, 6, none⟩ (.bool false)).setCell ⟨Z, 7, none⟩ (Q4)).setCell ⟨Z, 8, none⟩ (.bool false)).setCell ⟨Z, 9, none⟩ (Q4)).setCell ⟨Z, 10, none⟩ (Q1 0)).setCell ⟨Z, 11, none⟩ (Q1 0)).setCell ⟨Z, 12, none⟩ (Q4)).setCell ⟨Z, 13, none⟩ (Q4)).setCell ⟨Z, 14, none⟩ (Q4))) := (by show Kept _ _ _; (iterate 15 refine kS0 ?_); exact Kept.refl _ _);have jL := hid (aN.out.trans aO.out);clear lE;go_wp2;refine bodyPost_ret (v := .agg #[.bool false, Q1 0, Q1 0, Q1 0, Q1 0, Q1 0, .bool false, Q4, .bool false, Q4, Q1 0, Q1 0, Q4, Q4, Q4]) (by simp [results, Tryz.results6, go_sem, z0, z1, z2, z3, z4, z5, z6, z7, z8, z9, bV, bW, bX, bY, gj]) rfl ⟨⟨false, Pj 0 0 0⟩, rfl, ?_, fun b hb => (Ve hb).elim, Wn _, ?_⟩
   ·rw [kQ.out, if_neg (by rintro ⟨h, _⟩; exact uT.out h)]; rfl
   ·have := kX.out
    first
    | exact jL.out.next cx.out (fun i hi e => by omega)
    | exact jL.out
 ·have uT : Hid (O9 y.dat ≠ 0) := jcb hk
  rw [YT hk];have E5 : Hid (Same w1 w1) := kZ0;clear hk wY b9 D6;have BZ := (show Blk w1 Z 33 [.bool false, Q1 0, Q1 0, Q1 0, Q1 0, Q1 0, .bool false, Q4, .bool false, Q4, Q1 0, Q1 0, Q4, Q4, Q4] from lE.out.same E5.out);have fz := BZ.frozen;have tQ := BZ.lt;have z0 := BZ.cell 0;have z1 := BZ.cell 1;have z2 := BZ.cell 2;have z3 := BZ.cell 3;have z4 := BZ.cell 4;have z5 := BZ.cell 5;have z6 := BZ.cell 6;have z7 := BZ.cell 7;have z8 := BZ.cell 8;have z9 := BZ.cell 9;have bV := BZ.cell 10;have bW := BZ.cell 11;have bX := BZ.cell 12;have bY := BZ.cell 13;have gj := BZ.cell 14;simp only [List.getElem?_cons_zero, List.getElem?_cons_succ] at z0 z1 z2 z3 z4 z5 z6 z7 z8 z9 bV bW bX bY gj;clear BZ;have cx : Hid (Kept (fun b => b = Z) w1 (((((((((((((((w1.setCell ⟨Z, 0, none⟩ (.bool false)).setCell ⟨Z, 1, none⟩ (Q1 0)).setCell ⟨Z, 2, none⟩ (Q1 0)).setCell ⟨Z, 3, none⟩ (Q1 0)).setCell ⟨Z, 4, none⟩ (Q1 0)).setCell ⟨Z, 5, none⟩ (Q1 0)).setCell ⟨Z, 6, none⟩ (.bool false)).setCell ⟨Z, 7, none⟩ (Q4)).setCell ⟨Z, 8, none⟩ (.bool false)).setCell ⟨Z, 9, none⟩ (Q4)).setCell ⟨Z, 10, none⟩ (Q1 0)).setCell ⟨Z, 11, none⟩ (Q1 0)).setCell ⟨Z, 12, none⟩ (Q4)).setCell ⟨Z, 13, none⟩ (Q4)).setCell ⟨Z, 14, none⟩ (Q4))) := (by show Kept _ _ _; (iterate 15 refine kS0 ?_); exact Kept.refl _ _);have jL := hid (aN.out.trans E5.out);clear lE;go_wp2;refine bodyPost_ret (v := .agg #[.bool false, Q1 0, Q1 0, Q1 0, Q1 0, Q1 0, .bool false, Q4, .bool false, Q4, Q1 0, Q1 0, Q4, Q4, Q4]) (by simp [results, Tryz.results6, go_sem, z0, z1, z2, z3, z4, z5, z6, z7, z8, z9, bV, bW, bX, bY, gj]) rfl ⟨⟨false, Pj 0 0 0⟩, rfl, ?_, fun b hb => (Ve hb).elim, Wn _, ?_⟩
  ·rw [kQ.out, if_neg (by rintro ⟨h, _⟩; exact uT.out h)]; rfl
  ·have := kX.out
   first
   | exact jL.out.next cx.out (fun i hi e => by omega)
   | exact jL.out
end Go.Proofs.YtapdfgkbhaoelaaGreatDoor
