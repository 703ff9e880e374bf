import Derived.Test.YtaojjcnmififoaaGreatDecPack
import Derived.Test.YtaojjcnmififoaaGreatG27
import Derived.Test.YtaojjcnmififoaaGreatG07
import Derived.Test.YtaojjcnmififoaaGreatG28
namespace Go.Proofs.YtaojjcnmififoaaGreat
set_option maxRecDepth 100000
set_option maxHeartbeats 4000000
set_option linter.unusedVariables false
set_option linter.unusedSimpArgs false
open Go.RowKit
theorem jdc {y : StLogRecord} (h : ¬ (1 ≤ y.kind ∧ y.kind ≤ 8)) : RJ y.dat ≠ 0 := fun hz => h (Xm (show RV y.kind _ _ _ _ _ _ _ _ _ _ _ _ _ = 0 from hz))
theorem jd7 {y : StLogRecord} (h : ¬ (1 ≤ y.kind ∧ y.kind ≤ 8)) : tyV y = .nilIface := by
 unfold tyV
 rw [if_neg (by omega), if_neg (by omega), if_neg (by omega), if_neg (by omega), if_neg (by omega), if_neg (by omega), if_neg (by omega), if_neg (by omega)]
theorem XZ (w : World) : OwnL w (Ro 0 0 0).rows :=
 have hB : OwnL w nlB.rows := OwnL.one (Own.nil 0 _ .u8 _)
 have fB : ∀ b, ¬ Rf nlB.rows b := fun b h => by have h := (RF _ _ _ _ _).1 h; simp [nlB, BS.v, Value.ownBlock] at h
 have fF : ∀ (m : Nat) (e : TypeId) (b : Nat), ¬ Rf ((nlF e).rows m) b := fun m e b h => by have h := (Rw _ _).1 h; simp [nlF, FR.v, Value.ownBlock] at h
 hB.append (hB.append ((Uc 4 _ w).append ((Uc 2 _ w).append hB (fun b h => (fF _ _ _ h).elim)) (fun b h => (fF _ _ _ h).elim)) (fun b h => (fB _ h).elim)) (fun b h => (fB _ h).elim)
theorem Xc {b : Nat} (h : Rf (Ro 0 0 0).rows b) : False := by
 have fB : ∀ b, ¬ Rf nlB.rows b := fun b h => by have h := (RF _ _ _ _ _).1 h; simp [nlB, BS.v, Value.ownBlock] at h
 have fF : ∀ (m : Nat) (e : TypeId) (b : Nat), ¬ Rf ((nlF e).rows m) b := fun m e b h => by have h := (Rw _ _).1 h; simp [nlF, FR.v, Value.ownBlock] at h
 rcases (Q7 _ _ _).1 h with h | h
 ·exact fB _ h
 rcases (Q7 _ _ _).1 h with h | h
 ·exact fB _ h
 rcases (Q7 _ _ _).1 h with h | h
 ·exact fF _ _ _ h
 rcases (Q7 _ _ _).1 h with h | h
 ·exact fF _ _ _ h
 ·exact fB _ h
theorem jax (v : Value) (bs : List Int) (w : World) (hB : IsB bs) (hl : bs.length ≤ 1099511627776) (hv : Rd .u8 w v bs) : Calls Tryz.prog 52 #[v] w fun e w' => ∃ y : StRecordResult, e = .returned y.val ∧ y.dat = VG bs ∧ (∀ b, Rf y.rows b → w.heap.size ≤ b) ∧ OwnL w' y.rows ∧ Same w w' := by
 have xM := (show Hid (VG bs = _) from jfu bs)
 have aJ := (show Hid (Same w (w.alloc (.cells #[.bool false, .int .i64 0, .int .i64 0, .int .i64 0, .int .i64 0, .int .i64 0, .bool false, .slice none 0 0, .bool false, .slice none 0 0, .int .i64 0, .int .i64 0, .slice none 0 0, .slice none 0 0, .slice none 0 0] 79))) from kZ0.alloc _)
 have eo := (show Hid (Blk (w.alloc (.cells #[.bool false, .int .i64 0, .int .i64 0, .int .i64 0, .int .i64 0, .int .i64 0, .bool false, .slice none 0 0, .bool false, .slice none 0 0, .int .i64 0, .int .i64 0, .slice none 0 0, .slice none 0 0, .slice none 0 0] 79)) w.heap.size 79 [.bool false, .int .i64 0, .int .i64 0, .int .i64 0, .int .i64 0, .int .i64 0, .bool false, .slice none 0 0, .bool false, .slice none 0 0, .int .i64 0, .int .i64 0, .slice none 0 0, .slice none 0 0, .slice none 0 0]) from Blk.newL w [.bool false, .int .i64 0, .int .i64 0, .int .i64 0, .int .i64 0, .int .i64 0, .bool false, .slice none 0 0, .bool false, .slice none 0 0, .int .i64 0, .int .i64 0, .slice none 0 0, .slice none 0 0, .slice none 0 0] 79)
 have HV := hid hv
 clear hv
 go_enter Tryz.func52, Tryz.ntmps52
 go_upto_region 1 with fail
 generalize w.alloc (.cells #[.bool false, .int .i64 0, .int .i64 0, .int .i64 0, .int .i64 0, .int .i64 0, .bool false, .slice none 0 0, .bool false, .slice none 0 0, .int .i64 0, .int .i64 0, .slice none 0 0, .slice none 0 0, .slice none 0 0] 79) = w0 at aJ eo ⊢
 obtain ⟨Z, hZ⟩ : ∃ Z, w.heap.size = Z := ⟨_, rfl⟩
 rw [hZ] at eo ⊢
 have iY := hid hZ
 clear hZ
 go_wp2_with fail
 refine (jbk _ bs _ hB hl (HV.out.same aJ.out)).mono ?_
 rintro e w1 ⟨y, rfl, hd, Ck, fw, hk⟩
 have aM := hid (aJ.out.trans hk)
 have ik := hid (eo.out.same hk)
 have m2 := (show Hid (VG bs = if RJ y.dat = 0 ∧ RD y.dat = bs then (true, y.dat) else (false, V6)) from by unfold Hid; rw [xM.out, hd])
 have Bw := je0 hB hd fw
 have NL := (show Hid (y.isB) from jeZ hB hd)
 clear hk aJ eo xM hd
 by_cases hk : 1 ≤ y.kind ∧ y.kind ≤ 8
 ·obtain ⟨T, A, rc, vv, Iu, hm, MS, hf, he, hp⟩ := jde Ck hk w1 Bw fw
  have xN := (show Hid (∀ wx, Same w1 wx → _) from fun wx (h : Same w1 wx) => jbl y wx Bw.1 (fw.same h))
  have HW := (show Hid (RJ y.dat = 0 → IsB (RD y.dat)) from fun h => ZG NL.out h)
  rw [Iu]
  obtain ⟨F, hF⟩ : ∃ F, RJ y.dat = F := ⟨_, rfl⟩
  obtain ⟨eb, wo⟩ : ∃ x, RD y.dat = x := ⟨_, rfl⟩
  rw [hF] at hf he m2 HW
  rw [wo] at he m2 HW
  have HF := hid hf
  have HE := hid he
  have HP := hid hp
  clear hF wo hf he hp Bw fw Ck Iu hk
  go_wp2_with fail
  refine (HF.out _ kZ0).mono ?_
  rintro e w2 ⟨rfl, aN⟩
  have aY := (show Hid (Same w1 w2) from aN)
  clear aN
  by_cases hz : F = 0
  ·subst hz
   have MZ := (show Hid (jdd (.iface T A) eb w1) from HE.out rfl)
   have wh := (show Hid (IsB eb) from HW.out rfl)
   have yV := (show Hid (VG bs = if eb = bs then (true, y.dat) else (false, V6)) from by have h := m2.out; simp only [true_and] at h; exact h)
   clear HE HW m2
   go_wp2_with fail
   refine (MZ.out _ aY.out).mono ?_
   rintro e w3 ⟨a3, n3, c3, rfl, tm, Cz, fq⟩
   have dt := hid (aY.out.trans fq)
   have fy := hid tm
   generalize Value.slice a3 n3 c3 = V3 at fy ⊢
   clear tm Cz fq
   go_wp2_with fail
   refine (XA _ _ eb bs _ wh.out hB fy.out.rd (HV.out.same (aM.out.trans dt.out))).mono ?_
   rintro e w4 ⟨rfl, iF⟩
   have cu := hid (dt.out.trans iF)
   clear iF
   by_cases he : eb = bs
   ·have hd : decide (eb = bs) = true := decide_eq_true he
    rw [hd]
    have vP := hid he
    clear he hd
    go_wp2_with fail
    refine (HP.out _ cu.out).mono ?_
    rintro e w5 ⟨rfl, eA⟩
    have dp := hid (cu.out.trans eA)
    clear eA
    go_wp2_with fail
    refine (xN.out _ dp.out).mono ?_
    rintro e w6 ⟨z, rfl, J7, JA, H5, fN⟩
    have eh := hid (dp.out.trans fN)
    have MN := hid J7
    have Jy := (show Hid (∀ b, Rf z.rows b → w5.heap.size ≤ b) from JA)
    have M6 := hid H5
    have KP := dp.out.size
    clear J7 JA H5 fN
    dsimp only [StLogRecord.val, StPageRecord.val, BS.v, FR.v]
    have BZ := (show Blk w6 Z 79 [.bool false, .int .i64 0, .int .i64 0, .int .i64 0, .int .i64 0, .int .i64 0, .bool false, .slice none 0 0, .bool false, .slice none 0 0, .int .i64 0, .int .i64 0, .slice none 0 0, .slice none 0 0, .slice none 0 0] from ik.out.same eh.out)
    have fz := BZ.frozen
    have ru := BZ.lt
    have z0 := BZ.cell 0
    have z1 := BZ.cell 1
    have z2 := BZ.cell 2
    have z3 := BZ.cell 3
    have z4 := BZ.cell 4
    have z5 := BZ.cell 5
    have z6 := BZ.cell 6
    have z7 := BZ.cell 7
    have z8 := BZ.cell 8
    have z9 := BZ.cell 9
    have ip := BZ.cell 10
    have iw := BZ.cell 11
    have ir := BZ.cell 12
    have gY := BZ.cell 13
    have iU := BZ.cell 14
    simp only [List.getElem?_cons_zero, List.getElem?_cons_succ] at z0 z1 z2 z3 z4 z5 z6 z7 z8 z9 ip iw ir gY iU
    clear BZ
    have dQ := (show Hid (Kept (fun b => b = Z) w6 (((((((((((((((w6.setCell ⟨Z, 0, none⟩ (.bool true)).setCell ⟨Z, 1, none⟩ (.int .i64 z.kind)).setCell ⟨Z, 2, none⟩ (.int .i64 z.txn)).setCell ⟨Z, 3, none⟩ (.int .i64 z.prev)).setCell ⟨Z, 4, none⟩ (.int .i64 z.page)).setCell ⟨Z, 5, none⟩ (.int .i64 z.slot)).setCell ⟨Z, 6, none⟩ (.bool z.before.used)).setCell ⟨Z, 7, none⟩ (.slice z.before.data.a z.before.data.bs.length z.before.data.c)).setCell ⟨Z, 8, none⟩ (.bool z.after.used)).setCell ⟨Z, 9, none⟩ (.slice z.after.data.a z.after.data.bs.length z.after.data.c)).setCell ⟨Z, 10, none⟩ (.int .i64 z.uN)).setCell ⟨Z, 11, none⟩ (.int .i64 z.nT)).setCell ⟨Z, 12, none⟩ (.slice z.txns.a z.txns.n z.txns.c)).setCell ⟨Z, 13, none⟩ (.slice z.dirty.a z.dirty.n z.dirty.c)).setCell ⟨Z, 14, none⟩ (.slice z.image.a z.image.bs.length z.image.c))) from (((((((((((((((Kept.refl (fun b => b = Z) w6).setCell (p := ⟨Z, 0, none⟩) (.inr rfl) _).setCell (p := ⟨Z, 1, none⟩) (.inr rfl) _).setCell (p := ⟨Z, 2, none⟩) (.inr rfl) _).setCell (p := ⟨Z, 3, none⟩) (.inr rfl) _).setCell (p := ⟨Z, 4, none⟩) (.inr rfl) _).setCell (p := ⟨Z, 5, none⟩) (.inr rfl) _).setCell (p := ⟨Z, 6, none⟩) (.inr rfl) _).setCell (p := ⟨Z, 7, none⟩) (.inr rfl) _).setCell (p := ⟨Z, 8, none⟩) (.inr rfl) _).setCell (p := ⟨Z, 9, none⟩) (.inr rfl) _).setCell (p := ⟨Z, 10, none⟩) (.inr rfl) _).setCell (p := ⟨Z, 11, none⟩) (.inr rfl) _).setCell (p := ⟨Z, 12, none⟩) (.inr rfl) _).setCell (p := ⟨Z, 13, none⟩) (.inr rfl) _).setCell (p := ⟨Z, 14, none⟩) (.inr rfl) _)
    have pM := hid (aM.out.trans eh.out)
    have Px := ik.out.lt
    have Ee := hid (M6.out.kept dQ.out (fun b hb e => by have := Jy.out b hb; omega))
    have lv := aM.out.size
    clear ik
    go_wp2
    refine bodyPost_ret (v := .agg #[.bool true, .int .i64 z.kind, .int .i64 z.txn, .int .i64 z.prev, .int .i64 z.page, .int .i64 z.slot, .bool z.before.used, .slice z.before.data.a z.before.data.bs.length z.before.data.c, .bool z.after.used, .slice z.after.data.a z.after.data.bs.length z.after.data.c, .int .i64 z.uN, .int .i64 z.nT, .slice z.txns.a z.txns.n z.txns.c, .slice z.dirty.a z.dirty.n z.dirty.c, .slice z.image.a z.image.bs.length z.image.c]) (by simp [results, Tryz.results52, go_sem, z0, z1, z2, z3, z4, z5, z6, z7, z8, z9, ip, iw, ir, gY, iU]) rfl ⟨⟨true, z⟩, rfl, ?_, fun b hb => by have := Jy.out b hb; omega, Ee.out, ?_⟩
    ·rw [yV.out, if_pos vP.out, ← MN.out]; rfl
    ·have := iY.out
     exact pM.out.next dQ.out (fun i hi e => by omega)
   ·have hd : decide (eb = bs) = false := decide_eq_false he
    rw [hd]
    have vP := hid he
    clear he hd
    have BZ := (show Blk w4 Z 79 [.bool false, .int .i64 0, .int .i64 0, .int .i64 0, .int .i64 0, .int .i64 0, .bool false, .slice none 0 0, .bool false, .slice none 0 0, .int .i64 0, .int .i64 0, .slice none 0 0, .slice none 0 0, .slice none 0 0] from ik.out.same cu.out)
    have fz := BZ.frozen
    have ru := BZ.lt
    have z0 := BZ.cell 0
    have z1 := BZ.cell 1
    have z2 := BZ.cell 2
    have z3 := BZ.cell 3
    have z4 := BZ.cell 4
    have z5 := BZ.cell 5
    have z6 := BZ.cell 6
    have z7 := BZ.cell 7
    have z8 := BZ.cell 8
    have z9 := BZ.cell 9
    have ip := BZ.cell 10
    have iw := BZ.cell 11
    have ir := BZ.cell 12
    have gY := BZ.cell 13
    have iU := BZ.cell 14
    simp only [List.getElem?_cons_zero, List.getElem?_cons_succ] at z0 z1 z2 z3 z4 z5 z6 z7 z8 z9 ip iw ir gY iU
    clear BZ
    have dQ := (show Hid (Kept (fun b => b = Z) w4 (((((((((((((((w4.setCell ⟨Z, 0, none⟩ (.bool false)).setCell ⟨Z, 1, none⟩ (.int .i64 0)).setCell ⟨Z, 2, none⟩ (.int .i64 0)).setCell ⟨Z, 3, none⟩ (.int .i64 0)).setCell ⟨Z, 4, none⟩ (.int .i64 0)).setCell ⟨Z, 5, none⟩ (.int .i64 0)).setCell ⟨Z, 6, none⟩ (.bool false)).setCell ⟨Z, 7, none⟩ (.slice none 0 0)).setCell ⟨Z, 8, none⟩ (.bool false)).setCell ⟨Z, 9, none⟩ (.slice none 0 0)).setCell ⟨Z, 10, none⟩ (.int .i64 0)).setCell ⟨Z, 11, none⟩ (.int .i64 0)).setCell ⟨Z, 12, none⟩ (.slice none 0 0)).setCell ⟨Z, 13, none⟩ (.slice none 0 0)).setCell ⟨Z, 14, none⟩ (.slice none 0 0))) from (((((((((((((((Kept.refl (fun b => b = Z) w4).setCell (p := ⟨Z, 0, none⟩) (.inr rfl) _).setCell (p := ⟨Z, 1, none⟩) (.inr rfl) _).setCell (p := ⟨Z, 2, none⟩) (.inr rfl) _).setCell (p := ⟨Z, 3, none⟩) (.inr rfl) _).setCell (p := ⟨Z, 4, none⟩) (.inr rfl) _).setCell (p := ⟨Z, 5, none⟩) (.inr rfl) _).setCell (p := ⟨Z, 6, none⟩) (.inr rfl) _).setCell (p := ⟨Z, 7, none⟩) (.inr rfl) _).setCell (p := ⟨Z, 8, none⟩) (.inr rfl) _).setCell (p := ⟨Z, 9, none⟩) (.inr rfl) _).setCell (p := ⟨Z, 10, none⟩) (.inr rfl) _).setCell (p := ⟨Z, 11, none⟩) (.inr rfl) _).setCell (p := ⟨Z, 12, none⟩) (.inr rfl) _).setCell (p := ⟨Z, 13, none⟩) (.inr rfl) _).setCell (p := ⟨Z, 14, none⟩) (.inr rfl) _)
    have pM := hid (aM.out.trans cu.out)
    clear ik
    go_wp2
    refine bodyPost_ret (v := .agg #[.bool false, .int .i64 0, .int .i64 0, .int .i64 0, .int .i64 0, .int .i64 0, .bool false, .slice none 0 0, .bool false, .slice none 0 0, .int .i64 0, .int .i64 0, .slice none 0 0, .slice none 0 0, .slice none 0 0]) (by simp [results, Tryz.results52, go_sem, z0, z1, z2, z3, z4, z5, z6, z7, z8, z9, ip, iw, ir, gY, iU]) rfl ⟨⟨false, Ro 0 0 0⟩, rfl, ?_, fun b hb => (Xc hb).elim, XZ _, ?_⟩
    ·rw [yV.out, if_neg (by exact vP.out)]; rfl
    ·have := iY.out
     first
     | exact pM.out.next dQ.out (fun i hi e => by omega)
     | exact pM.out
  ·have FO : (F != 0) = true := bne_iff_ne.2 hz
   have xG := hid hz
   clear hz HE HW
   have BZ := (show Blk w2 Z 79 [.bool false, .int .i64 0, .int .i64 0, .int .i64 0, .int .i64 0, .int .i64 0, .bool false, .slice none 0 0, .bool false, .slice none 0 0, .int .i64 0, .int .i64 0, .slice none 0 0, .slice none 0 0, .slice none 0 0] from ik.out.same aY.out)
   have fz := BZ.frozen
   have ru := BZ.lt
   have z0 := BZ.cell 0
   have z1 := BZ.cell 1
   have z2 := BZ.cell 2
   have z3 := BZ.cell 3
   have z4 := BZ.cell 4
   have z5 := BZ.cell 5
   have z6 := BZ.cell 6
   have z7 := BZ.cell 7
   have z8 := BZ.cell 8
   have z9 := BZ.cell 9
   have ip := BZ.cell 10
   have iw := BZ.cell 11
   have ir := BZ.cell 12
   have gY := BZ.cell 13
   have iU := BZ.cell 14
   simp only [List.getElem?_cons_zero, List.getElem?_cons_succ] at z0 z1 z2 z3 z4 z5 z6 z7 z8 z9 ip iw ir gY iU
   clear BZ
   have dQ := (show Hid (Kept (fun b => b = Z) w2 (((((((((((((((w2.setCell ⟨Z, 0, none⟩ (.bool false)).setCell ⟨Z, 1, none⟩ (.int .i64 0)).setCell ⟨Z, 2, none⟩ (.int .i64 0)).setCell ⟨Z, 3, none⟩ (.int .i64 0)).setCell ⟨Z, 4, none⟩ (.int .i64 0)).setCell ⟨Z, 5, none⟩ (.int .i64 0)).setCell ⟨Z, 6, none⟩ (.bool false)).setCell ⟨Z, 7, none⟩ (.slice none 0 0)).setCell ⟨Z, 8, none⟩ (.bool false)).setCell ⟨Z, 9, none⟩ (.slice none 0 0)).setCell ⟨Z, 10, none⟩ (.int .i64 0)).setCell ⟨Z, 11, none⟩ (.int .i64 0)).setCell ⟨Z, 12, none⟩ (.slice none 0 0)).setCell ⟨Z, 13, none⟩ (.slice none 0 0)).setCell ⟨Z, 14, none⟩ (.slice none 0 0))) from (((((((((((((((Kept.refl (fun b => b = Z) w2).setCell (p := ⟨Z, 0, none⟩) (.inr rfl) _).setCell (p := ⟨Z, 1, none⟩) (.inr rfl) _).setCell (p := ⟨Z, 2, none⟩) (.inr rfl) _).setCell (p := ⟨Z, 3, none⟩) (.inr rfl) _).setCell (p := ⟨Z, 4, none⟩) (.inr rfl) _).setCell (p := ⟨Z, 5, none⟩) (.inr rfl) _).setCell (p := ⟨Z, 6, none⟩) (.inr rfl) _).setCell (p := ⟨Z, 7, none⟩) (.inr rfl) _).setCell (p := ⟨Z, 8, none⟩) (.inr rfl) _).setCell (p := ⟨Z, 9, none⟩) (.inr rfl) _).setCell (p := ⟨Z, 10, none⟩) (.inr rfl) _).setCell (p := ⟨Z, 11, none⟩) (.inr rfl) _).setCell (p := ⟨Z, 12, none⟩) (.inr rfl) _).setCell (p := ⟨Z, 13, none⟩) (.inr rfl) _).setCell (p := ⟨Z, 14, none⟩) (.inr rfl) _)
   have pM := hid (aM.out.trans aY.out)
   clear ik
   go_wp2
   refine bodyPost_ret (v := .agg #[.bool false, .int .i64 0, .int .i64 0, .int .i64 0, .int .i64 0, .int .i64 0, .bool false, .slice none 0 0, .bool false, .slice none 0 0, .int .i64 0, .int .i64 0, .slice none 0 0, .slice none 0 0, .slice none 0 0]) (by simp [results, Tryz.results52, go_sem, z0, z1, z2, z3, z4, z5, z6, z7, z8, z9, ip, iw, ir, gY, iU]) rfl ⟨⟨false, Ro 0 0 0⟩, rfl, ?_, fun b hb => (Xc hb).elim, XZ _, ?_⟩
   ·rw [m2.out, if_neg (by rintro ⟨h, _⟩; exact xG.out h)]; rfl
   ·have := iY.out
    first
    | exact pM.out.next dQ.out (fun i hi e => by omega)
    | exact pM.out
 ·have xG := (show Hid (RJ y.dat ≠ 0) from jdc hk)
  rw [jd7 hk]
  have vt := (show Hid (Same w1 w1) from kZ0)
  clear hk Bw fw Ck
  have BZ := (show Blk w1 Z 79 [.bool false, .int .i64 0, .int .i64 0, .int .i64 0, .int .i64 0, .int .i64 0, .bool false, .slice none 0 0, .bool false, .slice none 0 0, .int .i64 0, .int .i64 0, .slice none 0 0, .slice none 0 0, .slice none 0 0] from ik.out.same vt.out)
  have fz := BZ.frozen
  have ru := BZ.lt
  have z0 := BZ.cell 0
  have z1 := BZ.cell 1
  have z2 := BZ.cell 2
  have z3 := BZ.cell 3
  have z4 := BZ.cell 4
  have z5 := BZ.cell 5
  have z6 := BZ.cell 6
  have z7 := BZ.cell 7
  have z8 := BZ.cell 8
  have z9 := BZ.cell 9
  have ip := BZ.cell 10
  have iw := BZ.cell 11
  have ir := BZ.cell 12
  have gY := BZ.cell 13
  have iU := BZ.cell 14
  simp only [List.getElem?_cons_zero, List.getElem?_cons_succ] at z0 z1 z2 z3 z4 z5 z6 z7 z8 z9 ip iw ir gY iU
  clear BZ
  have dQ := (show Hid (Kept (fun b => b = Z) w1 (((((((((((((((w1.setCell ⟨Z, 0, none⟩ (.bool false)).setCell ⟨Z, 1, none⟩ (.int .i64 0)).setCell ⟨Z, 2, none⟩ (.int .i64 0)).setCell ⟨Z, 3, none⟩ (.int .i64 0)).setCell ⟨Z, 4, none⟩ (.int .i64 0)).setCell ⟨Z, 5, none⟩ (.int .i64 0)).setCell ⟨Z, 6, none⟩ (.bool false)).setCell ⟨Z, 7, none⟩ (.slice none 0 0)).setCell ⟨Z, 8, none⟩ (.bool false)).setCell ⟨Z, 9, none⟩ (.slice none 0 0)).setCell ⟨Z, 10, none⟩ (.int .i64 0)).setCell ⟨Z, 11, none⟩ (.int .i64 0)).setCell ⟨Z, 12, none⟩ (.slice none 0 0)).setCell ⟨Z, 13, none⟩ (.slice none 0 0)).setCell ⟨Z, 14, none⟩ (.slice none 0 0))) from (((((((((((((((Kept.refl (fun b => b = Z) w1).setCell (p := ⟨Z, 0, none⟩) (.inr rfl) _).setCell (p := ⟨Z, 1, none⟩) (.inr rfl) _).setCell (p := ⟨Z, 2, none⟩) (.inr rfl) _).setCell (p := ⟨Z, 3, none⟩) (.inr rfl) _).setCell (p := ⟨Z, 4, none⟩) (.inr rfl) _).setCell (p := ⟨Z, 5, none⟩) (.inr rfl) _).setCell (p := ⟨Z, 6, none⟩) (.inr rfl) _).setCell (p := ⟨Z, 7, none⟩) (.inr rfl) _).setCell (p := ⟨Z, 8, none⟩) (.inr rfl) _).setCell (p := ⟨Z, 9, none⟩) (.inr rfl) _).setCell (p := ⟨Z, 10, none⟩) (.inr rfl) _).setCell (p := ⟨Z, 11, none⟩) (.inr rfl) _).setCell (p := ⟨Z, 12, none⟩) (.inr rfl) _).setCell (p := ⟨Z, 13, none⟩) (.inr rfl) _).setCell (p := ⟨Z, 14, none⟩) (.inr rfl) _)
  have pM := hid (aM.out.trans vt.out)
  clear ik
  go_wp2
  refine bodyPost_ret (v := .agg #[.bool false, .int .i64 0, .int .i64 0, .int .i64 0, .int .i64 0, .int .i64 0, .bool false, .slice none 0 0, .bool false, .slice none 0 0, .int .i64 0, .int .i64 0, .slice none 0 0, .slice none 0 0, .slice none 0 0]) (by simp [results, Tryz.results52, go_sem, z0, z1, z2, z3, z4, z5, z6, z7, z8, z9, ip, iw, ir, gY, iU]) rfl ⟨⟨false, Ro 0 0 0⟩, rfl, ?_, fun b hb => (Xc hb).elim, XZ _, ?_⟩
  ·rw [m2.out, if_neg (by rintro ⟨h, _⟩; exact xG.out h)]; rfl
  ·have := iY.out
   first
   | exact pM.out.next dQ.out (fun i hi e => by omega)
   | exact pM.out
end Go.Proofs.YtaojjcnmififoaaGreat
