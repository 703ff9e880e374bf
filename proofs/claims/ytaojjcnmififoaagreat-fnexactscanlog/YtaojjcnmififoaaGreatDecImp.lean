import Derived.Test.YtaojjcnmififoaaGreatDecPack
import Derived.Test.YtaojjcnmififoaaGreatG27
import Derived.Test.YtaojjcnmififoaaGreatG07
import Derived.Test.YtaojjcnmififoaaGreatG28
namespace Go.Proofs.YtaojjcnmififoaaGreat
set_option maxRecDepth 100000
set_option maxHeartbeats 4000000
set_option linter.unusedVariables false
set_option linter.unusedSimpArgs false
open Go.RowKit
theorem kind_bad {y : StLogRecord} (h : ¬ (1 ≤ y.kind ∧ y.kind ≤ 8)) : recFd y.dat ≠ 0 := fun hz => h (kind_good (show recF y.kind _ _ _ _ _ _ _ _ _ _ _ _ _ = 0 from hz))
theorem tyV_nil {y : StLogRecord} (h : ¬ (1 ≤ y.kind ∧ y.kind ≤ 8)) : tyV y = .nilIface := by
 unfold tyV
 rw [if_neg (by omega), if_neg (by omega), if_neg (by omega), if_neg (by omega), if_neg (by omega), if_neg (by omega), if_neg (by omega), if_neg (by omega)]
theorem own_recK (w : World) : OwnL w (recK 0 0 0).rows :=
 have hB : OwnL w nlB.rows := OwnL.one (Own.nil 0 _ .u8 _)
 have fB : ∀ b, ¬ FootL nlB.rows b := fun b h => by have h := (footL_ints _ _ _ _ _).1 h; simp [nlB, BS.v, Value.ownBlock] at h
 have fF : ∀ (m : Nat) (e : TypeId) (b : Nat), ¬ FootL ((nlF e).rows m) b := fun m e b h => by have h := (FootL_one _ _).1 h; simp [nlF, FR.v, Value.ownBlock] at h
 hB.append (hB.append ((own_nilR 4 _ w).append ((own_nilR 2 _ w).append hB (fun b h => (fF _ _ _ h).elim)) (fun b h => (fF _ _ _ h).elim)) (fun b h => (fB _ h).elim)) (fun b h => (fB _ h).elim)
theorem foot_recK {b : Nat} (h : FootL (recK 0 0 0).rows b) : False := by
 have fB : ∀ b, ¬ FootL nlB.rows b := fun b h => by have h := (footL_ints _ _ _ _ _).1 h; simp [nlB, BS.v, Value.ownBlock] at h
 have fF : ∀ (m : Nat) (e : TypeId) (b : Nat), ¬ FootL ((nlF e).rows m) b := fun m e b h => by have h := (FootL_one _ _).1 h; simp [nlF, FR.v, Value.ownBlock] at h
 rcases (FootL_append _ _ _).1 h with h | h
 ·exact fB _ h
 rcases (FootL_append _ _ _).1 h with h | h
 ·exact fB _ h
 rcases (FootL_append _ _ _).1 h with h | h
 ·exact fF _ _ _ h
 rcases (FootL_append _ _ _).1 h with h | h
 ·exact fF _ _ _ h
 ·exact fB _ h
theorem implDec_any (v : Value) (bs : List Int) (w : World) (hB : IsB bs) (hl : bs.length ≤ 1099511627776) (hv : Rd .u8 w v bs) : Calls Tryz.prog 52 #[v] w fun e w' => ∃ y : StRecordResult, e = .returned y.val ∧ y.dat = decD bs ∧ (∀ b, FootL y.rows b → w.heap.size ≤ b) ∧ OwnL w' y.rows ∧ Same w w' := by
 have HD0 := (show Hid (decD bs = _) from decD_I bs)
 have HK0 := (show Hid (Same w (w.alloc (.cells #[.bool false, .int .i64 0, .int .i64 0, .int .i64 0, .int .i64 0, .int .i64 0, .bool false, .slice none 0 0, .bool false, .slice none 0 0, .int .i64 0, .int .i64 0, .slice none 0 0, .slice none 0 0, .slice none 0 0] 79))) from (Kept.refl _ _).alloc _)
 have HZ0 := (show Hid (Blk (w.alloc (.cells #[.bool false, .int .i64 0, .int .i64 0, .int .i64 0, .int .i64 0, .int .i64 0, .bool false, .slice none 0 0, .bool false, .slice none 0 0, .int .i64 0, .int .i64 0, .slice none 0 0, .slice none 0 0, .slice none 0 0] 79)) w.heap.size 79 [.bool false, .int .i64 0, .int .i64 0, .int .i64 0, .int .i64 0, .int .i64 0, .bool false, .slice none 0 0, .bool false, .slice none 0 0, .int .i64 0, .int .i64 0, .slice none 0 0, .slice none 0 0, .slice none 0 0]) from Blk.newL w [.bool false, .int .i64 0, .int .i64 0, .int .i64 0, .int .i64 0, .int .i64 0, .bool false, .slice none 0 0, .bool false, .slice none 0 0, .int .i64 0, .int .i64 0, .slice none 0 0, .slice none 0 0, .slice none 0 0] 79)
 have HV := hid hv
 clear hv
 go_enter Tryz.func52, Tryz.ntmps52
 go_upto_region 1 with fail
 generalize w.alloc (.cells #[.bool false, .int .i64 0, .int .i64 0, .int .i64 0, .int .i64 0, .int .i64 0, .bool false, .slice none 0 0, .bool false, .slice none 0 0, .int .i64 0, .int .i64 0, .slice none 0 0, .slice none 0 0, .slice none 0 0] 79) = w0 at HK0 HZ0 ⊢
 obtain ⟨Z, hZ⟩ : ∃ Z, w.heap.size = Z := ⟨_, rfl⟩
 rw [hZ] at HZ0 ⊢
 have HZZ := hid hZ
 clear hZ
 go_wp2_with fail
 refine (readRec_any _ bs _ hB hl (HV.out.same HK0.out)).mono ?_
 rintro e w1 ⟨y, rfl, hd, hty, hrd, hk⟩
 have HK1 := hid (HK0.out.trans hk)
 have HZ1 := hid (HZ0.out.same hk)
 have HDY := (show Hid (decD bs = if recFd y.dat = 0 ∧ recBd y.dat = bs then (true, y.dat) else (false, zeroR)) from by unfold Hid; rw [HD0.out, hd])
 have hbd := bnd_of hB hd hrd
 have HIB := (show Hid (y.isB) from isB_of hB hd)
 clear hk HK0 HZ0 HD0 hd
 by_cases hk : 1 ≤ y.kind ∧ y.kind ≤ 8
 ·obtain ⟨T, A, rc, fid, htv, hm, hent, hf, he, hp⟩ := pack_any hty hk w1 hbd hrd
  have HOC := (show Hid (∀ wx, Same w1 wx → _) from fun wx (h : Same w1 wx) => ownRecA_any y wx hbd.1 (hrd.same h))
  have HW := (show Hid (recFd y.dat = 0 → IsB (recBd y.dat)) from fun h => recBd_isB HIB.out h)
  rw [htv]
  obtain ⟨F, hF⟩ : ∃ F, recFd y.dat = F := ⟨_, rfl⟩
  obtain ⟨eb, heb⟩ : ∃ x, recBd y.dat = x := ⟨_, rfl⟩
  rw [hF] at hf he HDY HW
  rw [heb] at he HDY HW
  have HF := hid hf
  have HE := hid he
  have HP := hid hp
  clear hF heb hf he hp hbd hrd hty htv hk
  go_wp2_with fail
  refine (HF.out _ (Kept.refl _ _)).mono ?_
  rintro e w2 ⟨rfl, hk2⟩
  have HK2 := (show Hid (Same w1 w2) from hk2)
  clear hk2
  by_cases hz : F = 0
  ·subst hz
   have HE0 := (show Hid (ECalls (.iface T A) eb w1) from HE.out rfl)
   have HW0 := (show Hid (IsB eb) from HW.out rfl)
   have HDZ := (show Hid (decD bs = if eb = bs then (true, y.dat) else (false, zeroR)) from by have h := HDY.out; simp only [true_and] at h; exact h)
   clear HE HW HDY
   go_wp2_with fail
   refine (HE0.out _ HK2.out).mono ?_
   rintro e w3 ⟨a3, n3, c3, rfl, ho3, hf3, hk3⟩
   have HK3 := hid (HK2.out.trans hk3)
   have HO3 := hid ho3
   generalize Value.slice a3 n3 c3 = V3 at HO3 ⊢
   clear ho3 hf3 hk3
   go_wp2_with fail
   refine (bytesEq_any _ _ eb bs _ HW0.out hB HO3.out.rd (HV.out.same (HK1.out.trans HK3.out))).mono ?_
   rintro e w4 ⟨rfl, hk4⟩
   have HK4 := hid (HK3.out.trans hk4)
   clear hk4
   by_cases he : eb = bs
   ·have hd : decide (eb = bs) = true := decide_eq_true he
    rw [hd]
    have HDE := hid he
    clear he hd
    go_wp2_with fail
    refine (HP.out _ HK4.out).mono ?_
    rintro e w5 ⟨rfl, hk5⟩
    have HK5 := hid (HK4.out.trans hk5)
    clear hk5
    go_wp2_with fail
    refine (HOC.out _ HK5.out).mono ?_
    rintro e w6 ⟨z, rfl, hzd, hzf, hzo, hk6⟩
    have HK6 := hid (HK5.out.trans hk6)
    have HZD := hid hzd
    have HZF := (show Hid (∀ b, FootL z.rows b → w5.heap.size ≤ b) from hzf)
    have HZO := hid hzo
    have hs5 := HK5.out.size
    clear hzd hzf hzo hk6
    dsimp only [StLogRecord.val, StPageRecord.val, BS.v, FR.v]
    have BZ := (show Blk w6 Z 79 [.bool false, .int .i64 0, .int .i64 0, .int .i64 0, .int .i64 0, .int .i64 0, .bool false, .slice none 0 0, .bool false, .slice none 0 0, .int .i64 0, .int .i64 0, .slice none 0 0, .slice none 0 0, .slice none 0 0] from HZ1.out.same HK6.out)
    have fz := BZ.frozen
    have hZ9 := BZ.lt
    have z0 := BZ.cell 0
    have z1 := BZ.cell 1
    have z2 := BZ.cell 2
    have z3 := BZ.cell 3
    have z4 := BZ.cell 4
    have z5 := BZ.cell 5
    have z6 := BZ.cell 6
    have z7 := BZ.cell 7
    have z8 := BZ.cell 8
    have z9 := BZ.cell 9
    have z10 := BZ.cell 10
    have z11 := BZ.cell 11
    have z12 := BZ.cell 12
    have z13 := BZ.cell 13
    have z14 := BZ.cell 14
    simp only [List.getElem?_cons_zero, List.getElem?_cons_succ] at z0 z1 z2 z3 z4 z5 z6 z7 z8 z9 z10 z11 z12 z13 z14
    clear BZ
    have HS9 := (show Hid (Kept (fun b => b = Z) w6 (((((((((((((((w6.setCell ⟨Z, 0, none⟩ (.bool true)).setCell ⟨Z, 1, none⟩ (.int .i64 z.kind)).setCell ⟨Z, 2, none⟩ (.int .i64 z.txn)).setCell ⟨Z, 3, none⟩ (.int .i64 z.prev)).setCell ⟨Z, 4, none⟩ (.int .i64 z.page)).setCell ⟨Z, 5, none⟩ (.int .i64 z.slot)).setCell ⟨Z, 6, none⟩ (.bool z.before.used)).setCell ⟨Z, 7, none⟩ (.slice z.before.data.a z.before.data.bs.length z.before.data.c)).setCell ⟨Z, 8, none⟩ (.bool z.after.used)).setCell ⟨Z, 9, none⟩ (.slice z.after.data.a z.after.data.bs.length z.after.data.c)).setCell ⟨Z, 10, none⟩ (.int .i64 z.uN)).setCell ⟨Z, 11, none⟩ (.int .i64 z.nT)).setCell ⟨Z, 12, none⟩ (.slice z.txns.a z.txns.n z.txns.c)).setCell ⟨Z, 13, none⟩ (.slice z.dirty.a z.dirty.n z.dirty.c)).setCell ⟨Z, 14, none⟩ (.slice z.image.a z.image.bs.length z.image.c))) from (((((((((((((((Kept.refl (fun b => b = Z) w6).setCell (p := ⟨Z, 0, none⟩) (.inr rfl) _).setCell (p := ⟨Z, 1, none⟩) (.inr rfl) _).setCell (p := ⟨Z, 2, none⟩) (.inr rfl) _).setCell (p := ⟨Z, 3, none⟩) (.inr rfl) _).setCell (p := ⟨Z, 4, none⟩) (.inr rfl) _).setCell (p := ⟨Z, 5, none⟩) (.inr rfl) _).setCell (p := ⟨Z, 6, none⟩) (.inr rfl) _).setCell (p := ⟨Z, 7, none⟩) (.inr rfl) _).setCell (p := ⟨Z, 8, none⟩) (.inr rfl) _).setCell (p := ⟨Z, 9, none⟩) (.inr rfl) _).setCell (p := ⟨Z, 10, none⟩) (.inr rfl) _).setCell (p := ⟨Z, 11, none⟩) (.inr rfl) _).setCell (p := ⟨Z, 12, none⟩) (.inr rfl) _).setCell (p := ⟨Z, 13, none⟩) (.inr rfl) _).setCell (p := ⟨Z, 14, none⟩) (.inr rfl) _)
    have HKE := hid (HK1.out.trans HK6.out)
    have hZ1 := HZ1.out.lt
    have HOW := hid (HZO.out.kept HS9.out (fun b hb e => by have := HZF.out b hb; omega))
    have hs1 := HK1.out.size
    clear HZ1
    go_wp2
    refine bodyPost_ret (v := .agg #[.bool true, .int .i64 z.kind, .int .i64 z.txn, .int .i64 z.prev, .int .i64 z.page, .int .i64 z.slot, .bool z.before.used, .slice z.before.data.a z.before.data.bs.length z.before.data.c, .bool z.after.used, .slice z.after.data.a z.after.data.bs.length z.after.data.c, .int .i64 z.uN, .int .i64 z.nT, .slice z.txns.a z.txns.n z.txns.c, .slice z.dirty.a z.dirty.n z.dirty.c, .slice z.image.a z.image.bs.length z.image.c]) (by simp [results, Tryz.results52, go_sem, z0, z1, z2, z3, z4, z5, z6, z7, z8, z9, z10, z11, z12, z13, z14]) rfl ⟨⟨true, z⟩, rfl, ?_, fun b hb => by have := HZF.out b hb; omega, HOW.out, ?_⟩
    ·rw [HDZ.out, if_pos HDE.out, ← HZD.out]; rfl
    ·have := HZZ.out
     exact HKE.out.next HS9.out (fun i hi e => by omega)
   ·have hd : decide (eb = bs) = false := decide_eq_false he
    rw [hd]
    have HDE := hid he
    clear he hd
    have BZ := (show Blk w4 Z 79 [.bool false, .int .i64 0, .int .i64 0, .int .i64 0, .int .i64 0, .int .i64 0, .bool false, .slice none 0 0, .bool false, .slice none 0 0, .int .i64 0, .int .i64 0, .slice none 0 0, .slice none 0 0, .slice none 0 0] from HZ1.out.same HK4.out)
    have fz := BZ.frozen
    have hZ9 := BZ.lt
    have z0 := BZ.cell 0
    have z1 := BZ.cell 1
    have z2 := BZ.cell 2
    have z3 := BZ.cell 3
    have z4 := BZ.cell 4
    have z5 := BZ.cell 5
    have z6 := BZ.cell 6
    have z7 := BZ.cell 7
    have z8 := BZ.cell 8
    have z9 := BZ.cell 9
    have z10 := BZ.cell 10
    have z11 := BZ.cell 11
    have z12 := BZ.cell 12
    have z13 := BZ.cell 13
    have z14 := BZ.cell 14
    simp only [List.getElem?_cons_zero, List.getElem?_cons_succ] at z0 z1 z2 z3 z4 z5 z6 z7 z8 z9 z10 z11 z12 z13 z14
    clear BZ
    have HS9 := (show Hid (Kept (fun b => b = Z) w4 (((((((((((((((w4.setCell ⟨Z, 0, none⟩ (.bool false)).setCell ⟨Z, 1, none⟩ (.int .i64 0)).setCell ⟨Z, 2, none⟩ (.int .i64 0)).setCell ⟨Z, 3, none⟩ (.int .i64 0)).setCell ⟨Z, 4, none⟩ (.int .i64 0)).setCell ⟨Z, 5, none⟩ (.int .i64 0)).setCell ⟨Z, 6, none⟩ (.bool false)).setCell ⟨Z, 7, none⟩ (.slice none 0 0)).setCell ⟨Z, 8, none⟩ (.bool false)).setCell ⟨Z, 9, none⟩ (.slice none 0 0)).setCell ⟨Z, 10, none⟩ (.int .i64 0)).setCell ⟨Z, 11, none⟩ (.int .i64 0)).setCell ⟨Z, 12, none⟩ (.slice none 0 0)).setCell ⟨Z, 13, none⟩ (.slice none 0 0)).setCell ⟨Z, 14, none⟩ (.slice none 0 0))) from (((((((((((((((Kept.refl (fun b => b = Z) w4).setCell (p := ⟨Z, 0, none⟩) (.inr rfl) _).setCell (p := ⟨Z, 1, none⟩) (.inr rfl) _).setCell (p := ⟨Z, 2, none⟩) (.inr rfl) _).setCell (p := ⟨Z, 3, none⟩) (.inr rfl) _).setCell (p := ⟨Z, 4, none⟩) (.inr rfl) _).setCell (p := ⟨Z, 5, none⟩) (.inr rfl) _).setCell (p := ⟨Z, 6, none⟩) (.inr rfl) _).setCell (p := ⟨Z, 7, none⟩) (.inr rfl) _).setCell (p := ⟨Z, 8, none⟩) (.inr rfl) _).setCell (p := ⟨Z, 9, none⟩) (.inr rfl) _).setCell (p := ⟨Z, 10, none⟩) (.inr rfl) _).setCell (p := ⟨Z, 11, none⟩) (.inr rfl) _).setCell (p := ⟨Z, 12, none⟩) (.inr rfl) _).setCell (p := ⟨Z, 13, none⟩) (.inr rfl) _).setCell (p := ⟨Z, 14, none⟩) (.inr rfl) _)
    have HKE := hid (HK1.out.trans HK4.out)
    clear HZ1
    go_wp2
    refine bodyPost_ret (v := .agg #[.bool false, .int .i64 0, .int .i64 0, .int .i64 0, .int .i64 0, .int .i64 0, .bool false, .slice none 0 0, .bool false, .slice none 0 0, .int .i64 0, .int .i64 0, .slice none 0 0, .slice none 0 0, .slice none 0 0]) (by simp [results, Tryz.results52, go_sem, z0, z1, z2, z3, z4, z5, z6, z7, z8, z9, z10, z11, z12, z13, z14]) rfl ⟨⟨false, recK 0 0 0⟩, rfl, ?_, fun b hb => (foot_recK hb).elim, own_recK _, ?_⟩
    ·rw [HDZ.out, if_neg (by exact HDE.out)]; rfl
    ·have := HZZ.out
     first
     | exact HKE.out.next HS9.out (fun i hi e => by omega)
     | exact HKE.out
  ·have hz' : (F != 0) = true := bne_iff_ne.2 hz
   have HNZ := hid hz
   clear hz HE HW
   have BZ := (show Blk w2 Z 79 [.bool false, .int .i64 0, .int .i64 0, .int .i64 0, .int .i64 0, .int .i64 0, .bool false, .slice none 0 0, .bool false, .slice none 0 0, .int .i64 0, .int .i64 0, .slice none 0 0, .slice none 0 0, .slice none 0 0] from HZ1.out.same HK2.out)
   have fz := BZ.frozen
   have hZ9 := BZ.lt
   have z0 := BZ.cell 0
   have z1 := BZ.cell 1
   have z2 := BZ.cell 2
   have z3 := BZ.cell 3
   have z4 := BZ.cell 4
   have z5 := BZ.cell 5
   have z6 := BZ.cell 6
   have z7 := BZ.cell 7
   have z8 := BZ.cell 8
   have z9 := BZ.cell 9
   have z10 := BZ.cell 10
   have z11 := BZ.cell 11
   have z12 := BZ.cell 12
   have z13 := BZ.cell 13
   have z14 := BZ.cell 14
   simp only [List.getElem?_cons_zero, List.getElem?_cons_succ] at z0 z1 z2 z3 z4 z5 z6 z7 z8 z9 z10 z11 z12 z13 z14
   clear BZ
   have HS9 := (show Hid (Kept (fun b => b = Z) w2 (((((((((((((((w2.setCell ⟨Z, 0, none⟩ (.bool false)).setCell ⟨Z, 1, none⟩ (.int .i64 0)).setCell ⟨Z, 2, none⟩ (.int .i64 0)).setCell ⟨Z, 3, none⟩ (.int .i64 0)).setCell ⟨Z, 4, none⟩ (.int .i64 0)).setCell ⟨Z, 5, none⟩ (.int .i64 0)).setCell ⟨Z, 6, none⟩ (.bool false)).setCell ⟨Z, 7, none⟩ (.slice none 0 0)).setCell ⟨Z, 8, none⟩ (.bool false)).setCell ⟨Z, 9, none⟩ (.slice none 0 0)).setCell ⟨Z, 10, none⟩ (.int .i64 0)).setCell ⟨Z, 11, none⟩ (.int .i64 0)).setCell ⟨Z, 12, none⟩ (.slice none 0 0)).setCell ⟨Z, 13, none⟩ (.slice none 0 0)).setCell ⟨Z, 14, none⟩ (.slice none 0 0))) from (((((((((((((((Kept.refl (fun b => b = Z) w2).setCell (p := ⟨Z, 0, none⟩) (.inr rfl) _).setCell (p := ⟨Z, 1, none⟩) (.inr rfl) _).setCell (p := ⟨Z, 2, none⟩) (.inr rfl) _).setCell (p := ⟨Z, 3, none⟩) (.inr rfl) _).setCell (p := ⟨Z, 4, none⟩) (.inr rfl) _).setCell (p := ⟨Z, 5, none⟩) (.inr rfl) _).setCell (p := ⟨Z, 6, none⟩) (.inr rfl) _).setCell (p := ⟨Z, 7, none⟩) (.inr rfl) _).setCell (p := ⟨Z, 8, none⟩) (.inr rfl) _).setCell (p := ⟨Z, 9, none⟩) (.inr rfl) _).setCell (p := ⟨Z, 10, none⟩) (.inr rfl) _).setCell (p := ⟨Z, 11, none⟩) (.inr rfl) _).setCell (p := ⟨Z, 12, none⟩) (.inr rfl) _).setCell (p := ⟨Z, 13, none⟩) (.inr rfl) _).setCell (p := ⟨Z, 14, none⟩) (.inr rfl) _)
   have HKE := hid (HK1.out.trans HK2.out)
   clear HZ1
   go_wp2
   refine bodyPost_ret (v := .agg #[.bool false, .int .i64 0, .int .i64 0, .int .i64 0, .int .i64 0, .int .i64 0, .bool false, .slice none 0 0, .bool false, .slice none 0 0, .int .i64 0, .int .i64 0, .slice none 0 0, .slice none 0 0, .slice none 0 0]) (by simp [results, Tryz.results52, go_sem, z0, z1, z2, z3, z4, z5, z6, z7, z8, z9, z10, z11, z12, z13, z14]) rfl ⟨⟨false, recK 0 0 0⟩, rfl, ?_, fun b hb => (foot_recK hb).elim, own_recK _, ?_⟩
   ·rw [HDY.out, if_neg (by rintro ⟨h, _⟩; exact HNZ.out h)]; rfl
   ·have := HZZ.out
    first
    | exact HKE.out.next HS9.out (fun i hi e => by omega)
    | exact HKE.out
 ·have HNZ := (show Hid (recFd y.dat ≠ 0) from kind_bad hk)
  rw [tyV_nil hk]
  have HKR := (show Hid (Same w1 w1) from Kept.refl _ _)
  clear hk hbd hrd hty
  have BZ := (show Blk w1 Z 79 [.bool false, .int .i64 0, .int .i64 0, .int .i64 0, .int .i64 0, .int .i64 0, .bool false, .slice none 0 0, .bool false, .slice none 0 0, .int .i64 0, .int .i64 0, .slice none 0 0, .slice none 0 0, .slice none 0 0] from HZ1.out.same HKR.out)
  have fz := BZ.frozen
  have hZ9 := BZ.lt
  have z0 := BZ.cell 0
  have z1 := BZ.cell 1
  have z2 := BZ.cell 2
  have z3 := BZ.cell 3
  have z4 := BZ.cell 4
  have z5 := BZ.cell 5
  have z6 := BZ.cell 6
  have z7 := BZ.cell 7
  have z8 := BZ.cell 8
  have z9 := BZ.cell 9
  have z10 := BZ.cell 10
  have z11 := BZ.cell 11
  have z12 := BZ.cell 12
  have z13 := BZ.cell 13
  have z14 := BZ.cell 14
  simp only [List.getElem?_cons_zero, List.getElem?_cons_succ] at z0 z1 z2 z3 z4 z5 z6 z7 z8 z9 z10 z11 z12 z13 z14
  clear BZ
  have HS9 := (show Hid (Kept (fun b => b = Z) w1 (((((((((((((((w1.setCell ⟨Z, 0, none⟩ (.bool false)).setCell ⟨Z, 1, none⟩ (.int .i64 0)).setCell ⟨Z, 2, none⟩ (.int .i64 0)).setCell ⟨Z, 3, none⟩ (.int .i64 0)).setCell ⟨Z, 4, none⟩ (.int .i64 0)).setCell ⟨Z, 5, none⟩ (.int .i64 0)).setCell ⟨Z, 6, none⟩ (.bool false)).setCell ⟨Z, 7, none⟩ (.slice none 0 0)).setCell ⟨Z, 8, none⟩ (.bool false)).setCell ⟨Z, 9, none⟩ (.slice none 0 0)).setCell ⟨Z, 10, none⟩ (.int .i64 0)).setCell ⟨Z, 11, none⟩ (.int .i64 0)).setCell ⟨Z, 12, none⟩ (.slice none 0 0)).setCell ⟨Z, 13, none⟩ (.slice none 0 0)).setCell ⟨Z, 14, none⟩ (.slice none 0 0))) from (((((((((((((((Kept.refl (fun b => b = Z) w1).setCell (p := ⟨Z, 0, none⟩) (.inr rfl) _).setCell (p := ⟨Z, 1, none⟩) (.inr rfl) _).setCell (p := ⟨Z, 2, none⟩) (.inr rfl) _).setCell (p := ⟨Z, 3, none⟩) (.inr rfl) _).setCell (p := ⟨Z, 4, none⟩) (.inr rfl) _).setCell (p := ⟨Z, 5, none⟩) (.inr rfl) _).setCell (p := ⟨Z, 6, none⟩) (.inr rfl) _).setCell (p := ⟨Z, 7, none⟩) (.inr rfl) _).setCell (p := ⟨Z, 8, none⟩) (.inr rfl) _).setCell (p := ⟨Z, 9, none⟩) (.inr rfl) _).setCell (p := ⟨Z, 10, none⟩) (.inr rfl) _).setCell (p := ⟨Z, 11, none⟩) (.inr rfl) _).setCell (p := ⟨Z, 12, none⟩) (.inr rfl) _).setCell (p := ⟨Z, 13, none⟩) (.inr rfl) _).setCell (p := ⟨Z, 14, none⟩) (.inr rfl) _)
  have HKE := hid (HK1.out.trans HKR.out)
  clear HZ1
  go_wp2
  refine bodyPost_ret (v := .agg #[.bool false, .int .i64 0, .int .i64 0, .int .i64 0, .int .i64 0, .int .i64 0, .bool false, .slice none 0 0, .bool false, .slice none 0 0, .int .i64 0, .int .i64 0, .slice none 0 0, .slice none 0 0, .slice none 0 0]) (by simp [results, Tryz.results52, go_sem, z0, z1, z2, z3, z4, z5, z6, z7, z8, z9, z10, z11, z12, z13, z14]) rfl ⟨⟨false, recK 0 0 0⟩, rfl, ?_, fun b hb => (foot_recK hb).elim, own_recK _, ?_⟩
  ·rw [HDY.out, if_neg (by rintro ⟨h, _⟩; exact HNZ.out h)]; rfl
  ·have := HZZ.out
   first
   | exact HKE.out.next HS9.out (fun i hi e => by omega)
   | exact HKE.out
end Go.Proofs.YtaojjcnmififoaaGreat
