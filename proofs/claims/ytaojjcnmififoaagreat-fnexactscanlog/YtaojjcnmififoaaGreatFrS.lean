import Derived.Test.YtaojjcnmififoaaGreatDecS
namespace Go.Proofs.YtaojjcnmififoaaGreat
set_option maxRecDepth 100000
set_option maxHeartbeats 8000000
set_option linter.unusedVariables false
set_option linter.unusedSimpArgs false
open Go.RowKit
theorem jbB (v : Value) (bs : List Int) (lsn least most : Int) (w : World) (hB : IsB bs) (CV : IsI lsn) (hl : bs.length ≤ 1099511627776) (hv : Rd .u8 w v bs) : Calls Tryz.prog 18 #[v, .int .i64 lsn, .int .i64 least, .int .i64 most] w fun e w' => ∃ y : StFrameResult, e = .returned y.val ∧ y.dat = RP bs lsn least most ∧ (∀ b, Rf y.rows b → w.heap.size ≤ b) ∧ OwnL w' y.rows ∧ Same w w' := by
 have aJ := (show Hid (Same w (w.alloc (.cells #[.int .i64 0, .int .i64 0, .int .i64 0, .int .i64 0, .int .i64 0, .int .i64 0, .int .i64 0, .int .i64 0, .bool false, .slice none 0 0, .bool false, .slice none 0 0, .int .i64 0, .int .i64 0, .slice none 0 0, .slice none 0 0, .slice none 0 0] 52))) from kZ0.alloc _)
 have eo := (show Hid (Blk (w.alloc (.cells #[.int .i64 0, .int .i64 0, .int .i64 0, .int .i64 0, .int .i64 0, .int .i64 0, .int .i64 0, .int .i64 0, .bool false, .slice none 0 0, .bool false, .slice none 0 0, .int .i64 0, .int .i64 0, .slice none 0 0, .slice none 0 0, .slice none 0 0] 52)) w.heap.size 52 [.int .i64 0, .int .i64 0, .int .i64 0, .int .i64 0, .int .i64 0, .int .i64 0, .int .i64 0, .int .i64 0, .bool false, .slice none 0 0, .bool false, .slice none 0 0, .int .i64 0, .int .i64 0, .slice none 0 0, .slice none 0 0, .slice none 0 0]) from Blk.newL w [.int .i64 0, .int .i64 0, .int .i64 0, .int .i64 0, .int .i64 0, .int .i64 0, .int .i64 0, .int .i64 0, .bool false, .slice none 0 0, .bool false, .slice none 0 0, .int .i64 0, .int .i64 0, .slice none 0 0, .slice none 0 0, .slice none 0 0] 52)
 have HV := hid hv
 obtain ⟨va, vc, rfl⟩ := hv.form
 clear hv
 go_enter Tryz.func18, Tryz.ntmps18
 go_upto_region 1 with fail
 generalize w.alloc (.cells #[.int .i64 0, .int .i64 0, .int .i64 0, .int .i64 0, .int .i64 0, .int .i64 0, .int .i64 0, .int .i64 0, .bool false, .slice none 0 0, .bool false, .slice none 0 0, .int .i64 0, .int .i64 0, .slice none 0 0, .slice none 0 0, .slice none 0 0] 52) = w0 at aJ eo ⊢
 obtain ⟨Z, hZ⟩ : ∃ Z, w.heap.size = Z := ⟨_, rfl⟩
 rw [hZ] at eo ⊢
 have iY := hid hZ
 have vt := (show Hid (Same w0 w0) from kZ0)
 have O3 := aJ.out.size
 have Ky := eo.out.lt
 clear hZ
 by_cases tJ : bs.length < 20
 ·have D3 : (bs.length : Int) < 20 := by omega
  have iV := hid ((eo.out.same vt.out).there 0 17 (by decide))
  have eG := (show Hid (Blk (w0.setCells Z 0 (cZ 1)) Z 52 (cZ 1)) from TG (eo.out.same vt.out) (cZ 1) rfl)
  have dQ := (show Hid (Same w (w0.setCells Z 0 (cZ 1))) from Kept.setCells (.inl (Nat.le_of_eq iY.out)) _ _ (aJ.out.trans vt.out))
  have eJ := (show Hid (RP bs lsn least most = S9 1) from by unfold Hid RP; rw [if_neg (by unfold Ve; omega)])
  go_upto_region 2 with fail
  refine Vf 15 52 _ _ Z (cZ 1).toArray rfl rfl rfl rfl rfl rfl (fun wx => by kernel_rfl) rfl rfl iV.out infoFr (by simp [cZ, Value.oneCell']) ?_
  generalize w0.setCells Z 0 (cZ 1).toArray.toList = W9 at eG dQ ⊢
  go_wp2
  refine bodyPost_ret (v := .agg (cZ 1).toArray) ?_ rfl ?_
  ·exact VU Tryz.results18 rfl eG.out.rangeAll Tryz.underlying52 rfl infoFr
  ·exact ⟨⟨1, 0, 0, recZ⟩, rfl, eJ.out.symm, fun b hb => (Sr hb).elim, SS _, dQ.out⟩
 have yy := hid (HV.out.2)
 rcases yy.out with ⟨rfl, _⟩ | ⟨vb, off, NU, pT, kx, hx⟩
 ·simp at tJ
 injection pT with ig _ hvc
 subst ig
 obtain ⟨c, rfl⟩ : ∃ x, x = vc := ⟨_, rfl⟩
 subst hvc
 clear hx yy
 have vR : bs.length ≤ maxLen := HV.out.1
 unfold maxLen at vR
 have HC := (show Hid (∀ wx, Same w wx → ∀ i, i < bs.length → wx.cell? ⟨vb, off + i, none⟩ = some (.int .u8 (bs.getD i 0))) from fun wx hk => by
  rcases (HV.out.same hk).2 with ⟨h0, _⟩ | ⟨b', kK, c', he, _, hc⟩
  ·rw [h0] at tJ; simp at tJ
  ·injection he with h1 _ _
   injection h1 with h1
   injection h1 with h1 h2
   subst h1 h2
   exact hc)
 have Jr : c ≠ 4 := by omega
 have k0 := TU (.slice (some ⟨vb, off, none⟩) 4 c) (bs.take 4) w0 (hB.tk 4) (by simp; omega) (Rd.part (HC.out w0 aJ.out) 0 4 (by omega) rfl (by omega) (by unfold maxLen; omega))
 go_wp2_with fail
 refine k0.mono ?_
 rintro e w1 ⟨rfl, aH⟩
 have aM := (show Hid (Same w0 w1) from aH)
 obtain ⟨sz, gE⟩ : ∃ x, RQ (bs.take 4) = x := ⟨_, rfl⟩
 rw [gE]
 have Ak := hid gE
 clear aH gE k0
 go_upto_region 4 with fail
 go_cut [30] (fun v wx => v = .bool (decide (sz < 33 ∨ 4131 < sz ∨ (bs.length : Int) < sz)) ∧ w1 = wx)
 case first =>
  by_cases s1 : sz < 33
  ·go_wp2
   go_meet
   case rel => exact ⟨by simp [s1], rfl⟩
  ·by_cases s2 : 4131 < sz
   ·go_wp2
    go_meet
    case rel => exact ⟨by simp [s2], rfl⟩
   ·by_cases s3 : (bs.length : Int) < sz
    ·go_wp2
     go_meet
     case rel => exact ⟨by simp [s3], rfl⟩
    ·go_wp2
     go_meet
     case rel => exact ⟨by simp [s1, s2, s3], rfl⟩
 case rest =>
  obtain ⟨hu, hw⟩ := hcut
  subst hw
  by_cases hq : sz < 33 ∨ 4131 < sz ∨ (bs.length : Int) < sz
  ·have nk : _ = Value.bool true := hu.trans (by rw [decide_eq_true hq])
   clear hu
   subst nk
   have HQ := hid hq
   clear hq
   have iV := hid ((eo.out.same aM.out).there 0 17 (by decide))
   have eG := (show Hid (Blk (w1.setCells Z 0 (cZ 1)) Z 52 (cZ 1)) from TG (eo.out.same aM.out) (cZ 1) rfl)
   have dQ := (show Hid (Same w (w1.setCells Z 0 (cZ 1))) from Kept.setCells (.inl (Nat.le_of_eq iY.out)) _ _ (aJ.out.trans aM.out))
   have eJ := (show Hid (RP bs lsn least most = S9 1) from by unfold Hid RP; rw [if_neg (by unfold Ve; rw [Ak.out]; have := HQ.out; omega)])
   go_upto_region 5 with fail
   refine Vf 31 52 _ _ Z (cZ 1).toArray rfl rfl rfl rfl rfl rfl (fun wx => by kernel_rfl) rfl rfl iV.out infoFr (by simp [cZ, Value.oneCell']) ?_
   generalize w1.setCells Z 0 (cZ 1).toArray.toList = W9 at eG dQ ⊢
   go_wp2
   refine bodyPost_ret (v := .agg (cZ 1).toArray) ?_ rfl ?_
   ·exact VU Tryz.results18 rfl eG.out.rangeAll Tryz.underlying52 rfl infoFr
   ·exact ⟨⟨1, 0, 0, recZ⟩, rfl, eJ.out.symm, fun b hb => (Sr hb).elim, SS _, dQ.out⟩
  have nk : _ = Value.bool false := hu.trans (by rw [decide_eq_false hq])
  clear hu
  subst nk
  obtain ⟨s, hs⟩ : ∃ s : Nat, sz = (s : Int) := ⟨sz.toNat, by omega⟩
  subst hs
  have lv : 33 ≤ s := by omega
  have vI : s ≤ 4131 := by omega
  have G8 : s ≤ bs.length := by omega
  have qF := (show Hid (RP bs lsn least most = WJ bs s lsn least most) from by unfold Hid RP; rw [if_pos (by unfold Ve; rw [Ak.out]; omega), Ak.out, Int.toNat_natCast])
  clear hq tJ
  have wA : s ≤ c := by omega
  have Pl : (8 : Int) ≤ (s : Int) := by omega
  have Gx : (20 : Int) ≤ (s : Int) := by omega
  have e4 : ¬ c = 4 := by omega
  have e8 : ¬ c = 8 := by omega
  have OQ : ¬ c = 16 := by omega
  have Ou : ¬ c = 20 := by omega
  have HP := (show Hid (∀ wx, Same w0 wx → ∀ lo m, lo + m ≤ bs.length → Rd .u8 wx (.slice (some ⟨vb, off + lo, none⟩) m (c - lo)) ((bs.drop lo).take m)) from fun wx hk lo m h => Rd.part (HC.out wx (aJ.out.trans hk)) lo m h rfl (by omega) (by unfold maxLen; omega))
  go_upto_region 6 with fail
  have hS : (fun wx : World => Same w0 wx) w1.drew := aM.out.next ((Kept.refl (fun _ => False) w1).drew) (fun _ _ e => e.elim)
  refine Q9 (fun wx : World => Same w0 wx) 99 8 rfl (by kernel_rfl) ?_
  refine tk 0 32 hS ?_
  refine tkV 1 33 (.slice (some ⟨vb, off + 4, none⟩) 4 (c - 4)) hS ?_
  refine tk 3 35 hS ?_
  refine tk 4 36 hS ?_
  refine tkV 5 37 (.slice (some ⟨vb, off + 8, none⟩) (s - 8) (c - 8)) hS ?_
  refine o1Q 2 (fun Kc hK => ?_)
  go_simp
  refine (TU _ ((bs.drop 4).take 4) _ ((hB.dropI 4).tk 4) (by simp; omega) (HP.out _ hS 4 4 (by omega))).mono ?_
  rintro e w2 ⟨rfl, aN⟩
  have hS : (fun wx : World => Same w0 wx) w2 := Kept.trans hS aN
  refine hK.out _ _ (fun _ => hS) ?_
  clear hK Kc
  try simp only [Act.put, sA, s0, sS]
  refine o1Q 6 (fun Kc hK => ?_)
  go_simp
  refine (jaI _ ((bs.drop 8).take (s - 8)) _ ((hB.dropI 8).tk _) (by simp; omega) (HP.out _ hS 8 (s - 8) (by omega))).mono ?_
  rintro e w3 ⟨rfl, fq⟩
  have hS : (fun wx : World => Same w0 wx) w3 := Kept.trans hS fq
  refine hK.out _ _ (fun _ => hS) ?_
  clear hK Kc
  try simp only [Act.put, sA, s0, sS]
  obtain ⟨g4, t8⟩ : ∃ x, RQ ((bs.drop 4).take 4) = x := ⟨_, rfl⟩
  obtain ⟨cr, nh⟩ : ∃ x, Tv 0 ((bs.drop 8).take (s - 8)) = x := ⟨_, rfl⟩
  rw [t8, nh]
  have ng := hid t8
  have ny := hid nh
  clear t8 nh
  refine tk 7 39 hS ?_
  refine Q8 (by kernel_rfl) ?_
  try simp only [Act.put, sA, s0, sS]
  have dt := hid hS
  clear aN fq hS
  by_cases fW : g4 = cr
  ·have lQ : (g4 != cr) = false := by simp [fW]
   have ob := hid fW
   clear fW
   have k8 := TU _ ((bs.drop 8).take 8) w3 ((hB.dropI 8).tk 8) (by simp; omega) (HP.out _ dt.out 8 8 (by omega))
   go_wp2_with fail
   refine k8.mono ?_
   rintro e w4 ⟨rfl, iF⟩
   have cu := hid (dt.out.trans iF)
   obtain ⟨g8, Do⟩ : ∃ x, RQ ((bs.drop 8).take 8) = x := ⟨_, rfl⟩
   rw [Do]
   have E3 := hid Do
   clear Do iF k8
   by_cases hq8 : g8 ≠ lsn ∨ lsn < 0
   ·have rK := hid hq8
    have sI := (show Hid (RP bs lsn least most = S9 3) from by unfold Hid; rw [qF.out]; unfold WJ; rw [if_neg (by rw [ng.out, ny.out, ob.out]; simp), if_pos (by rw [E3.out]; exact rK.out)])
    by_cases q1 : g8 = lsn
    ·have H8 : (g8 != lsn) = false := by simp [q1]
     have q2 : lsn < 0 := by rcases hq8 with h | h; exact absurd q1 h; exact h
     clear hq8
     have iV := hid ((eo.out.same cu.out).there 0 17 (by decide))
     have eG := (show Hid (Blk (w4.setCells Z 0 (cZ 3)) Z 52 (cZ 3)) from TG (eo.out.same cu.out) (cZ 3) rfl)
     have dQ := (show Hid (Same w (w4.setCells Z 0 (cZ 3))) from Kept.setCells (.inl (Nat.le_of_eq iY.out)) _ _ (aJ.out.trans cu.out))
     have eJ := (show Hid (RP bs lsn least most = S9 3) from by exact sI.out)
     go_upto_region 9 with fail
     refine Vf 50 52 _ _ Z (cZ 3).toArray rfl rfl rfl rfl rfl rfl (fun wx => by kernel_rfl) rfl rfl iV.out infoFr (by simp [cZ, Value.oneCell']) ?_
     generalize w4.setCells Z 0 (cZ 3).toArray.toList = W9 at eG dQ ⊢
     go_wp2
     refine bodyPost_ret (v := .agg (cZ 3).toArray) ?_ rfl ?_
     ·exact VU Tryz.results18 rfl eG.out.rangeAll Tryz.underlying52 rfl infoFr
     ·exact ⟨⟨3, 0, 0, recZ⟩, rfl, eJ.out.symm, fun b hb => (Sr hb).elim, SS _, dQ.out⟩
    ·have H8 : (g8 != lsn) = true := by simp [q1]
     clear hq8
     have iV := hid ((eo.out.same cu.out).there 0 17 (by decide))
     have eG := (show Hid (Blk (w4.setCells Z 0 (cZ 3)) Z 52 (cZ 3)) from TG (eo.out.same cu.out) (cZ 3) rfl)
     have dQ := (show Hid (Same w (w4.setCells Z 0 (cZ 3))) from Kept.setCells (.inl (Nat.le_of_eq iY.out)) _ _ (aJ.out.trans cu.out))
     have eJ := (show Hid (RP bs lsn least most = S9 3) from by exact sI.out)
     go_upto_region 9 with fail
     refine Vf 50 52 _ _ Z (cZ 3).toArray rfl rfl rfl rfl rfl rfl (fun wx => by kernel_rfl) rfl rfl iV.out infoFr (by simp [cZ, Value.oneCell']) ?_
     generalize w4.setCells Z 0 (cZ 3).toArray.toList = W9 at eG dQ ⊢
     go_wp2
     refine bodyPost_ret (v := .agg (cZ 3).toArray) ?_ rfl ?_
     ·exact VU Tryz.results18 rfl eG.out.rangeAll Tryz.underlying52 rfl infoFr
     ·exact ⟨⟨3, 0, 0, recZ⟩, rfl, eJ.out.symm, fun b hb => (Sr hb).elim, SS _, dQ.out⟩
   have rK := hid hq8
   have q1 : g8 = lsn := by omega
   have H8 : (g8 != lsn) = false := by simp [q1]
   have q2 : ¬ lsn < 0 := by omega
   have yU := TU _ ((bs.drop 16).take 4) w4 ((hB.dropI 16).tk 4) (by simp; omega) (HP.out _ cu.out 16 4 (by omega))
   clear hq8 q1
   go_wp2_with fail
   refine yU.mono ?_
   rintro e w5 ⟨rfl, eA⟩
   have dp := hid (cu.out.trans eA)
   obtain ⟨ep, uD⟩ : ∃ x, RQ ((bs.drop 16).take 4) = x := ⟨_, rfl⟩
   rw [uD]
   have uT := hid uD
   clear uD eA yU
   by_cases hq16 : ep < least ∨ most < ep
   ·have l7 := hid hq16
    have lf := (show Hid (RP bs lsn least most = S9 4) from by unfold Hid; rw [qF.out]; unfold WJ; rw [if_neg (by rw [ng.out, ny.out, ob.out]; simp), if_neg (by rw [E3.out]; exact rK.out), if_pos (by rw [uT.out]; exact l7.out)])
    by_cases q3 : ep < least
    ·clear hq16
     have iV := hid ((eo.out.same dp.out).there 0 17 (by decide))
     have eG := (show Hid (Blk (w5.setCells Z 0 (cZ 4)) Z 52 (cZ 4)) from TG (eo.out.same dp.out) (cZ 4) rfl)
     have dQ := (show Hid (Same w (w5.setCells Z 0 (cZ 4))) from Kept.setCells (.inl (Nat.le_of_eq iY.out)) _ _ (aJ.out.trans dp.out))
     have eJ := (show Hid (RP bs lsn least most = S9 4) from by exact lf.out)
     go_upto_region 12 with fail
     refine Vf 62 52 _ _ Z (cZ 4).toArray rfl rfl rfl rfl rfl rfl (fun wx => by kernel_rfl) rfl rfl iV.out infoFr (by simp [cZ, Value.oneCell']) ?_
     generalize w5.setCells Z 0 (cZ 4).toArray.toList = W9 at eG dQ ⊢
     go_wp2
     refine bodyPost_ret (v := .agg (cZ 4).toArray) ?_ rfl ?_
     ·exact VU Tryz.results18 rfl eG.out.rangeAll Tryz.underlying52 rfl infoFr
     ·exact ⟨⟨4, 0, 0, recZ⟩, rfl, eJ.out.symm, fun b hb => (Sr hb).elim, SS _, dQ.out⟩
    ·have q4 : most < ep := by omega
     clear hq16
     have iV := hid ((eo.out.same dp.out).there 0 17 (by decide))
     have eG := (show Hid (Blk (w5.setCells Z 0 (cZ 4)) Z 52 (cZ 4)) from TG (eo.out.same dp.out) (cZ 4) rfl)
     have dQ := (show Hid (Same w (w5.setCells Z 0 (cZ 4))) from Kept.setCells (.inl (Nat.le_of_eq iY.out)) _ _ (aJ.out.trans dp.out))
     have eJ := (show Hid (RP bs lsn least most = S9 4) from by exact lf.out)
     go_upto_region 12 with fail
     refine Vf 62 52 _ _ Z (cZ 4).toArray rfl rfl rfl rfl rfl rfl (fun wx => by kernel_rfl) rfl rfl iV.out infoFr (by simp [cZ, Value.oneCell']) ?_
     generalize w5.setCells Z 0 (cZ 4).toArray.toList = W9 at eG dQ ⊢
     go_wp2
     refine bodyPost_ret (v := .agg (cZ 4).toArray) ?_ rfl ?_
     ·exact VU Tryz.results18 rfl eG.out.rangeAll Tryz.underlying52 rfl infoFr
     ·exact ⟨⟨4, 0, 0, recZ⟩, rfl, eJ.out.symm, fun b hb => (Sr hb).elim, SS _, dQ.out⟩
   have l7 := hid hq16
   have q3 : ¬ ep < least := by omega
   have q4 : ¬ most < ep := by omega
   have xb := jay (.slice (some ⟨vb, off + 20, none⟩) (s - 20) (c - 20)) ((bs.drop 20).take (s - 20)) w5 ((hB.dropI 20).tk _) (by simp; omega) (HP.out _ dp.out 20 (s - 20) (by omega))
   clear hq16
   go_wp2_with fail
   refine xb.mono ?_
   rintro e w6 ⟨⟨g, z⟩, rfl, hd, hf, ho, fN⟩
   have eh := hid (dp.out.trans fN)
   have HD := (show Hid ((g, z.dat) = VG ((bs.drop 20).take (s - 20))) from hd)
   have HF := (show Hid (∀ b, Rf z.rows b → w5.heap.size ≤ b) from hf)
   have HO := (show Hid (OwnL w6 z.rows) from ho)
   have KP := dp.out.size
   have E4 := eh.out.size
   have kp := (show Hid (RP bs lsn least most = if g = true then (0, (s : Int), ep, z.dat) else S9 5) from by unfold Hid; rw [qF.out]; unfold WJ; rw [if_neg (by rw [ng.out, ny.out, ob.out]; simp), if_neg (by rw [E3.out]; exact rK.out), if_neg (by rw [uT.out]; exact l7.out), ← HD.out, uT.out])
   dsimp only [StRecordResult.val, BS.v, FR.v]
   have HX := (show Hid (Blk (w6.alloc (.cells #[.bool g, .int .i64 z.kind, .int .i64 z.txn, .int .i64 z.prev, .int .i64 z.page, .int .i64 z.slot, .bool z.before.used, .slice z.before.data.a z.before.data.bs.length z.before.data.c, .bool z.after.used, .slice z.after.data.a z.after.data.bs.length z.after.data.c, .int .i64 z.uN, .int .i64 z.nT, .slice z.txns.a z.txns.n z.txns.c, .slice z.dirty.a z.dirty.n z.dirty.c, .slice z.image.a z.image.bs.length z.image.c] 79)) w6.heap.size 79 [.bool g, .int .i64 z.kind, .int .i64 z.txn, .int .i64 z.prev, .int .i64 z.page, .int .i64 z.slot, .bool z.before.used, .slice z.before.data.a z.before.data.bs.length z.before.data.c, .bool z.after.used, .slice z.after.data.a z.after.data.bs.length z.after.data.c, .int .i64 z.uN, .int .i64 z.nT, .slice z.txns.a z.txns.n z.txns.c, .slice z.dirty.a z.dirty.n z.dirty.c, .slice z.image.a z.image.bs.length z.image.c]) from Blk.newL w6 [.bool g, .int .i64 z.kind, .int .i64 z.txn, .int .i64 z.prev, .int .i64 z.page, .int .i64 z.slot, .bool z.before.used, .slice z.before.data.a z.before.data.bs.length z.before.data.c, .bool z.after.used, .slice z.after.data.a z.after.data.bs.length z.after.data.c, .int .i64 z.uN, .int .i64 z.nT, .slice z.txns.a z.txns.n z.txns.c, .slice z.dirty.a z.dirty.n z.dirty.c, .slice z.image.a z.image.bs.length z.image.c] 79)
   have dd := (show Hid (Same w0 (w6.alloc (.cells #[.bool g, .int .i64 z.kind, .int .i64 z.txn, .int .i64 z.prev, .int .i64 z.page, .int .i64 z.slot, .bool z.before.used, .slice z.before.data.a z.before.data.bs.length z.before.data.c, .bool z.after.used, .slice z.after.data.a z.after.data.bs.length z.after.data.c, .int .i64 z.uN, .int .i64 z.nT, .slice z.txns.a z.txns.n z.txns.c, .slice z.dirty.a z.dirty.n z.dirty.c, .slice z.image.a z.image.bs.length z.image.c] 79))) from eh.out.alloc _)
   have lu := hid (HO.out.same (kZ0.alloc (.cells #[.bool g, .int .i64 z.kind, .int .i64 z.txn, .int .i64 z.prev, .int .i64 z.page, .int .i64 z.slot, .bool z.before.used, .slice z.before.data.a z.before.data.bs.length z.before.data.c, .bool z.after.used, .slice z.after.data.a z.after.data.bs.length z.after.data.c, .int .i64 z.uN, .int .i64 z.nT, .slice z.txns.a z.txns.n z.txns.c, .slice z.dirty.a z.dirty.n z.dirty.c, .slice z.image.a z.image.bs.length z.image.c] 79)))
   clear hd hf ho fN xb HO eh
   go_upto_region 14 with fail
   generalize w6.alloc (.cells #[.bool g, .int .i64 z.kind, .int .i64 z.txn, .int .i64 z.prev, .int .i64 z.page, .int .i64 z.slot, .bool z.before.used, .slice z.before.data.a z.before.data.bs.length z.before.data.c, .bool z.after.used, .slice z.after.data.a z.after.data.bs.length z.after.data.c, .int .i64 z.uN, .int .i64 z.nT, .slice z.txns.a z.txns.n z.txns.c, .slice z.dirty.a z.dirty.n z.dirty.c, .slice z.image.a z.image.bs.length z.image.c] 79) = w7 at HX dd lu ⊢
   obtain ⟨X, hX⟩ : ∃ X, w6.heap.size = X := ⟨_, rfl⟩
   rw [hX] at HX E4 ⊢
   clear hX
   cases g with
   | false =>
    obtain ⟨x0, x1, x2, x3, x4, x5, x6, x7, x8, x9, Dg, E5, EY, Fi, Ce⟩ := HX.out.all15
    have pf := (show Hid (RP bs lsn least most = S9 5) from by unfold Hid; rw [kp.out]; rfl)
    have iV := hid ((eo.out.same dd.out).there 0 17 (by decide))
    have eG := (show Hid (Blk (w7.setCells Z 0 (cZ 5)) Z 52 (cZ 5)) from TG (eo.out.same dd.out) (cZ 5) rfl)
    have dQ := (show Hid (Same w (w7.setCells Z 0 (cZ 5))) from Kept.setCells (.inl (Nat.le_of_eq iY.out)) _ _ (aJ.out.trans dd.out))
    have eJ := (show Hid (RP bs lsn least most = S9 5) from by exact pf.out)
    go_upto_region 15 with fail
    refine Vf 70 52 _ _ Z (cZ 5).toArray rfl rfl rfl rfl rfl rfl (fun wx => by kernel_rfl) rfl rfl iV.out infoFr (by simp [cZ, Value.oneCell']) ?_
    generalize w7.setCells Z 0 (cZ 5).toArray.toList = W9 at eG dQ ⊢
    go_wp2
    refine bodyPost_ret (v := .agg (cZ 5).toArray) ?_ rfl ?_
    ·exact VU Tryz.results18 rfl eG.out.rangeAll Tryz.underlying52 rfl infoFr
    ·exact ⟨⟨5, 0, 0, recZ⟩, rfl, eJ.out.symm, fun b hb => (Sr hb).elim, SS _, dQ.out⟩
   | true =>
    obtain ⟨x0, x1, x2, x3, x4, x5, x6, x7, x8, x9, Dg, E5, EY, Fi, Ce⟩ := HX.out.all15
    have BE := HX.out.lt
    have pb := (show Hid (RP bs lsn least most = (0, (s : Int), ep, z.dat)) from by unfold Hid; rw [kp.out]; rfl)
    obtain ⟨z0, z1, z2, z3, z4, z5, z6, z7, z8, z9, ip, iw, ir, gY, iU, Bz, JE⟩ := (eo.out.same dd.out).all17
    have fz := (eo.out.same dd.out).frozen
    have ru := (eo.out.same dd.out).lt
    obtain ⟨W9, mN⟩ : ∃ x, (((((((((((((((((w7.setCell ⟨Z, 0, none⟩ (.int .i64 0)).setCell ⟨Z, 1, none⟩ (.int .i64 (s : Int))).setCell ⟨Z, 2, none⟩ (.int .i64 ep)).setCell ⟨Z, 3, none⟩ (.int .i64 z.kind)).setCell ⟨Z, 4, none⟩ (.int .i64 z.txn)).setCell ⟨Z, 5, none⟩ (.int .i64 z.prev)).setCell ⟨Z, 6, none⟩ (.int .i64 z.page)).setCell ⟨Z, 7, none⟩ (.int .i64 z.slot)).setCell ⟨Z, 8, none⟩ (.bool z.before.used)).setCell ⟨Z, 9, none⟩ (.slice z.before.data.a z.before.data.bs.length z.before.data.c)).setCell ⟨Z, 10, none⟩ (.bool z.after.used)).setCell ⟨Z, 11, none⟩ (.slice z.after.data.a z.after.data.bs.length z.after.data.c)).setCell ⟨Z, 12, none⟩ (.int .i64 z.uN)).setCell ⟨Z, 13, none⟩ (.int .i64 z.nT)).setCell ⟨Z, 14, none⟩ (.slice z.txns.a z.txns.n z.txns.c)).setCell ⟨Z, 15, none⟩ (.slice z.dirty.a z.dirty.n z.dirty.c)).setCell ⟨Z, 16, none⟩ (.slice z.image.a z.image.bs.length z.image.c)) = x := ⟨_, rfl⟩
    have eG := (show Hid (Blk W9 Z 52 [.int .i64 0, .int .i64 (s : Int), .int .i64 ep, .int .i64 z.kind, .int .i64 z.txn, .int .i64 z.prev, .int .i64 z.page, .int .i64 z.slot, .bool z.before.used, .slice z.before.data.a z.before.data.bs.length z.before.data.c, .bool z.after.used, .slice z.after.data.a z.after.data.bs.length z.after.data.c, .int .i64 z.uN, .int .i64 z.nT, .slice z.txns.a z.txns.n z.txns.c, .slice z.dirty.a z.dirty.n z.dirty.c, .slice z.image.a z.image.bs.length z.image.c]) from mN ▸ (show Blk (((((((((((((((((w7.setCell ⟨Z, 0, none⟩ (.int .i64 0)).setCell ⟨Z, 1, none⟩ (.int .i64 (s : Int))).setCell ⟨Z, 2, none⟩ (.int .i64 ep)).setCell ⟨Z, 3, none⟩ (.int .i64 z.kind)).setCell ⟨Z, 4, none⟩ (.int .i64 z.txn)).setCell ⟨Z, 5, none⟩ (.int .i64 z.prev)).setCell ⟨Z, 6, none⟩ (.int .i64 z.page)).setCell ⟨Z, 7, none⟩ (.int .i64 z.slot)).setCell ⟨Z, 8, none⟩ (.bool z.before.used)).setCell ⟨Z, 9, none⟩ (.slice z.before.data.a z.before.data.bs.length z.before.data.c)).setCell ⟨Z, 10, none⟩ (.bool z.after.used)).setCell ⟨Z, 11, none⟩ (.slice z.after.data.a z.after.data.bs.length z.after.data.c)).setCell ⟨Z, 12, none⟩ (.int .i64 z.uN)).setCell ⟨Z, 13, none⟩ (.int .i64 z.nT)).setCell ⟨Z, 14, none⟩ (.slice z.txns.a z.txns.n z.txns.c)).setCell ⟨Z, 15, none⟩ (.slice z.dirty.a z.dirty.n z.dirty.c)).setCell ⟨Z, 16, none⟩ (.slice z.image.a z.image.bs.length z.image.c)) Z 52 [.int .i64 0, .int .i64 (s : Int), .int .i64 ep, .int .i64 z.kind, .int .i64 z.txn, .int .i64 z.prev, .int .i64 z.page, .int .i64 z.slot, .bool z.before.used, .slice z.before.data.a z.before.data.bs.length z.before.data.c, .bool z.after.used, .slice z.after.data.a z.after.data.bs.length z.after.data.c, .int .i64 z.uN, .int .i64 z.nT, .slice z.txns.a z.txns.n z.txns.c, .slice z.dirty.a z.dirty.n z.dirty.c, .slice z.image.a z.image.bs.length z.image.c] from ((((((((((((((((((eo.out.same dd.out).stored 0 _).stored 1 _).stored 2 _).stored 3 _).stored 4 _).stored 5 _).stored 6 _).stored 7 _).stored 8 _).stored 9 _).stored 10 _).stored 11 _).stored 12 _).stored 13 _).stored 14 _).stored 15 _).stored 16 _)))
    have dQ := (show Hid (Same w W9) from mN ▸ jdS (aJ.out.trans dd.out) (Nat.le_of_eq iY.out) (.int .i64 0) (.int .i64 (s : Int)) (.int .i64 ep) (.int .i64 z.kind) (.int .i64 z.txn) (.int .i64 z.prev) (.int .i64 z.page) (.int .i64 z.slot) (.bool z.before.used) (.slice z.before.data.a z.before.data.bs.length z.before.data.c) (.bool z.after.used) (.slice z.after.data.a z.after.data.bs.length z.after.data.c) (.int .i64 z.uN) (.int .i64 z.nT) (.slice z.txns.a z.txns.n z.txns.c) (.slice z.dirty.a z.dirty.n z.dirty.c) (.slice z.image.a z.image.bs.length z.image.c))
    have vZ := hid mN
    clear mN
    have j9 := (show Hid (OwnL W9 z.rows) from lu.out.kept (R := fun b => b = Z) (vZ.out ▸ jdT _ _ (.int .i64 0) (.int .i64 (s : Int)) (.int .i64 ep) (.int .i64 z.kind) (.int .i64 z.txn) (.int .i64 z.prev) (.int .i64 z.page) (.int .i64 z.slot) (.bool z.before.used) (.slice z.before.data.a z.before.data.bs.length z.before.data.c) (.bool z.after.used) (.slice z.after.data.a z.after.data.bs.length z.after.data.c) (.int .i64 z.uN) (.int .i64 z.nT) (.slice z.txns.a z.txns.n z.txns.c) (.slice z.dirty.a z.dirty.n z.dirty.c) (.slice z.image.a z.image.bs.length z.image.c)) (fun b hb e => by have := HF.out b hb; omega))
    go_wp2
    rw [vZ.out]
    refine bodyPost_ret (v := .agg #[.int .i64 0, .int .i64 (s : Int), .int .i64 ep, .int .i64 z.kind, .int .i64 z.txn, .int .i64 z.prev, .int .i64 z.page, .int .i64 z.slot, .bool z.before.used, .slice z.before.data.a z.before.data.bs.length z.before.data.c, .bool z.after.used, .slice z.after.data.a z.after.data.bs.length z.after.data.c, .int .i64 z.uN, .int .i64 z.nT, .slice z.txns.a z.txns.n z.txns.c, .slice z.dirty.a z.dirty.n z.dirty.c, .slice z.image.a z.image.bs.length z.image.c]) ?_ rfl ?_
    ·exact VU (cs := [.int .i64 0, .int .i64 (s : Int), .int .i64 ep, .int .i64 z.kind, .int .i64 z.txn, .int .i64 z.prev, .int .i64 z.page, .int .i64 z.slot, .bool z.before.used, .slice z.before.data.a z.before.data.bs.length z.before.data.c, .bool z.after.used, .slice z.after.data.a z.after.data.bs.length z.after.data.c, .int .i64 z.uN, .int .i64 z.nT, .slice z.txns.a z.txns.n z.txns.c, .slice z.dirty.a z.dirty.n z.dirty.c, .slice z.image.a z.image.bs.length z.image.c]) Tryz.results18 rfl eG.out.rangeAll Tryz.underlying52 rfl infoFr
    ·exact ⟨⟨0, (s : Int), ep, z⟩, rfl, pb.out.symm, fun b hb => by have := HF.out b hb; have := iY.out; have := aJ.out.size; omega, j9.out, dQ.out⟩
  ·have lQ : (g4 != cr) = true := by simp [fW]
   have ob := hid fW
   clear fW
   obtain ⟨z0, z1, z2, z3, z4, z5, z6, z7, z8, z9, ip, iw, ir, gY, iU, Bz, JE⟩ := (eo.out.same dt.out).all17
   have fz := (eo.out.same dt.out).frozen
   have ru := (eo.out.same dt.out).lt
   obtain ⟨W9, mN⟩ : ∃ x, (((((((((((((((((w3.setCell ⟨Z, 0, none⟩ (.int .i64 2)).setCell ⟨Z, 1, none⟩ (.int .i64 0)).setCell ⟨Z, 2, none⟩ (.int .i64 0)).setCell ⟨Z, 3, none⟩ (.int .i64 0)).setCell ⟨Z, 4, none⟩ (.int .i64 0)).setCell ⟨Z, 5, none⟩ (.int .i64 0)).setCell ⟨Z, 6, none⟩ (.int .i64 0)).setCell ⟨Z, 7, none⟩ (.int .i64 0)).setCell ⟨Z, 8, none⟩ (.bool false)).setCell ⟨Z, 9, none⟩ (.slice none 0 0)).setCell ⟨Z, 10, none⟩ (.bool false)).setCell ⟨Z, 11, none⟩ (.slice none 0 0)).setCell ⟨Z, 12, none⟩ (.int .i64 0)).setCell ⟨Z, 13, none⟩ (.int .i64 0)).setCell ⟨Z, 14, none⟩ (.slice none 0 0)).setCell ⟨Z, 15, none⟩ (.slice none 0 0)).setCell ⟨Z, 16, none⟩ (.slice none 0 0)) = x := ⟨_, rfl⟩
   have eG := (show Hid (Blk W9 Z 52 [.int .i64 2, .int .i64 0, .int .i64 0, .int .i64 0, .int .i64 0, .int .i64 0, .int .i64 0, .int .i64 0, .bool false, .slice none 0 0, .bool false, .slice none 0 0, .int .i64 0, .int .i64 0, .slice none 0 0, .slice none 0 0, .slice none 0 0]) from mN ▸ (show Blk (((((((((((((((((w3.setCell ⟨Z, 0, none⟩ (.int .i64 2)).setCell ⟨Z, 1, none⟩ (.int .i64 0)).setCell ⟨Z, 2, none⟩ (.int .i64 0)).setCell ⟨Z, 3, none⟩ (.int .i64 0)).setCell ⟨Z, 4, none⟩ (.int .i64 0)).setCell ⟨Z, 5, none⟩ (.int .i64 0)).setCell ⟨Z, 6, none⟩ (.int .i64 0)).setCell ⟨Z, 7, none⟩ (.int .i64 0)).setCell ⟨Z, 8, none⟩ (.bool false)).setCell ⟨Z, 9, none⟩ (.slice none 0 0)).setCell ⟨Z, 10, none⟩ (.bool false)).setCell ⟨Z, 11, none⟩ (.slice none 0 0)).setCell ⟨Z, 12, none⟩ (.int .i64 0)).setCell ⟨Z, 13, none⟩ (.int .i64 0)).setCell ⟨Z, 14, none⟩ (.slice none 0 0)).setCell ⟨Z, 15, none⟩ (.slice none 0 0)).setCell ⟨Z, 16, none⟩ (.slice none 0 0)) Z 52 [.int .i64 2, .int .i64 0, .int .i64 0, .int .i64 0, .int .i64 0, .int .i64 0, .int .i64 0, .int .i64 0, .bool false, .slice none 0 0, .bool false, .slice none 0 0, .int .i64 0, .int .i64 0, .slice none 0 0, .slice none 0 0, .slice none 0 0] from ((((((((((((((((((eo.out.same dt.out).stored 0 _).stored 1 _).stored 2 _).stored 3 _).stored 4 _).stored 5 _).stored 6 _).stored 7 _).stored 8 _).stored 9 _).stored 10 _).stored 11 _).stored 12 _).stored 13 _).stored 14 _).stored 15 _).stored 16 _)))
   have dQ := (show Hid (Same w W9) from mN ▸ jdS (aJ.out.trans dt.out) (Nat.le_of_eq iY.out) (.int .i64 2) (.int .i64 0) (.int .i64 0) (.int .i64 0) (.int .i64 0) (.int .i64 0) (.int .i64 0) (.int .i64 0) (.bool false) (.slice none 0 0) (.bool false) (.slice none 0 0) (.int .i64 0) (.int .i64 0) (.slice none 0 0) (.slice none 0 0) (.slice none 0 0))
   have vZ := hid mN
   clear mN
   have eJ := (show Hid (RP bs lsn least most = S9 2) from by unfold Hid; rw [qF.out]; unfold WJ; rw [if_pos (by rw [ng.out, ny.out]; exact ob.out)])
   go_wp2
   rw [vZ.out]
   refine bodyPost_ret (v := .agg #[.int .i64 2, .int .i64 0, .int .i64 0, .int .i64 0, .int .i64 0, .int .i64 0, .int .i64 0, .int .i64 0, .bool false, .slice none 0 0, .bool false, .slice none 0 0, .int .i64 0, .int .i64 0, .slice none 0 0, .slice none 0 0, .slice none 0 0]) ?_ rfl ?_
   ·exact VU (cs := [.int .i64 2, .int .i64 0, .int .i64 0, .int .i64 0, .int .i64 0, .int .i64 0, .int .i64 0, .int .i64 0, .bool false, .slice none 0 0, .bool false, .slice none 0 0, .int .i64 0, .int .i64 0, .slice none 0 0, .slice none 0 0, .slice none 0 0]) Tryz.results18 rfl eG.out.rangeAll Tryz.underlying52 rfl infoFr
   ·exact ⟨⟨2, 0, 0, recZ⟩, rfl, eJ.out.symm, fun b hb => (Sr hb).elim, SS _, dQ.out⟩
end Go.Proofs.YtaojjcnmififoaaGreat
