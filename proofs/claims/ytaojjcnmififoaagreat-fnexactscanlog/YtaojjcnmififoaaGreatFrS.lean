import Derived.Test.YtaojjcnmififoaaGreatG28
import Derived.Test.YtaojjcnmififoaaGreatDecS
import Derived.Test.YtaojjcnmififoaaGreatG08
import Derived.Test.YtaojjcnmififoaaGreatG09
import Derived.Deep.DeepCutAuto
namespace Go.Proofs.YtaojjcnmififoaaGreat
set_option maxRecDepth 100000
set_option maxHeartbeats 8000000
set_option linter.unusedVariables false
set_option linter.unusedSimpArgs false
open Go.RowKit
theorem specFr_any (v : Value) (bs : List Int) (lsn least most : Int) (w : World) (hB : IsB bs) (hlI : IsI lsn) (hl : bs.length ≤ 1099511627776) (hv : Rd .u8 w v bs) : Calls Tryz.prog 18 #[v, .int .i64 lsn, .int .i64 least, .int .i64 most] w fun e w' => ∃ y : StFrameResult, e = .returned y.val ∧ y.dat = decF bs lsn least most ∧ (∀ b, FootL y.rows b → w.heap.size ≤ b) ∧ OwnL w' y.rows ∧ Same w w' := by
 have HK0 := (show Hid (Same w (w.alloc (.cells #[.int .i64 0, .int .i64 0, .int .i64 0, .int .i64 0, .int .i64 0, .int .i64 0, .int .i64 0, .int .i64 0, .bool false, .slice none 0 0, .bool false, .slice none 0 0, .int .i64 0, .int .i64 0, .slice none 0 0, .slice none 0 0, .slice none 0 0] 52))) from (Kept.refl _ _).alloc _)
 have HZ0 := (show Hid (Blk (w.alloc (.cells #[.int .i64 0, .int .i64 0, .int .i64 0, .int .i64 0, .int .i64 0, .int .i64 0, .int .i64 0, .int .i64 0, .bool false, .slice none 0 0, .bool false, .slice none 0 0, .int .i64 0, .int .i64 0, .slice none 0 0, .slice none 0 0, .slice none 0 0] 52)) w.heap.size 52 [.int .i64 0, .int .i64 0, .int .i64 0, .int .i64 0, .int .i64 0, .int .i64 0, .int .i64 0, .int .i64 0, .bool false, .slice none 0 0, .bool false, .slice none 0 0, .int .i64 0, .int .i64 0, .slice none 0 0, .slice none 0 0, .slice none 0 0]) from Blk.newL w [.int .i64 0, .int .i64 0, .int .i64 0, .int .i64 0, .int .i64 0, .int .i64 0, .int .i64 0, .int .i64 0, .bool false, .slice none 0 0, .bool false, .slice none 0 0, .int .i64 0, .int .i64 0, .slice none 0 0, .slice none 0 0, .slice none 0 0] 52)
 have HV := hid hv
 obtain ⟨va, vc, rfl⟩ := hv.form
 clear hv
 go_enter Tryz.func18, Tryz.ntmps18
 go_upto_region 1 with fail
 generalize w.alloc (.cells #[.int .i64 0, .int .i64 0, .int .i64 0, .int .i64 0, .int .i64 0, .int .i64 0, .int .i64 0, .int .i64 0, .bool false, .slice none 0 0, .bool false, .slice none 0 0, .int .i64 0, .int .i64 0, .slice none 0 0, .slice none 0 0, .slice none 0 0] 52) = w0 at HK0 HZ0 ⊢
 obtain ⟨Z, hZ⟩ : ∃ Z, w.heap.size = Z := ⟨_, rfl⟩
 rw [hZ] at HZ0 ⊢
 have HZZ := hid hZ
 have HKR := (show Hid (Same w0 w0) from Kept.refl _ _)
 have hZs := HK0.out.size
 have hZl := HZ0.out.lt
 clear hZ
 by_cases h20 : bs.length < 20
 ·have h20i : (bs.length : Int) < 20 := by omega
  have HT9 := (show Hid (w0.there Z 0 17) from (HZ0.out.same HKR.out).there 0 17 (by decide))
  have HB9 := (show Hid (Blk (w0.setCells Z 0 (cZ 1)) Z 52 (cZ 1)) from blk_put (HZ0.out.same HKR.out) (cZ 1) rfl)
  have HS9 := (show Hid (Same w (w0.setCells Z 0 (cZ 1))) from Kept.setCells (.inl (Nat.le_of_eq HZZ.out)) _ _ (HK0.out.trans HKR.out))
  have HRES := (show Hid (decF bs lsn least most = zeroF 1) from by unfold Hid decF; rw [if_neg (by unfold frOK; omega)])
  go_upto_region 2 with fail
  refine wp_bs 15 52 _ _ Z (cZ 1).toArray rfl rfl rfl rfl rfl rfl (fun wx => by kernel_rfl) rfl rfl HT9.out infoFr (by simp [cZ, Value.oneCell']) ?_
  generalize w0.setCells Z 0 (cZ 1).toArray.toList = W9 at HB9 HS9 ⊢
  go_wp2
  refine bodyPost_ret (v := .agg (cZ 1).toArray) ?_ rfl ?_
  ·exact endZ Tryz.results18 rfl HB9.out.rangeAll Tryz.underlying52 rfl infoFr
  ·exact ⟨⟨1, 0, 0, recZ⟩, rfl, HRES.out.symm, fun b hb => (foot_recZ hb).elim, own_recZ _, HS9.out⟩
 have HVF := hid (HV.out.2)
 rcases HVF.out with ⟨rfl, _⟩ | ⟨vb, off, vc', hve, hle, hx⟩
 ·simp at h20
 injection hve with hva _ hvc
 subst hva
 obtain ⟨c, rfl⟩ : ∃ x, x = vc := ⟨_, rfl⟩
 subst hvc
 clear hx HVF
 have hmx : bs.length ≤ maxLen := HV.out.1
 unfold maxLen at hmx
 have HC := (show Hid (∀ wx, Same w wx → ∀ i, i < bs.length → wx.cell? ⟨vb, off + i, none⟩ = some (.int .u8 (bs.getD i 0))) from fun wx hk => by
  rcases (HV.out.same hk).2 with ⟨h0, _⟩ | ⟨b', off', c', he, _, hc⟩
  ·rw [h0] at h20; simp at h20
  ·injection he with h1 _ _
   injection h1 with h1
   injection h1 with h1 h2
   subst h1 h2
   exact hc)
 have hz4 : c ≠ 4 := by omega
 have k0 := specGet_any (.slice (some ⟨vb, off, none⟩) 4 c) (bs.take 4) w0 (hB.tk 4) (by simp; omega) (Rd.part (HC.out w0 HK0.out) 0 4 (by omega) rfl (by omega) (by unfold maxLen; omega))
 go_wp2_with fail
 refine k0.mono ?_
 rintro e w1 ⟨rfl, hk1⟩
 have HK1 := (show Hid (Same w0 w1) from hk1)
 obtain ⟨sz, hsz⟩ : ∃ x, getN (bs.take 4) = x := ⟨_, rfl⟩
 rw [hsz]
 have HSZ := hid hsz
 clear hk1 hsz k0
 go_upto_region 4 with fail
 go_cut [30] (fun v wx => v = .bool (decide (sz < 33 ∨ 4131 < sz ∨ (bs.length : Int) < sz)) ∧ w1 = wx)
 case first =>
  by_cases s1 : sz < 33
  ·go_wp2
   go_meet
   case rel => exact ⟨by simp [s1], rfl⟩
  ·by_cases s2 : 4131 < sz
   ·go_wp2
    go_meet
    case rel => exact ⟨by simp [s2], rfl⟩
   ·by_cases s3 : (bs.length : Int) < sz
    ·go_wp2
     go_meet
     case rel => exact ⟨by simp [s3], rfl⟩
    ·go_wp2
     go_meet
     case rel => exact ⟨by simp [s1, s2, s3], rfl⟩
 case rest =>
  obtain ⟨hu, hw⟩ := hcut
  subst hw
  by_cases hq : sz < 33 ∨ 4131 < sz ∨ (bs.length : Int) < sz
  ·have hu2 : _ = Value.bool true := hu.trans (by rw [decide_eq_true hq])
   clear hu
   subst hu2
   have HQ := hid hq
   clear hq
   have HT9 := (show Hid (w1.there Z 0 17) from (HZ0.out.same HK1.out).there 0 17 (by decide))
   have HB9 := (show Hid (Blk (w1.setCells Z 0 (cZ 1)) Z 52 (cZ 1)) from blk_put (HZ0.out.same HK1.out) (cZ 1) rfl)
   have HS9 := (show Hid (Same w (w1.setCells Z 0 (cZ 1))) from Kept.setCells (.inl (Nat.le_of_eq HZZ.out)) _ _ (HK0.out.trans HK1.out))
   have HRES := (show Hid (decF bs lsn least most = zeroF 1) from by unfold Hid decF; rw [if_neg (by unfold frOK; rw [HSZ.out]; have := HQ.out; omega)])
   go_upto_region 5 with fail
   refine wp_bs 31 52 _ _ Z (cZ 1).toArray rfl rfl rfl rfl rfl rfl (fun wx => by kernel_rfl) rfl rfl HT9.out infoFr (by simp [cZ, Value.oneCell']) ?_
   generalize w1.setCells Z 0 (cZ 1).toArray.toList = W9 at HB9 HS9 ⊢
   go_wp2
   refine bodyPost_ret (v := .agg (cZ 1).toArray) ?_ rfl ?_
   ·exact endZ Tryz.results18 rfl HB9.out.rangeAll Tryz.underlying52 rfl infoFr
   ·exact ⟨⟨1, 0, 0, recZ⟩, rfl, HRES.out.symm, fun b hb => (foot_recZ hb).elim, own_recZ _, HS9.out⟩
  have hu2 : _ = Value.bool false := hu.trans (by rw [decide_eq_false hq])
  clear hu
  subst hu2
  obtain ⟨s, hs⟩ : ∃ s : Nat, sz = (s : Int) := ⟨sz.toNat, by omega⟩
  subst hs
  have hs1 : 33 ≤ s := by omega
  have hs2 : s ≤ 4131 := by omega
  have hs3 : s ≤ bs.length := by omega
  have HDF := (show Hid (decF bs lsn least most = decG bs s lsn least most) from by unfold Hid decF; rw [if_pos (by unfold frOK; rw [HSZ.out]; omega), HSZ.out, Int.toNat_natCast])
  clear hq h20
  have hsc : s ≤ c := by omega
  have h8s : (8 : Int) ≤ (s : Int) := by omega
  have h20s : (20 : Int) ≤ (s : Int) := by omega
  have e4 : ¬ c = 4 := by omega
  have e8 : ¬ c = 8 := by omega
  have e16 : ¬ c = 16 := by omega
  have e20 : ¬ c = 20 := by omega
  have HP := (show Hid (∀ wx, Same w0 wx → ∀ lo m, lo + m ≤ bs.length → Rd .u8 wx (.slice (some ⟨vb, off + lo, none⟩) m (c - lo)) ((bs.drop lo).take m)) from fun wx hk lo m h => Rd.part (HC.out wx (HK0.out.trans hk)) lo m h rfl (by omega) (by unfold maxLen; omega))
  go_upto_region 6 with fail
  have hS : (fun wx : World => Same w0 wx) w1.drew := HK1.out.next ((Kept.refl (fun _ => False) w1).drew) (fun _ _ e => e.elim)
  refine wp_region_V (fun wx : World => Same w0 wx) 99 8 rfl (by kernel_rfl) ?_
  refine tk 0 32 hS ?_
  refine tkV 1 33 (.slice (some ⟨vb, off + 4, none⟩) 4 (c - 4)) hS ?_
  refine tk 3 35 hS ?_
  refine tk 4 36 hS ?_
  refine tkV 5 37 (.slice (some ⟨vb, off + 8, none⟩) (s - 8) (c - 8)) hS ?_
  refine wpAnyV_one (i := 2) (by kernel_rfl) rfl (fun Kc hK => ?_)
  go_simp
  refine (specGet_any _ ((bs.drop 4).take 4) _ ((hB.dropI 4).tk 4) (by simp; omega) (HP.out _ hS 4 4 (by omega))).mono ?_
  rintro e w2 ⟨rfl, hk2⟩
  have hS : (fun wx : World => Same w0 wx) w2 := Kept.trans hS hk2
  refine hK.out _ _ (fun _ => hS) ?_
  clear hK Kc
  try simp only [Act.put, sA, s0, sS]
  refine wpAnyV_one (i := 6) (by kernel_rfl) rfl (fun Kc hK => ?_)
  go_simp
  refine (specCrc_any _ ((bs.drop 8).take (s - 8)) _ ((hB.dropI 8).tk _) (by simp; omega) (HP.out _ hS 8 (s - 8) (by omega))).mono ?_
  rintro e w3 ⟨rfl, hk3⟩
  have hS : (fun wx : World => Same w0 wx) w3 := Kept.trans hS hk3
  refine hK.out _ _ (fun _ => hS) ?_
  clear hK Kc
  try simp only [Act.put, sA, s0, sS]
  obtain ⟨g4, hg4⟩ : ∃ x, getN ((bs.drop 4).take 4) = x := ⟨_, rfl⟩
  obtain ⟨cr, hcr⟩ : ∃ x, crcOn 0 ((bs.drop 8).take (s - 8)) = x := ⟨_, rfl⟩
  rw [hg4, hcr]
  have HG4 := hid hg4
  have HCR := hid hcr
  clear hg4 hcr
  refine tk 7 39 hS ?_
  refine wpAnyV_done (by kernel_rfl) ?_
  try simp only [Act.put, sA, s0, sS]
  have HK3 := hid hS
  clear hk2 hk3 hS
  by_cases hne : g4 = cr
  ·have hneb : (g4 != cr) = false := by simp [hne]
   have HNE := hid hne
   clear hne
   have k8 := specGet_any _ ((bs.drop 8).take 8) w3 ((hB.dropI 8).tk 8) (by simp; omega) (HP.out _ HK3.out 8 8 (by omega))
   go_wp2_with fail
   refine k8.mono ?_
   rintro e w4 ⟨rfl, hk4⟩
   have HK4 := hid (HK3.out.trans hk4)
   obtain ⟨g8, hg8⟩ : ∃ x, getN ((bs.drop 8).take 8) = x := ⟨_, rfl⟩
   rw [hg8]
   have HG8 := hid hg8
   clear hg8 hk4 k8
   by_cases hq8 : g8 ≠ lsn ∨ lsn < 0
   ·have HQ8 := hid hq8
    have HRES3 := (show Hid (decF bs lsn least most = zeroF 3) from by unfold Hid; rw [HDF.out]; unfold decG; rw [if_neg (by rw [HG4.out, HCR.out, HNE.out]; simp), if_pos (by rw [HG8.out]; exact HQ8.out)])
    by_cases q1 : g8 = lsn
    ·have q1b : (g8 != lsn) = false := by simp [q1]
     have q2 : lsn < 0 := by rcases hq8 with h | h; exact absurd q1 h; exact h
     clear hq8
     have HT9 := (show Hid (w4.there Z 0 17) from (HZ0.out.same HK4.out).there 0 17 (by decide))
     have HB9 := (show Hid (Blk (w4.setCells Z 0 (cZ 3)) Z 52 (cZ 3)) from blk_put (HZ0.out.same HK4.out) (cZ 3) rfl)
     have HS9 := (show Hid (Same w (w4.setCells Z 0 (cZ 3))) from Kept.setCells (.inl (Nat.le_of_eq HZZ.out)) _ _ (HK0.out.trans HK4.out))
     have HRES := (show Hid (decF bs lsn least most = zeroF 3) from by exact HRES3.out)
     go_upto_region 9 with fail
     refine wp_bs 50 52 _ _ Z (cZ 3).toArray rfl rfl rfl rfl rfl rfl (fun wx => by kernel_rfl) rfl rfl HT9.out infoFr (by simp [cZ, Value.oneCell']) ?_
     generalize w4.setCells Z 0 (cZ 3).toArray.toList = W9 at HB9 HS9 ⊢
     go_wp2
     refine bodyPost_ret (v := .agg (cZ 3).toArray) ?_ rfl ?_
     ·exact endZ Tryz.results18 rfl HB9.out.rangeAll Tryz.underlying52 rfl infoFr
     ·exact ⟨⟨3, 0, 0, recZ⟩, rfl, HRES.out.symm, fun b hb => (foot_recZ hb).elim, own_recZ _, HS9.out⟩
    ·have q1b : (g8 != lsn) = true := by simp [q1]
     clear hq8
     have HT9 := (show Hid (w4.there Z 0 17) from (HZ0.out.same HK4.out).there 0 17 (by decide))
     have HB9 := (show Hid (Blk (w4.setCells Z 0 (cZ 3)) Z 52 (cZ 3)) from blk_put (HZ0.out.same HK4.out) (cZ 3) rfl)
     have HS9 := (show Hid (Same w (w4.setCells Z 0 (cZ 3))) from Kept.setCells (.inl (Nat.le_of_eq HZZ.out)) _ _ (HK0.out.trans HK4.out))
     have HRES := (show Hid (decF bs lsn least most = zeroF 3) from by exact HRES3.out)
     go_upto_region 9 with fail
     refine wp_bs 50 52 _ _ Z (cZ 3).toArray rfl rfl rfl rfl rfl rfl (fun wx => by kernel_rfl) rfl rfl HT9.out infoFr (by simp [cZ, Value.oneCell']) ?_
     generalize w4.setCells Z 0 (cZ 3).toArray.toList = W9 at HB9 HS9 ⊢
     go_wp2
     refine bodyPost_ret (v := .agg (cZ 3).toArray) ?_ rfl ?_
     ·exact endZ Tryz.results18 rfl HB9.out.rangeAll Tryz.underlying52 rfl infoFr
     ·exact ⟨⟨3, 0, 0, recZ⟩, rfl, HRES.out.symm, fun b hb => (foot_recZ hb).elim, own_recZ _, HS9.out⟩
   have HQ8 := hid hq8
   have q1 : g8 = lsn := by omega
   have q1b : (g8 != lsn) = false := by simp [q1]
   have q2 : ¬ lsn < 0 := by omega
   have k16 := specGet_any _ ((bs.drop 16).take 4) w4 ((hB.dropI 16).tk 4) (by simp; omega) (HP.out _ HK4.out 16 4 (by omega))
   clear hq8 q1
   go_wp2_with fail
   refine k16.mono ?_
   rintro e w5 ⟨rfl, hk5⟩
   have HK5 := hid (HK4.out.trans hk5)
   obtain ⟨ep, hep⟩ : ∃ x, getN ((bs.drop 16).take 4) = x := ⟨_, rfl⟩
   rw [hep]
   have HEP := hid hep
   clear hep hk5 k16
   by_cases hq16 : ep < least ∨ most < ep
   ·have HQ16 := hid hq16
    have HRES4 := (show Hid (decF bs lsn least most = zeroF 4) from by unfold Hid; rw [HDF.out]; unfold decG; rw [if_neg (by rw [HG4.out, HCR.out, HNE.out]; simp), if_neg (by rw [HG8.out]; exact HQ8.out), if_pos (by rw [HEP.out]; exact HQ16.out)])
    by_cases q3 : ep < least
    ·clear hq16
     have HT9 := (show Hid (w5.there Z 0 17) from (HZ0.out.same HK5.out).there 0 17 (by decide))
     have HB9 := (show Hid (Blk (w5.setCells Z 0 (cZ 4)) Z 52 (cZ 4)) from blk_put (HZ0.out.same HK5.out) (cZ 4) rfl)
     have HS9 := (show Hid (Same w (w5.setCells Z 0 (cZ 4))) from Kept.setCells (.inl (Nat.le_of_eq HZZ.out)) _ _ (HK0.out.trans HK5.out))
     have HRES := (show Hid (decF bs lsn least most = zeroF 4) from by exact HRES4.out)
     go_upto_region 12 with fail
     refine wp_bs 62 52 _ _ Z (cZ 4).toArray rfl rfl rfl rfl rfl rfl (fun wx => by kernel_rfl) rfl rfl HT9.out infoFr (by simp [cZ, Value.oneCell']) ?_
     generalize w5.setCells Z 0 (cZ 4).toArray.toList = W9 at HB9 HS9 ⊢
     go_wp2
     refine bodyPost_ret (v := .agg (cZ 4).toArray) ?_ rfl ?_
     ·exact endZ Tryz.results18 rfl HB9.out.rangeAll Tryz.underlying52 rfl infoFr
     ·exact ⟨⟨4, 0, 0, recZ⟩, rfl, HRES.out.symm, fun b hb => (foot_recZ hb).elim, own_recZ _, HS9.out⟩
    ·have q4 : most < ep := by omega
     clear hq16
     have HT9 := (show Hid (w5.there Z 0 17) from (HZ0.out.same HK5.out).there 0 17 (by decide))
     have HB9 := (show Hid (Blk (w5.setCells Z 0 (cZ 4)) Z 52 (cZ 4)) from blk_put (HZ0.out.same HK5.out) (cZ 4) rfl)
     have HS9 := (show Hid (Same w (w5.setCells Z 0 (cZ 4))) from Kept.setCells (.inl (Nat.le_of_eq HZZ.out)) _ _ (HK0.out.trans HK5.out))
     have HRES := (show Hid (decF bs lsn least most = zeroF 4) from by exact HRES4.out)
     go_upto_region 12 with fail
     refine wp_bs 62 52 _ _ Z (cZ 4).toArray rfl rfl rfl rfl rfl rfl (fun wx => by kernel_rfl) rfl rfl HT9.out infoFr (by simp [cZ, Value.oneCell']) ?_
     generalize w5.setCells Z 0 (cZ 4).toArray.toList = W9 at HB9 HS9 ⊢
     go_wp2
     refine bodyPost_ret (v := .agg (cZ 4).toArray) ?_ rfl ?_
     ·exact endZ Tryz.results18 rfl HB9.out.rangeAll Tryz.underlying52 rfl infoFr
     ·exact ⟨⟨4, 0, 0, recZ⟩, rfl, HRES.out.symm, fun b hb => (foot_recZ hb).elim, own_recZ _, HS9.out⟩
   have HQ16 := hid hq16
   have q3 : ¬ ep < least := by omega
   have q4 : ¬ most < ep := by omega
   have k20 := specDec_any (.slice (some ⟨vb, off + 20, none⟩) (s - 20) (c - 20)) ((bs.drop 20).take (s - 20)) w5 ((hB.dropI 20).tk _) (by simp; omega) (HP.out _ HK5.out 20 (s - 20) (by omega))
   clear hq16
   go_wp2_with fail
   refine k20.mono ?_
   rintro e w6 ⟨⟨g, z⟩, rfl, hd, hf, ho, hk6⟩
   have HK6 := hid (HK5.out.trans hk6)
   have HD := (show Hid ((g, z.dat) = decD ((bs.drop 20).take (s - 20))) from hd)
   have HF := (show Hid (∀ b, FootL z.rows b → w5.heap.size ≤ b) from hf)
   have HO := (show Hid (OwnL w6 z.rows) from ho)
   have hs5 := HK5.out.size
   have hs6 := HK6.out.size
   have HRC := (show Hid (decF bs lsn least most = if g = true then (0, (s : Int), ep, z.dat) else zeroF 5) from by unfold Hid; rw [HDF.out]; unfold decG; rw [if_neg (by rw [HG4.out, HCR.out, HNE.out]; simp), if_neg (by rw [HG8.out]; exact HQ8.out), if_neg (by rw [HEP.out]; exact HQ16.out), ← HD.out, HEP.out])
   dsimp only [StRecordResult.val, BS.v, FR.v]
   have HX := (show Hid (Blk (w6.alloc (.cells #[.bool g, .int .i64 z.kind, .int .i64 z.txn, .int .i64 z.prev, .int .i64 z.page, .int .i64 z.slot, .bool z.before.used, .slice z.before.data.a z.before.data.bs.length z.before.data.c, .bool z.after.used, .slice z.after.data.a z.after.data.bs.length z.after.data.c, .int .i64 z.uN, .int .i64 z.nT, .slice z.txns.a z.txns.n z.txns.c, .slice z.dirty.a z.dirty.n z.dirty.c, .slice z.image.a z.image.bs.length z.image.c] 79)) w6.heap.size 79 [.bool g, .int .i64 z.kind, .int .i64 z.txn, .int .i64 z.prev, .int .i64 z.page, .int .i64 z.slot, .bool z.before.used, .slice z.before.data.a z.before.data.bs.length z.before.data.c, .bool z.after.used, .slice z.after.data.a z.after.data.bs.length z.after.data.c, .int .i64 z.uN, .int .i64 z.nT, .slice z.txns.a z.txns.n z.txns.c, .slice z.dirty.a z.dirty.n z.dirty.c, .slice z.image.a z.image.bs.length z.image.c]) from Blk.newL w6 [.bool g, .int .i64 z.kind, .int .i64 z.txn, .int .i64 z.prev, .int .i64 z.page, .int .i64 z.slot, .bool z.before.used, .slice z.before.data.a z.before.data.bs.length z.before.data.c, .bool z.after.used, .slice z.after.data.a z.after.data.bs.length z.after.data.c, .int .i64 z.uN, .int .i64 z.nT, .slice z.txns.a z.txns.n z.txns.c, .slice z.dirty.a z.dirty.n z.dirty.c, .slice z.image.a z.image.bs.length z.image.c] 79)
   have HK7 := (show Hid (Same w0 (w6.alloc (.cells #[.bool g, .int .i64 z.kind, .int .i64 z.txn, .int .i64 z.prev, .int .i64 z.page, .int .i64 z.slot, .bool z.before.used, .slice z.before.data.a z.before.data.bs.length z.before.data.c, .bool z.after.used, .slice z.after.data.a z.after.data.bs.length z.after.data.c, .int .i64 z.uN, .int .i64 z.nT, .slice z.txns.a z.txns.n z.txns.c, .slice z.dirty.a z.dirty.n z.dirty.c, .slice z.image.a z.image.bs.length z.image.c] 79))) from HK6.out.alloc _)
   have HO7 := (show Hid (OwnL (w6.alloc (.cells #[.bool g, .int .i64 z.kind, .int .i64 z.txn, .int .i64 z.prev, .int .i64 z.page, .int .i64 z.slot, .bool z.before.used, .slice z.before.data.a z.before.data.bs.length z.before.data.c, .bool z.after.used, .slice z.after.data.a z.after.data.bs.length z.after.data.c, .int .i64 z.uN, .int .i64 z.nT, .slice z.txns.a z.txns.n z.txns.c, .slice z.dirty.a z.dirty.n z.dirty.c, .slice z.image.a z.image.bs.length z.image.c] 79)) z.rows) from HO.out.same ((Kept.refl _ _).alloc _))
   clear hd hf ho hk6 k20 HO HK6
   go_upto_region 14 with fail
   generalize w6.alloc (.cells #[.bool g, .int .i64 z.kind, .int .i64 z.txn, .int .i64 z.prev, .int .i64 z.page, .int .i64 z.slot, .bool z.before.used, .slice z.before.data.a z.before.data.bs.length z.before.data.c, .bool z.after.used, .slice z.after.data.a z.after.data.bs.length z.after.data.c, .int .i64 z.uN, .int .i64 z.nT, .slice z.txns.a z.txns.n z.txns.c, .slice z.dirty.a z.dirty.n z.dirty.c, .slice z.image.a z.image.bs.length z.image.c] 79) = w7 at HX HK7 HO7 ⊢
   obtain ⟨X, hX⟩ : ∃ X, w6.heap.size = X := ⟨_, rfl⟩
   rw [hX] at HX hs6 ⊢
   clear hX
   cases g with
   | false =>
    obtain ⟨x0, x1, x2, x3, x4, x5, x6, x7, x8, x9, x10, x11, x12, x13, x14⟩ := HX.out.all15
    have HRES5 := (show Hid (decF bs lsn least most = zeroF 5) from by unfold Hid; rw [HRC.out]; rfl)
    have HT9 := (show Hid (w7.there Z 0 17) from (HZ0.out.same HK7.out).there 0 17 (by decide))
    have HB9 := (show Hid (Blk (w7.setCells Z 0 (cZ 5)) Z 52 (cZ 5)) from blk_put (HZ0.out.same HK7.out) (cZ 5) rfl)
    have HS9 := (show Hid (Same w (w7.setCells Z 0 (cZ 5))) from Kept.setCells (.inl (Nat.le_of_eq HZZ.out)) _ _ (HK0.out.trans HK7.out))
    have HRES := (show Hid (decF bs lsn least most = zeroF 5) from by exact HRES5.out)
    go_upto_region 15 with fail
    refine wp_bs 70 52 _ _ Z (cZ 5).toArray rfl rfl rfl rfl rfl rfl (fun wx => by kernel_rfl) rfl rfl HT9.out infoFr (by simp [cZ, Value.oneCell']) ?_
    generalize w7.setCells Z 0 (cZ 5).toArray.toList = W9 at HB9 HS9 ⊢
    go_wp2
    refine bodyPost_ret (v := .agg (cZ 5).toArray) ?_ rfl ?_
    ·exact endZ Tryz.results18 rfl HB9.out.rangeAll Tryz.underlying52 rfl infoFr
    ·exact ⟨⟨5, 0, 0, recZ⟩, rfl, HRES.out.symm, fun b hb => (foot_recZ hb).elim, own_recZ _, HS9.out⟩
   | true =>
    obtain ⟨x0, x1, x2, x3, x4, x5, x6, x7, x8, x9, x10, x11, x12, x13, x14⟩ := HX.out.all15
    have hXl := HX.out.lt
    have HRES0 := (show Hid (decF bs lsn least most = (0, (s : Int), ep, z.dat)) from by unfold Hid; rw [HRC.out]; rfl)
    obtain ⟨z0, z1, z2, z3, z4, z5, z6, z7, z8, z9, z10, z11, z12, z13, z14, z15, z16⟩ := (HZ0.out.same HK7.out).all17
    have fz := (HZ0.out.same HK7.out).frozen
    have hZ9 := (HZ0.out.same HK7.out).lt
    obtain ⟨W9, hW9⟩ : ∃ x, (((((((((((((((((w7.setCell ⟨Z, 0, none⟩ (.int .i64 0)).setCell ⟨Z, 1, none⟩ (.int .i64 (s : Int))).setCell ⟨Z, 2, none⟩ (.int .i64 ep)).setCell ⟨Z, 3, none⟩ (.int .i64 z.kind)).setCell ⟨Z, 4, none⟩ (.int .i64 z.txn)).setCell ⟨Z, 5, none⟩ (.int .i64 z.prev)).setCell ⟨Z, 6, none⟩ (.int .i64 z.page)).setCell ⟨Z, 7, none⟩ (.int .i64 z.slot)).setCell ⟨Z, 8, none⟩ (.bool z.before.used)).setCell ⟨Z, 9, none⟩ (.slice z.before.data.a z.before.data.bs.length z.before.data.c)).setCell ⟨Z, 10, none⟩ (.bool z.after.used)).setCell ⟨Z, 11, none⟩ (.slice z.after.data.a z.after.data.bs.length z.after.data.c)).setCell ⟨Z, 12, none⟩ (.int .i64 z.uN)).setCell ⟨Z, 13, none⟩ (.int .i64 z.nT)).setCell ⟨Z, 14, none⟩ (.slice z.txns.a z.txns.n z.txns.c)).setCell ⟨Z, 15, none⟩ (.slice z.dirty.a z.dirty.n z.dirty.c)).setCell ⟨Z, 16, none⟩ (.slice z.image.a z.image.bs.length z.image.c)) = x := ⟨_, rfl⟩
    have HB9 := (show Hid (Blk W9 Z 52 [.int .i64 0, .int .i64 (s : Int), .int .i64 ep, .int .i64 z.kind, .int .i64 z.txn, .int .i64 z.prev, .int .i64 z.page, .int .i64 z.slot, .bool z.before.used, .slice z.before.data.a z.before.data.bs.length z.before.data.c, .bool z.after.used, .slice z.after.data.a z.after.data.bs.length z.after.data.c, .int .i64 z.uN, .int .i64 z.nT, .slice z.txns.a z.txns.n z.txns.c, .slice z.dirty.a z.dirty.n z.dirty.c, .slice z.image.a z.image.bs.length z.image.c]) from hW9 ▸ (show Blk (((((((((((((((((w7.setCell ⟨Z, 0, none⟩ (.int .i64 0)).setCell ⟨Z, 1, none⟩ (.int .i64 (s : Int))).setCell ⟨Z, 2, none⟩ (.int .i64 ep)).setCell ⟨Z, 3, none⟩ (.int .i64 z.kind)).setCell ⟨Z, 4, none⟩ (.int .i64 z.txn)).setCell ⟨Z, 5, none⟩ (.int .i64 z.prev)).setCell ⟨Z, 6, none⟩ (.int .i64 z.page)).setCell ⟨Z, 7, none⟩ (.int .i64 z.slot)).setCell ⟨Z, 8, none⟩ (.bool z.before.used)).setCell ⟨Z, 9, none⟩ (.slice z.before.data.a z.before.data.bs.length z.before.data.c)).setCell ⟨Z, 10, none⟩ (.bool z.after.used)).setCell ⟨Z, 11, none⟩ (.slice z.after.data.a z.after.data.bs.length z.after.data.c)).setCell ⟨Z, 12, none⟩ (.int .i64 z.uN)).setCell ⟨Z, 13, none⟩ (.int .i64 z.nT)).setCell ⟨Z, 14, none⟩ (.slice z.txns.a z.txns.n z.txns.c)).setCell ⟨Z, 15, none⟩ (.slice z.dirty.a z.dirty.n z.dirty.c)).setCell ⟨Z, 16, none⟩ (.slice z.image.a z.image.bs.length z.image.c)) Z 52 [.int .i64 0, .int .i64 (s : Int), .int .i64 ep, .int .i64 z.kind, .int .i64 z.txn, .int .i64 z.prev, .int .i64 z.page, .int .i64 z.slot, .bool z.before.used, .slice z.before.data.a z.before.data.bs.length z.before.data.c, .bool z.after.used, .slice z.after.data.a z.after.data.bs.length z.after.data.c, .int .i64 z.uN, .int .i64 z.nT, .slice z.txns.a z.txns.n z.txns.c, .slice z.dirty.a z.dirty.n z.dirty.c, .slice z.image.a z.image.bs.length z.image.c] from ((((((((((((((((((HZ0.out.same HK7.out).stored 0 _).stored 1 _).stored 2 _).stored 3 _).stored 4 _).stored 5 _).stored 6 _).stored 7 _).stored 8 _).stored 9 _).stored 10 _).stored 11 _).stored 12 _).stored 13 _).stored 14 _).stored 15 _).stored 16 _)))
    have HS9 := (show Hid (Same w W9) from hW9 ▸ set17 (HK0.out.trans HK7.out) (Nat.le_of_eq HZZ.out) (.int .i64 0) (.int .i64 (s : Int)) (.int .i64 ep) (.int .i64 z.kind) (.int .i64 z.txn) (.int .i64 z.prev) (.int .i64 z.page) (.int .i64 z.slot) (.bool z.before.used) (.slice z.before.data.a z.before.data.bs.length z.before.data.c) (.bool z.after.used) (.slice z.after.data.a z.after.data.bs.length z.after.data.c) (.int .i64 z.uN) (.int .i64 z.nT) (.slice z.txns.a z.txns.n z.txns.c) (.slice z.dirty.a z.dirty.n z.dirty.c) (.slice z.image.a z.image.bs.length z.image.c))
    have HW9 := hid hW9
    clear hW9
    have HO9 := (show Hid (OwnL W9 z.rows) from HO7.out.kept (R := fun b => b = Z) (HW9.out ▸ kept17 _ _ (.int .i64 0) (.int .i64 (s : Int)) (.int .i64 ep) (.int .i64 z.kind) (.int .i64 z.txn) (.int .i64 z.prev) (.int .i64 z.page) (.int .i64 z.slot) (.bool z.before.used) (.slice z.before.data.a z.before.data.bs.length z.before.data.c) (.bool z.after.used) (.slice z.after.data.a z.after.data.bs.length z.after.data.c) (.int .i64 z.uN) (.int .i64 z.nT) (.slice z.txns.a z.txns.n z.txns.c) (.slice z.dirty.a z.dirty.n z.dirty.c) (.slice z.image.a z.image.bs.length z.image.c)) (fun b hb e => by have := HF.out b hb; omega))
    go_wp2
    rw [HW9.out]
    refine bodyPost_ret (v := .agg #[.int .i64 0, .int .i64 (s : Int), .int .i64 ep, .int .i64 z.kind, .int .i64 z.txn, .int .i64 z.prev, .int .i64 z.page, .int .i64 z.slot, .bool z.before.used, .slice z.before.data.a z.before.data.bs.length z.before.data.c, .bool z.after.used, .slice z.after.data.a z.after.data.bs.length z.after.data.c, .int .i64 z.uN, .int .i64 z.nT, .slice z.txns.a z.txns.n z.txns.c, .slice z.dirty.a z.dirty.n z.dirty.c, .slice z.image.a z.image.bs.length z.image.c]) ?_ rfl ?_
    ·exact endZ (cs := [.int .i64 0, .int .i64 (s : Int), .int .i64 ep, .int .i64 z.kind, .int .i64 z.txn, .int .i64 z.prev, .int .i64 z.page, .int .i64 z.slot, .bool z.before.used, .slice z.before.data.a z.before.data.bs.length z.before.data.c, .bool z.after.used, .slice z.after.data.a z.after.data.bs.length z.after.data.c, .int .i64 z.uN, .int .i64 z.nT, .slice z.txns.a z.txns.n z.txns.c, .slice z.dirty.a z.dirty.n z.dirty.c, .slice z.image.a z.image.bs.length z.image.c]) Tryz.results18 rfl HB9.out.rangeAll Tryz.underlying52 rfl infoFr
    ·exact ⟨⟨0, (s : Int), ep, z⟩, rfl, HRES0.out.symm, fun b hb => by have := HF.out b hb; have := HZZ.out; have := HK0.out.size; omega, HO9.out, HS9.out⟩
  ·have hneb : (g4 != cr) = true := by simp [hne]
   have HNE := hid hne
   clear hne
   obtain ⟨z0, z1, z2, z3, z4, z5, z6, z7, z8, z9, z10, z11, z12, z13, z14, z15, z16⟩ := (HZ0.out.same HK3.out).all17
   have fz := (HZ0.out.same HK3.out).frozen
   have hZ9 := (HZ0.out.same HK3.out).lt
   obtain ⟨W9, hW9⟩ : ∃ x, (((((((((((((((((w3.setCell ⟨Z, 0, none⟩ (.int .i64 2)).setCell ⟨Z, 1, none⟩ (.int .i64 0)).setCell ⟨Z, 2, none⟩ (.int .i64 0)).setCell ⟨Z, 3, none⟩ (.int .i64 0)).setCell ⟨Z, 4, none⟩ (.int .i64 0)).setCell ⟨Z, 5, none⟩ (.int .i64 0)).setCell ⟨Z, 6, none⟩ (.int .i64 0)).setCell ⟨Z, 7, none⟩ (.int .i64 0)).setCell ⟨Z, 8, none⟩ (.bool false)).setCell ⟨Z, 9, none⟩ (.slice none 0 0)).setCell ⟨Z, 10, none⟩ (.bool false)).setCell ⟨Z, 11, none⟩ (.slice none 0 0)).setCell ⟨Z, 12, none⟩ (.int .i64 0)).setCell ⟨Z, 13, none⟩ (.int .i64 0)).setCell ⟨Z, 14, none⟩ (.slice none 0 0)).setCell ⟨Z, 15, none⟩ (.slice none 0 0)).setCell ⟨Z, 16, none⟩ (.slice none 0 0)) = x := ⟨_, rfl⟩
   have HB9 := (show Hid (Blk W9 Z 52 [.int .i64 2, .int .i64 0, .int .i64 0, .int .i64 0, .int .i64 0, .int .i64 0, .int .i64 0, .int .i64 0, .bool false, .slice none 0 0, .bool false, .slice none 0 0, .int .i64 0, .int .i64 0, .slice none 0 0, .slice none 0 0, .slice none 0 0]) from hW9 ▸ (show Blk (((((((((((((((((w3.setCell ⟨Z, 0, none⟩ (.int .i64 2)).setCell ⟨Z, 1, none⟩ (.int .i64 0)).setCell ⟨Z, 2, none⟩ (.int .i64 0)).setCell ⟨Z, 3, none⟩ (.int .i64 0)).setCell ⟨Z, 4, none⟩ (.int .i64 0)).setCell ⟨Z, 5, none⟩ (.int .i64 0)).setCell ⟨Z, 6, none⟩ (.int .i64 0)).setCell ⟨Z, 7, none⟩ (.int .i64 0)).setCell ⟨Z, 8, none⟩ (.bool false)).setCell ⟨Z, 9, none⟩ (.slice none 0 0)).setCell ⟨Z, 10, none⟩ (.bool false)).setCell ⟨Z, 11, none⟩ (.slice none 0 0)).setCell ⟨Z, 12, none⟩ (.int .i64 0)).setCell ⟨Z, 13, none⟩ (.int .i64 0)).setCell ⟨Z, 14, none⟩ (.slice none 0 0)).setCell ⟨Z, 15, none⟩ (.slice none 0 0)).setCell ⟨Z, 16, none⟩ (.slice none 0 0)) Z 52 [.int .i64 2, .int .i64 0, .int .i64 0, .int .i64 0, .int .i64 0, .int .i64 0, .int .i64 0, .int .i64 0, .bool false, .slice none 0 0, .bool false, .slice none 0 0, .int .i64 0, .int .i64 0, .slice none 0 0, .slice none 0 0, .slice none 0 0] from ((((((((((((((((((HZ0.out.same HK3.out).stored 0 _).stored 1 _).stored 2 _).stored 3 _).stored 4 _).stored 5 _).stored 6 _).stored 7 _).stored 8 _).stored 9 _).stored 10 _).stored 11 _).stored 12 _).stored 13 _).stored 14 _).stored 15 _).stored 16 _)))
   have HS9 := (show Hid (Same w W9) from hW9 ▸ set17 (HK0.out.trans HK3.out) (Nat.le_of_eq HZZ.out) (.int .i64 2) (.int .i64 0) (.int .i64 0) (.int .i64 0) (.int .i64 0) (.int .i64 0) (.int .i64 0) (.int .i64 0) (.bool false) (.slice none 0 0) (.bool false) (.slice none 0 0) (.int .i64 0) (.int .i64 0) (.slice none 0 0) (.slice none 0 0) (.slice none 0 0))
   have HW9 := hid hW9
   clear hW9
   have HRES := (show Hid (decF bs lsn least most = zeroF 2) from by unfold Hid; rw [HDF.out]; unfold decG; rw [if_pos (by rw [HG4.out, HCR.out]; exact HNE.out)])
   go_wp2
   rw [HW9.out]
   refine bodyPost_ret (v := .agg #[.int .i64 2, .int .i64 0, .int .i64 0, .int .i64 0, .int .i64 0, .int .i64 0, .int .i64 0, .int .i64 0, .bool false, .slice none 0 0, .bool false, .slice none 0 0, .int .i64 0, .int .i64 0, .slice none 0 0, .slice none 0 0, .slice none 0 0]) ?_ rfl ?_
   ·exact endZ (cs := [.int .i64 2, .int .i64 0, .int .i64 0, .int .i64 0, .int .i64 0, .int .i64 0, .int .i64 0, .int .i64 0, .bool false, .slice none 0 0, .bool false, .slice none 0 0, .int .i64 0, .int .i64 0, .slice none 0 0, .slice none 0 0, .slice none 0 0]) Tryz.results18 rfl HB9.out.rangeAll Tryz.underlying52 rfl infoFr
   ·exact ⟨⟨2, 0, 0, recZ⟩, rfl, HRES.out.symm, fun b hb => (foot_recZ hb).elim, own_recZ _, HS9.out⟩
end Go.Proofs.YtaojjcnmififoaaGreat
