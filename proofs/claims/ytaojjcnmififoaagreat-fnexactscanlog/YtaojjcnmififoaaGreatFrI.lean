import Derived.Test.YtaojjcnmififoaaGreatG28
import Derived.Test.YtaojjcnmififoaaGreatDecImp
import Derived.Test.YtaojjcnmififoaaGreatG08
import Derived.Test.YtaojjcnmififoaaGreatG09
import Derived.Test.YtaojjcnmififoaaGreatG19
import Derived.Test.YtaojjcnmififoaaGreatG07
import Derived.Deep.DeepCutAuto
namespace Go.Proofs.YtaojjcnmififoaaGreat
set_option maxRecDepth 100000
set_option maxHeartbeats 8000000
set_option linter.unusedVariables false
set_option linter.unusedSimpArgs false
open Go.RowKit
def CutR (v : Value) (bs : List Int) (e : Ending) : Prop := (frOK bs ∧ ∃ vb off c, v = .slice (some ⟨vb, off, none⟩) bs.length c ∧ bs.length ≤ c ∧ e = .returned (.slice (some ⟨vb, off, none⟩) (getN (bs.take 4)).toNat c)) ∨ (¬ frOK bs ∧ e = .returned (.slice none 0 0))
theorem cutFrame_any (v : Value) (bs : List Int) (w : World) (hB : IsB bs) (hl : bs.length ≤ 1099511627776) (hv : Rd .u8 w v bs) : Calls Tryz.prog 47 #[v] w fun e w' => CutR v bs e ∧ Same w w' := by
 have HV := hid hv
 obtain ⟨va, vc, rfl⟩ := hv.form
 clear hv
 by_cases h20 : bs.length < 20
 ·have h20i : (bs.length : Int) < 20 := by omega
  have HNF := (show Hid (¬ frOK bs) from by unfold Hid frOK; omega)
  go_enter Tryz.func47, Tryz.ntmps47
  go_wp2
  go_ret
  exact ⟨.inr ⟨HNF.out, rfl⟩, Kept.refl _ _⟩
 have HVF := hid (HV.out.2)
 rcases HVF.out with ⟨rfl, _⟩ | ⟨vb, off, vc', hve, hle, hx⟩
 ·simp at h20
 injection hve with hva _ hvc
 subst hva
 obtain ⟨c, rfl⟩ : ∃ x, x = vc := ⟨_, rfl⟩
 subst hvc
 have hmx : bs.length ≤ maxLen := HV.out.1
 unfold maxLen at hmx
 have k0 := implGet_any (.slice (some ⟨vb, off, none⟩) 4 c) (bs.take 4) w (hB.tk 4) (by simp; omega) (Rd.part hx 0 4 (by omega) rfl (by omega) (by unfold maxLen; omega))
 clear hx HVF
 obtain ⟨sz, hsz⟩ : ∃ x, getN (bs.take 4) = x := ⟨_, rfl⟩
 rw [hsz] at k0
 have HSZ := hid hsz
 have HFR := (show Hid (frOK bs ↔ (33 ≤ sz ∧ sz ≤ 4131 ∧ sz ≤ bs.length)) from by unfold Hid frOK; rw [hsz]; omega)
 clear hsz
 by_cases hq : 33 ≤ sz ∧ sz ≤ 4131 ∧ sz ≤ bs.length
 ·have HNF := (show Hid (frOK bs) from HFR.out.2 hq)
  obtain ⟨s, rfl⟩ : ∃ s : Nat, sz = (s : Int) := ⟨sz.toNat, by omega⟩
  have s1 : ¬ (s : Int) < 33 := by omega
  have s2 : ¬ (4131 : Int) < (s : Int) := by omega
  have s3 : ¬ (bs.length : Int) < (s : Int) := by omega
  have hsc : s ≤ c := by omega
  clear hq HFR
  go_enter Tryz.func47, Tryz.ntmps47
  go_wp2_with fail
  refine k0.mono ?_
  rintro e w1 ⟨rfl, hk1⟩
  have HK1 := (show Hid (Same w w1) from hk1)
  clear hk1 k0
  go_wp2
  go_ret
  exact ⟨.inl ⟨HNF.out, vb, off, c, rfl, hle, by rw [HSZ.out, Int.toNat_natCast]; rfl⟩, HK1.out⟩
 ·have HNF := (show Hid (¬ frOK bs) from fun h => hq (HFR.out.1 h))
  go_enter Tryz.func47, Tryz.ntmps47
  go_wp2_with fail
  refine k0.mono ?_
  rintro e w1 ⟨rfl, hk1⟩
  have HK1 := (show Hid (Same w w1) from hk1)
  clear hk1 k0
  by_cases s1 : sz < 33
  ·go_wp2
   go_ret
   exact ⟨.inr ⟨HNF.out, rfl⟩, HK1.out⟩
  by_cases s2 : 4131 < sz
  ·go_wp2
   go_ret
   exact ⟨.inr ⟨HNF.out, rfl⟩, HK1.out⟩
  have s3 : (bs.length : Int) < sz := by omega
  go_wp2
  go_ret
  exact ⟨.inr ⟨HNF.out, rfl⟩, HK1.out⟩
theorem implFr_any (v : Value) (bs : List Int) (lsn least most : Int) (w : World) (hB : IsB bs) (hlI : IsI lsn) (hl : bs.length ≤ 1099511627776) (hv : Rd .u8 w v bs) : Calls Tryz.prog 26 #[v, .int .i64 lsn, .int .i64 least, .int .i64 most] w fun e w' => ∃ y : StFrameResult, e = .returned y.val ∧ y.dat = decF bs lsn least most ∧ (∀ b, FootL y.rows b → w.heap.size ≤ b) ∧ OwnL w' y.rows ∧ Same w w' := by
 have HK0 := (show Hid (Same w (w.alloc (.cells #[.int .i64 0, .int .i64 0, .int .i64 0, .int .i64 0, .int .i64 0, .int .i64 0, .int .i64 0, .int .i64 0, .bool false, .slice none 0 0, .bool false, .slice none 0 0, .int .i64 0, .int .i64 0, .slice none 0 0, .slice none 0 0, .slice none 0 0] 52))) from (Kept.refl _ _).alloc _)
 have HZ0 := (show Hid (Blk (w.alloc (.cells #[.int .i64 0, .int .i64 0, .int .i64 0, .int .i64 0, .int .i64 0, .int .i64 0, .int .i64 0, .int .i64 0, .bool false, .slice none 0 0, .bool false, .slice none 0 0, .int .i64 0, .int .i64 0, .slice none 0 0, .slice none 0 0, .slice none 0 0] 52)) w.heap.size 52 [.int .i64 0, .int .i64 0, .int .i64 0, .int .i64 0, .int .i64 0, .int .i64 0, .int .i64 0, .int .i64 0, .bool false, .slice none 0 0, .bool false, .slice none 0 0, .int .i64 0, .int .i64 0, .slice none 0 0, .slice none 0 0, .slice none 0 0]) from Blk.newL w [.int .i64 0, .int .i64 0, .int .i64 0, .int .i64 0, .int .i64 0, .int .i64 0, .int .i64 0, .int .i64 0, .bool false, .slice none 0 0, .bool false, .slice none 0 0, .int .i64 0, .int .i64 0, .slice none 0 0, .slice none 0 0, .slice none 0 0] 52)
 have HV := hid hv
 obtain ⟨va, vc, rfl⟩ := hv.form
 clear hv
 go_enter Tryz.func26, Tryz.ntmps26
 go_upto_region 1 with fail
 generalize w.alloc (.cells #[.int .i64 0, .int .i64 0, .int .i64 0, .int .i64 0, .int .i64 0, .int .i64 0, .int .i64 0, .int .i64 0, .bool false, .slice none 0 0, .bool false, .slice none 0 0, .int .i64 0, .int .i64 0, .slice none 0 0, .slice none 0 0, .slice none 0 0] 52) = w0 at HK0 HZ0 ⊢
 obtain ⟨Z, hZ⟩ : ∃ Z, w.heap.size = Z := ⟨_, rfl⟩
 rw [hZ] at HZ0 ⊢
 have HZZ := hid hZ
 have HKR := (show Hid (Same w0 w0) from Kept.refl _ _)
 have hZs := HK0.out.size
 have hZl := HZ0.out.lt
 clear hZ
 go_wp2_with fail
 refine (cutFrame_any _ bs _ hB hl (HV.out.same HK0.out)).mono ?_
 rintro e w1 ⟨hcf, hk1⟩
 have HK1 := (show Hid (Same w0 w1) from hk1)
 clear hk1
 rcases hcf with ⟨hok, vb, off, c, hve, hle, rfl⟩ | ⟨hok, rfl⟩
 ·skip
  injection hve with hva _ hvc
  subst hva
  have hvc2 : c = vc := hvc.symm
  subst hvc2
  have hok2 := hok
  unfold frOK at hok2
  obtain ⟨h20, o1, o2, o3⟩ := hok2
  obtain ⟨s, hs⟩ : ∃ s : Nat, getN (bs.take 4) = (s : Int) := ⟨(getN (bs.take 4)).toNat, by omega⟩
  have HDF := (show Hid (decF bs lsn least most = decG bs s lsn least most) from by unfold Hid decF; rw [if_pos hok, hs, Int.toNat_natCast])
  rw [hs] at o1 o2 o3 ⊢
  rw [Int.toNat_natCast]
  have hs1 : 33 ≤ s := by omega
  have hs2 : s ≤ 4131 := by omega
  have hs3 : s ≤ bs.length := by omega
  have hmx : bs.length ≤ maxLen := HV.out.1
  unfold maxLen at hmx
  clear hok hs o1 o2 o3 h20
  have HC := (show Hid (∀ wx, Same w wx → ∀ i, i < bs.length → wx.cell? ⟨vb, off + i, none⟩ = some (.int .u8 (bs.getD i 0))) from fun wx hk => by
   rcases (HV.out.same hk).2 with ⟨h0, _⟩ | ⟨b', off', c', he, _, hc⟩
   ·exfalso; rw [h0] at hs3; simp at hs3; omega
   ·injection he with h1 _ _
    injection h1 with h1
    injection h1 with h1 h2
    subst h1 h2
    exact hc)
  have hsz0 : ((s : Int) == 0) = false := by simp; omega
  have hsc : s ≤ c := by omega
  have h8s : (8 : Int) ≤ (s : Int) := by omega
  have h20s : (20 : Int) ≤ (s : Int) := by omega
  have h8n : 8 ≤ s := by omega
  have h16n : 16 ≤ s := by omega
  have h20n : 20 ≤ s := by omega
  have e4 : ¬ c = 4 := by omega
  have e8 : ¬ c = 8 := by omega
  have e16 : ¬ c = 16 := by omega
  have e20 : ¬ c = 20 := by omega
  have HP := (show Hid (∀ wx, Same w0 wx → ∀ lo m, lo + m ≤ bs.length → Rd .u8 wx (.slice (some ⟨vb, off + lo, none⟩) m (c - lo)) ((bs.drop lo).take m)) from fun wx hk lo m h => Rd.part (HC.out wx (HK0.out.trans hk)) lo m h rfl (by omega) (by unfold maxLen; omega))
  have k16 := implGet_any _ ((bs.drop 16).take 4) w1 ((hB.dropI 16).tk 4) (by simp; omega) (HP.out _ HK1.out 16 4 (by omega))
  go_wp2_with fail
  refine k16.mono ?_
  rintro e w2 ⟨rfl, hk2⟩
  have HK2 := hid (HK1.out.trans hk2)
  obtain ⟨ep, hep⟩ : ∃ x, getN ((bs.drop 16).take 4) = x := ⟨_, rfl⟩
  rw [hep]
  have HEP := hid hep
  clear hep hk2 k16 HK1
  go_upto_region 5 with fail
  obtain ⟨g4, hg4⟩ : ∃ x, getN ((bs.drop 4).take 4) = x := ⟨_, rfl⟩
  obtain ⟨cr, hcr⟩ : ∃ x, crcOn 0 ((bs.drop 8).take (s - 8)) = x := ⟨_, rfl⟩
  have HG4 := hid hg4
  have HCR := hid hcr
  have HGG := (show Hid (∀ wx, Same w0 wx → _) from fun wx (hk : Same w0 wx) => hg4 ▸ implGet_any _ ((bs.drop 4).take 4) wx ((hB.dropI 4).tk 4) (by simp; omega) (HP.out wx hk 4 4 (by omega)))
  have HGC := (show Hid (∀ wx, Same w0 wx → _) from fun wx (hk : Same w0 wx) => hcr ▸ implCrc_any _ ((bs.drop 8).take (s - 8)) wx ((hB.dropI 8).tk _) (by simp; omega) (HP.out wx hk 8 (s - 8) (by omega)))
  clear hg4 hcr
  go_cut [21] (fun v wx => v = .bool (g4 != cr) ∧ Hid (Same w0 wx))
  case first =>
   have hS : (fun wx : World => Same w0 wx) w2.drew := HK2.out.next ((Kept.refl (fun _ => False) w2).drew) (fun _ _ e => e.elim)
   refine wp_region_V (fun wx : World => Same w0 wx) 99 8 rfl (by kernel_rfl) ?_
   refine tk 0 22 hS ?_
   refine tkV 1 23 (.slice (some ⟨vb, off + 4, none⟩) 4 (c - 4)) hS ?_
   refine tk 3 25 hS ?_
   refine tkV 4 26 (.slice (some ⟨vb, off + 8, none⟩) (s - 8) (c - 8)) hS ?_
   refine wpAnyV_one (i := 2) (by kernel_rfl) rfl (fun Kc hK => ?_)
   go_simp
   refine (HGG.out _ hS).mono ?_
   rintro e w3 ⟨rfl, hk2⟩
   have hS : (fun wx : World => Same w0 wx) w3 := Kept.trans hS hk2
   refine hK.out _ _ (fun _ => hS) ?_
   clear hK Kc
   try simp only [Act.put, sA, s0, sS]
   refine wpAnyV_one (i := 5) (by kernel_rfl) rfl (fun Kc hK => ?_)
   go_simp
   refine (HGC.out _ hS).mono ?_
   rintro e w4 ⟨rfl, hk3⟩
   have hS : (fun wx : World => Same w0 wx) w4 := Kept.trans hS hk3
   refine hK.out _ _ (fun _ => hS) ?_
   clear hK Kc
   try simp only [Act.put, sA, s0, sS]
   refine tk 6 28 hS ?_
   refine tk 7 21 hS ?_
   refine wpAnyV_done (by kernel_rfl) ?_
   try simp only [Act.put, sA, s0, sS]
   go_wp2
   go_meet
   case rel => exact ⟨rfl, hS⟩
  case rest =>
   obtain ⟨hu, HK4⟩ := hcut
   by_cases hne : g4 = cr
   ·have hneb : (g4 != cr) = false := by simp [hne]
    have hu2 : _ = Value.bool false := hu.trans (by rw [hneb])
    clear hu hneb
    subst hu2
    have HNE := hid hne
    clear hne
    go_upto_region 7 with fail
    obtain ⟨eq, heq⟩ : ∃ x, decide ((bs.drop 8).take 8 = numB lsn 8) = x := ⟨_, rfl⟩
    have HEQ := (show Hid (eq = decide (¬ (getN ((bs.drop 8).take 8) ≠ lsn ∨ lsn < 0))) from by unfold Hid; rw [← heq]; exact decide_eq_decide.2 (lsn_bytes ((hB.dropI 8).tk 8) (take_len (by omega)) hlI))
    have HBE := (show Hid (∀ (PV : Value) (wx : World), Same w0 wx → Rd .u8 wx PV (numB lsn 8) → _) from fun PV wx (hk : Same w0 wx) hr => heq ▸ bytesEq_any _ PV ((bs.drop 8).take 8) (numB lsn 8) wx ((hB.dropI 8).tk 8) (numB_isB _ _) (HP.out wx hk 8 8 (by omega)) hr)
    clear heq
    go_cut [30] (fun v wx => v = .bool (!eq) ∧ Hid (Same w0 wx))
    case first =>
     have hS : (fun wx : World => Same w0 wx) wc.drew := HK4.out.next ((Kept.refl (fun _ => False) wc).drew) (fun _ _ e => e.elim)
     refine wp_region_V (fun wx : World => Same w0 wx) 99 7 rfl (by kernel_rfl) ?_
     refine tk 0 31 hS ?_
     refine tkV 1 32 (.slice (some ⟨vb, off + 8, none⟩) 8 (c - 8)) hS ?_
     refine tk 2 33 hS ?_
     refine wpAnyV_one (i := 3) (by kernel_rfl) rfl (fun Kc hK => ?_)
     go_simp
     refine (implPut_any lsn 8 _ hlI (by unfold IsI; omega)).mono ?_
     rintro e w5 ⟨pa, pc, rfl, hpf, hpo, hk2⟩
     have hS : (fun wx : World => Same w0 wx) w5 := Kept.trans hS hk2
     have HPO := hid hpo
     generalize Value.slice pa (numB lsn 8).length pc = PV at HPO ⊢
     refine hK.out _ _ (fun _ => hS) ?_
     clear hK Kc hpf hpo
     try simp only [Act.put, sA, s0, sS]
     refine wpAnyV_one (i := 4) (by kernel_rfl) rfl (fun Kc hK => ?_)
     go_simp
     refine (HBE.out PV _ hS HPO.out.rd).mono ?_
     rintro e w6 ⟨rfl, hk3⟩
     have hS : (fun wx : World => Same w0 wx) w6 := Kept.trans hS hk3
     refine hK.out _ _ (fun _ => hS) ?_
     clear hK Kc
     try simp only [Act.put, sA, s0, sS]
     refine tk 5 36 hS ?_
     refine tk 6 30 hS ?_
     refine wpAnyV_done (by kernel_rfl) ?_
     try simp only [Act.put, sA, s0, sS]
     go_wp2
     go_meet
     case rel => exact ⟨rfl, hS⟩
    case rest =>
     obtain ⟨hu, HK6⟩ := hcut
     by_cases hq8 : getN ((bs.drop 8).take 8) ≠ lsn ∨ lsn < 0
     ·obtain rfl : eq = false := by rw [HEQ.out]; exact decide_eq_false (fun h => h hq8)
      have hu2 : _ = Value.bool true := hu.trans rfl
      clear hu
      subst hu2
      have HQ8 := hid hq8
      clear hq8
      have HT9 := (show Hid (wc.there Z 0 17) from (HZ0.out.same HK6.out).there 0 17 (by decide))
      have HB9 := (show Hid (Blk (wc.setCells Z 0 (cZ 3)) Z 52 (cZ 3)) from blk_put (HZ0.out.same HK6.out) (cZ 3) rfl)
      have HS9 := (show Hid (Same w (wc.setCells Z 0 (cZ 3))) from Kept.setCells (.inl (Nat.le_of_eq HZZ.out)) _ _ (HK0.out.trans HK6.out))
      have HRES := (show Hid (decF bs lsn least most = zeroF 3) from by unfold Hid; rw [HDF.out]; unfold decG; rw [if_neg (by rw [HG4.out, HCR.out, HNE.out]; simp), if_pos HQ8.out])
      go_upto_region 8 with fail
      refine wp_bs 37 52 _ _ Z (cZ 3).toArray rfl rfl rfl rfl rfl rfl (fun wx => by kernel_rfl) rfl rfl HT9.out infoFr (by simp [cZ, Value.oneCell']) ?_
      generalize wc.setCells Z 0 (cZ 3).toArray.toList = W9 at HB9 HS9 ⊢
      go_wp2
      refine bodyPost_ret (v := .agg (cZ 3).toArray) ?_ rfl ?_
      ·exact endZ Tryz.results26 rfl HB9.out.rangeAll Tryz.underlying52 rfl infoFr
      ·exact ⟨⟨3, 0, 0, recZ⟩, rfl, HRES.out.symm, fun b hb => (foot_recZ hb).elim, own_recZ _, HS9.out⟩
     obtain rfl : eq = true := by rw [HEQ.out]; exact decide_eq_true hq8
     have hu2 : _ = Value.bool false := hu.trans rfl
     clear hu
     subst hu2
     have HQ8 := hid hq8
     clear hq8
     by_cases hq16 : ep < least ∨ most < ep
     ·have HQ16 := hid hq16
      have HRES4 := (show Hid (decF bs lsn least most = zeroF 4) from by unfold Hid; rw [HDF.out]; unfold decG; rw [if_neg (by rw [HG4.out, HCR.out, HNE.out]; simp), if_neg HQ8.out, if_pos (by rw [HEP.out]; exact HQ16.out)])
      by_cases q3 : ep < least
      ·clear hq16
       have HT9 := (show Hid (wc.there Z 0 17) from (HZ0.out.same HK6.out).there 0 17 (by decide))
       have HB9 := (show Hid (Blk (wc.setCells Z 0 (cZ 4)) Z 52 (cZ 4)) from blk_put (HZ0.out.same HK6.out) (cZ 4) rfl)
       have HS9 := (show Hid (Same w (wc.setCells Z 0 (cZ 4))) from Kept.setCells (.inl (Nat.le_of_eq HZZ.out)) _ _ (HK0.out.trans HK6.out))
       have HRES := (show Hid (decF bs lsn least most = zeroF 4) from by exact HRES4.out)
       go_upto_region 10 with fail
       refine wp_bs 47 52 _ _ Z (cZ 4).toArray rfl rfl rfl rfl rfl rfl (fun wx => by kernel_rfl) rfl rfl HT9.out infoFr (by simp [cZ, Value.oneCell']) ?_
       generalize wc.setCells Z 0 (cZ 4).toArray.toList = W9 at HB9 HS9 ⊢
       go_wp2
       refine bodyPost_ret (v := .agg (cZ 4).toArray) ?_ rfl ?_
       ·exact endZ Tryz.results26 rfl HB9.out.rangeAll Tryz.underlying52 rfl infoFr
       ·exact ⟨⟨4, 0, 0, recZ⟩, rfl, HRES.out.symm, fun b hb => (foot_recZ hb).elim, own_recZ _, HS9.out⟩
      ·have q4 : most < ep := by omega
       clear hq16
       have HT9 := (show Hid (wc.there Z 0 17) from (HZ0.out.same HK6.out).there 0 17 (by decide))
       have HB9 := (show Hid (Blk (wc.setCells Z 0 (cZ 4)) Z 52 (cZ 4)) from blk_put (HZ0.out.same HK6.out) (cZ 4) rfl)
       have HS9 := (show Hid (Same w (wc.setCells Z 0 (cZ 4))) from Kept.setCells (.inl (Nat.le_of_eq HZZ.out)) _ _ (HK0.out.trans HK6.out))
       have HRES := (show Hid (decF bs lsn least most = zeroF 4) from by exact HRES4.out)
       go_upto_region 10 with fail
       refine wp_bs 47 52 _ _ Z (cZ 4).toArray rfl rfl rfl rfl rfl rfl (fun wx => by kernel_rfl) rfl rfl HT9.out infoFr (by simp [cZ, Value.oneCell']) ?_
       generalize wc.setCells Z 0 (cZ 4).toArray.toList = W9 at HB9 HS9 ⊢
       go_wp2
       refine bodyPost_ret (v := .agg (cZ 4).toArray) ?_ rfl ?_
       ·exact endZ Tryz.results26 rfl HB9.out.rangeAll Tryz.underlying52 rfl infoFr
       ·exact ⟨⟨4, 0, 0, recZ⟩, rfl, HRES.out.symm, fun b hb => (foot_recZ hb).elim, own_recZ _, HS9.out⟩
     have HQ16 := hid hq16
     have q3 : ¬ ep < least := by omega
     have q4 : ¬ most < ep := by omega
     have k20 := implDec_any (.slice (some ⟨vb, off + 20, none⟩) (s - 20) (c - 20)) ((bs.drop 20).take (s - 20)) wc ((hB.dropI 20).tk _) (by simp; omega) (HP.out _ HK6.out 20 (s - 20) (by omega))
     clear hq16
     go_wp2_with fail
     refine k20.mono ?_
     rintro e w8 ⟨⟨g, z⟩, rfl, hd, hf, ho, hk6⟩
     have HK8 := hid (HK6.out.trans hk6)
     have HD := (show Hid ((g, z.dat) = decD ((bs.drop 20).take (s - 20))) from hd)
     have HF := (show Hid (∀ b, FootL z.rows b → wc.heap.size ≤ b) from hf)
     have HO := (show Hid (OwnL w8 z.rows) from ho)
     have hs5 := HK6.out.size
     have hs6 := HK8.out.size
     have HRC := (show Hid (decF bs lsn least most = if g = true then (0, (s : Int), ep, z.dat) else zeroF 5) from by unfold Hid; rw [HDF.out]; unfold decG; rw [if_neg (by rw [HG4.out, HCR.out, HNE.out]; simp), if_neg HQ8.out, if_neg (by rw [HEP.out]; exact HQ16.out), ← HD.out, HEP.out])
     dsimp only [StRecordResult.val, BS.v, FR.v]
     have HX := (show Hid (Blk (w8.alloc (.cells #[.bool g, .int .i64 z.kind, .int .i64 z.txn, .int .i64 z.prev, .int .i64 z.page, .int .i64 z.slot, .bool z.before.used, .slice z.before.data.a z.before.data.bs.length z.before.data.c, .bool z.after.used, .slice z.after.data.a z.after.data.bs.length z.after.data.c, .int .i64 z.uN, .int .i64 z.nT, .slice z.txns.a z.txns.n z.txns.c, .slice z.dirty.a z.dirty.n z.dirty.c, .slice z.image.a z.image.bs.length z.image.c] 79)) w8.heap.size 79 [.bool g, .int .i64 z.kind, .int .i64 z.txn, .int .i64 z.prev, .int .i64 z.page, .int .i64 z.slot, .bool z.before.used, .slice z.before.data.a z.before.data.bs.length z.before.data.c, .bool z.after.used, .slice z.after.data.a z.after.data.bs.length z.after.data.c, .int .i64 z.uN, .int .i64 z.nT, .slice z.txns.a z.txns.n z.txns.c, .slice z.dirty.a z.dirty.n z.dirty.c, .slice z.image.a z.image.bs.length z.image.c]) from Blk.newL w8 [.bool g, .int .i64 z.kind, .int .i64 z.txn, .int .i64 z.prev, .int .i64 z.page, .int .i64 z.slot, .bool z.before.used, .slice z.before.data.a z.before.data.bs.length z.before.data.c, .bool z.after.used, .slice z.after.data.a z.after.data.bs.length z.after.data.c, .int .i64 z.uN, .int .i64 z.nT, .slice z.txns.a z.txns.n z.txns.c, .slice z.dirty.a z.dirty.n z.dirty.c, .slice z.image.a z.image.bs.length z.image.c] 79)
     have HK7 := (show Hid (Same w0 (w8.alloc (.cells #[.bool g, .int .i64 z.kind, .int .i64 z.txn, .int .i64 z.prev, .int .i64 z.page, .int .i64 z.slot, .bool z.before.used, .slice z.before.data.a z.before.data.bs.length z.before.data.c, .bool z.after.used, .slice z.after.data.a z.after.data.bs.length z.after.data.c, .int .i64 z.uN, .int .i64 z.nT, .slice z.txns.a z.txns.n z.txns.c, .slice z.dirty.a z.dirty.n z.dirty.c, .slice z.image.a z.image.bs.length z.image.c] 79))) from HK8.out.alloc _)
     have HO7 := (show Hid (OwnL (w8.alloc (.cells #[.bool g, .int .i64 z.kind, .int .i64 z.txn, .int .i64 z.prev, .int .i64 z.page, .int .i64 z.slot, .bool z.before.used, .slice z.before.data.a z.before.data.bs.length z.before.data.c, .bool z.after.used, .slice z.after.data.a z.after.data.bs.length z.after.data.c, .int .i64 z.uN, .int .i64 z.nT, .slice z.txns.a z.txns.n z.txns.c, .slice z.dirty.a z.dirty.n z.dirty.c, .slice z.image.a z.image.bs.length z.image.c] 79)) z.rows) from HO.out.same ((Kept.refl _ _).alloc _))
     clear hd hf ho hk6 k20 HO HK8
     go_upto_region 12 with fail
     generalize w8.alloc (.cells #[.bool g, .int .i64 z.kind, .int .i64 z.txn, .int .i64 z.prev, .int .i64 z.page, .int .i64 z.slot, .bool z.before.used, .slice z.before.data.a z.before.data.bs.length z.before.data.c, .bool z.after.used, .slice z.after.data.a z.after.data.bs.length z.after.data.c, .int .i64 z.uN, .int .i64 z.nT, .slice z.txns.a z.txns.n z.txns.c, .slice z.dirty.a z.dirty.n z.dirty.c, .slice z.image.a z.image.bs.length z.image.c] 79) = w7 at HX HK7 HO7 ⊢
     obtain ⟨X, hX⟩ : ∃ X, w8.heap.size = X := ⟨_, rfl⟩
     rw [hX] at HX hs6 ⊢
     clear hX
     cases g with
     | false =>
      obtain ⟨x0, x1, x2, x3, x4, x5, x6, x7, x8, x9, x10, x11, x12, x13, x14⟩ := HX.out.all15
      have HRES5 := (show Hid (decF bs lsn least most = zeroF 5) from by unfold Hid; rw [HRC.out]; rfl)
      have HT9 := (show Hid (w7.there Z 0 17) from (HZ0.out.same HK7.out).there 0 17 (by decide))
      have HB9 := (show Hid (Blk (w7.setCells Z 0 (cZ 5)) Z 52 (cZ 5)) from blk_put (HZ0.out.same HK7.out) (cZ 5) rfl)
      have HS9 := (show Hid (Same w (w7.setCells Z 0 (cZ 5))) from Kept.setCells (.inl (Nat.le_of_eq HZZ.out)) _ _ (HK0.out.trans HK7.out))
      have HRES := (show Hid (decF bs lsn least most = zeroF 5) from by exact HRES5.out)
      go_upto_region 13 with fail
      refine wp_bs 54 52 _ _ Z (cZ 5).toArray rfl rfl rfl rfl rfl rfl (fun wx => by kernel_rfl) rfl rfl HT9.out infoFr (by simp [cZ, Value.oneCell']) ?_
      generalize w7.setCells Z 0 (cZ 5).toArray.toList = W9 at HB9 HS9 ⊢
      go_wp2
      refine bodyPost_ret (v := .agg (cZ 5).toArray) ?_ rfl ?_
      ·exact endZ Tryz.results26 rfl HB9.out.rangeAll Tryz.underlying52 rfl infoFr
      ·exact ⟨⟨5, 0, 0, recZ⟩, rfl, HRES.out.symm, fun b hb => (foot_recZ hb).elim, own_recZ _, HS9.out⟩
     | true =>
      obtain ⟨x0, x1, x2, x3, x4, x5, x6, x7, x8, x9, x10, x11, x12, x13, x14⟩ := HX.out.all15
      have hXl := HX.out.lt
      have HRES0 := (show Hid (decF bs lsn least most = (0, (s : Int), ep, z.dat)) from by unfold Hid; rw [HRC.out]; rfl)
      obtain ⟨z0, z1, z2, z3, z4, z5, z6, z7, z8, z9, z10, z11, z12, z13, z14, z15, z16⟩ := (HZ0.out.same HK7.out).all17
      have fz := (HZ0.out.same HK7.out).frozen
      have hZ9 := (HZ0.out.same HK7.out).lt
      obtain ⟨W9, hW9⟩ : ∃ x, (((((((((((((((((w7.setCell ⟨Z, 0, none⟩ (.int .i64 0)).setCell ⟨Z, 1, none⟩ (.int .i64 (s : Int))).setCell ⟨Z, 2, none⟩ (.int .i64 ep)).setCell ⟨Z, 3, none⟩ (.int .i64 z.kind)).setCell ⟨Z, 4, none⟩ (.int .i64 z.txn)).setCell ⟨Z, 5, none⟩ (.int .i64 z.prev)).setCell ⟨Z, 6, none⟩ (.int .i64 z.page)).setCell ⟨Z, 7, none⟩ (.int .i64 z.slot)).setCell ⟨Z, 8, none⟩ (.bool z.before.used)).setCell ⟨Z, 9, none⟩ (.slice z.before.data.a z.before.data.bs.length z.before.data.c)).setCell ⟨Z, 10, none⟩ (.bool z.after.used)).setCell ⟨Z, 11, none⟩ (.slice z.after.data.a z.after.data.bs.length z.after.data.c)).setCell ⟨Z, 12, none⟩ (.int .i64 z.uN)).setCell ⟨Z, 13, none⟩ (.int .i64 z.nT)).setCell ⟨Z, 14, none⟩ (.slice z.txns.a z.txns.n z.txns.c)).setCell ⟨Z, 15, none⟩ (.slice z.dirty.a z.dirty.n z.dirty.c)).setCell ⟨Z, 16, none⟩ (.slice z.image.a z.image.bs.length z.image.c)) = x := ⟨_, rfl⟩
      have HB9 := (show Hid (Blk W9 Z 52 [.int .i64 0, .int .i64 (s : Int), .int .i64 ep, .int .i64 z.kind, .int .i64 z.txn, .int .i64 z.prev, .int .i64 z.page, .int .i64 z.slot, .bool z.before.used, .slice z.before.data.a z.before.data.bs.length z.before.data.c, .bool z.after.used, .slice z.after.data.a z.after.data.bs.length z.after.data.c, .int .i64 z.uN, .int .i64 z.nT, .slice z.txns.a z.txns.n z.txns.c, .slice z.dirty.a z.dirty.n z.dirty.c, .slice z.image.a z.image.bs.length z.image.c]) from hW9 ▸ (show Blk (((((((((((((((((w7.setCell ⟨Z, 0, none⟩ (.int .i64 0)).setCell ⟨Z, 1, none⟩ (.int .i64 (s : Int))).setCell ⟨Z, 2, none⟩ (.int .i64 ep)).setCell ⟨Z, 3, none⟩ (.int .i64 z.kind)).setCell ⟨Z, 4, none⟩ (.int .i64 z.txn)).setCell ⟨Z, 5, none⟩ (.int .i64 z.prev)).setCell ⟨Z, 6, none⟩ (.int .i64 z.page)).setCell ⟨Z, 7, none⟩ (.int .i64 z.slot)).setCell ⟨Z, 8, none⟩ (.bool z.before.used)).setCell ⟨Z, 9, none⟩ (.slice z.before.data.a z.before.data.bs.length z.before.data.c)).setCell ⟨Z, 10, none⟩ (.bool z.after.used)).setCell ⟨Z, 11, none⟩ (.slice z.after.data.a z.after.data.bs.length z.after.data.c)).setCell ⟨Z, 12, none⟩ (.int .i64 z.uN)).setCell ⟨Z, 13, none⟩ (.int .i64 z.nT)).setCell ⟨Z, 14, none⟩ (.slice z.txns.a z.txns.n z.txns.c)).setCell ⟨Z, 15, none⟩ (.slice z.dirty.a z.dirty.n z.dirty.c)).setCell ⟨Z, 16, none⟩ (.slice z.image.a z.image.bs.length z.image.c)) Z 52 [.int .i64 0, .int .i64 (s : Int), .int .i64 ep, .int .i64 z.kind, .int .i64 z.txn, .int .i64 z.prev, .int .i64 z.page, .int .i64 z.slot, .bool z.before.used, .slice z.before.data.a z.before.data.bs.length z.before.data.c, .bool z.after.used, .slice z.after.data.a z.after.data.bs.length z.after.data.c, .int .i64 z.uN, .int .i64 z.nT, .slice z.txns.a z.txns.n z.txns.c, .slice z.dirty.a z.dirty.n z.dirty.c, .slice z.image.a z.image.bs.length z.image.c] from ((((((((((((((((((HZ0.out.same HK7.out).stored 0 _).stored 1 _).stored 2 _).stored 3 _).stored 4 _).stored 5 _).stored 6 _).stored 7 _).stored 8 _).stored 9 _).stored 10 _).stored 11 _).stored 12 _).stored 13 _).stored 14 _).stored 15 _).stored 16 _)))
      have HS9 := (show Hid (Same w W9) from hW9 ▸ set17 (HK0.out.trans HK7.out) (Nat.le_of_eq HZZ.out) (.int .i64 0) (.int .i64 (s : Int)) (.int .i64 ep) (.int .i64 z.kind) (.int .i64 z.txn) (.int .i64 z.prev) (.int .i64 z.page) (.int .i64 z.slot) (.bool z.before.used) (.slice z.before.data.a z.before.data.bs.length z.before.data.c) (.bool z.after.used) (.slice z.after.data.a z.after.data.bs.length z.after.data.c) (.int .i64 z.uN) (.int .i64 z.nT) (.slice z.txns.a z.txns.n z.txns.c) (.slice z.dirty.a z.dirty.n z.dirty.c) (.slice z.image.a z.image.bs.length z.image.c))
      have HW9 := hid hW9
      clear hW9
      have HO9 := (show Hid (OwnL W9 z.rows) from HO7.out.kept (R := fun b => b = Z) (HW9.out ▸ kept17 _ _ (.int .i64 0) (.int .i64 (s : Int)) (.int .i64 ep) (.int .i64 z.kind) (.int .i64 z.txn) (.int .i64 z.prev) (.int .i64 z.page) (.int .i64 z.slot) (.bool z.before.used) (.slice z.before.data.a z.before.data.bs.length z.before.data.c) (.bool z.after.used) (.slice z.after.data.a z.after.data.bs.length z.after.data.c) (.int .i64 z.uN) (.int .i64 z.nT) (.slice z.txns.a z.txns.n z.txns.c) (.slice z.dirty.a z.dirty.n z.dirty.c) (.slice z.image.a z.image.bs.length z.image.c)) (fun b hb e => by have := HF.out b hb; omega))
      go_wp2
      rw [HW9.out]
      refine bodyPost_ret (v := .agg #[.int .i64 0, .int .i64 (s : Int), .int .i64 ep, .int .i64 z.kind, .int .i64 z.txn, .int .i64 z.prev, .int .i64 z.page, .int .i64 z.slot, .bool z.before.used, .slice z.before.data.a z.before.data.bs.length z.before.data.c, .bool z.after.used, .slice z.after.data.a z.after.data.bs.length z.after.data.c, .int .i64 z.uN, .int .i64 z.nT, .slice z.txns.a z.txns.n z.txns.c, .slice z.dirty.a z.dirty.n z.dirty.c, .slice z.image.a z.image.bs.length z.image.c]) ?_ rfl ?_
      ·exact endZ (cs := [.int .i64 0, .int .i64 (s : Int), .int .i64 ep, .int .i64 z.kind, .int .i64 z.txn, .int .i64 z.prev, .int .i64 z.page, .int .i64 z.slot, .bool z.before.used, .slice z.before.data.a z.before.data.bs.length z.before.data.c, .bool z.after.used, .slice z.after.data.a z.after.data.bs.length z.after.data.c, .int .i64 z.uN, .int .i64 z.nT, .slice z.txns.a z.txns.n z.txns.c, .slice z.dirty.a z.dirty.n z.dirty.c, .slice z.image.a z.image.bs.length z.image.c]) Tryz.results26 rfl HB9.out.rangeAll Tryz.underlying52 rfl infoFr
      ·exact ⟨⟨0, (s : Int), ep, z⟩, rfl, HRES0.out.symm, fun b hb => by have := HF.out b hb; have := HZZ.out; have := HK0.out.size; omega, HO9.out, HS9.out⟩
   ·have hneb : (g4 != cr) = true := by simp [hne]
    have hu2 : _ = Value.bool true := hu.trans (by rw [hneb])
    clear hu hneb
    subst hu2
    have HNE := hid hne
    clear hne
    have HT9 := (show Hid (wc.there Z 0 17) from (HZ0.out.same HK4.out).there 0 17 (by decide))
    have HB9 := (show Hid (Blk (wc.setCells Z 0 (cZ 2)) Z 52 (cZ 2)) from blk_put (HZ0.out.same HK4.out) (cZ 2) rfl)
    have HS9 := (show Hid (Same w (wc.setCells Z 0 (cZ 2))) from Kept.setCells (.inl (Nat.le_of_eq HZZ.out)) _ _ (HK0.out.trans HK4.out))
    have HRES := (show Hid (decF bs lsn least most = zeroF 2) from by unfold Hid; rw [HDF.out]; unfold decG; rw [if_pos (by rw [HG4.out, HCR.out]; exact HNE.out)])
    go_upto_region 6 with fail
    refine wp_bs 29 52 _ _ Z (cZ 2).toArray rfl rfl rfl rfl rfl rfl (fun wx => by kernel_rfl) rfl rfl HT9.out infoFr (by simp [cZ, Value.oneCell']) ?_
    generalize wc.setCells Z 0 (cZ 2).toArray.toList = W9 at HB9 HS9 ⊢
    go_wp2
    refine bodyPost_ret (v := .agg (cZ 2).toArray) ?_ rfl ?_
    ·exact endZ Tryz.results26 rfl HB9.out.rangeAll Tryz.underlying52 rfl infoFr
    ·exact ⟨⟨2, 0, 0, recZ⟩, rfl, HRES.out.symm, fun b hb => (foot_recZ hb).elim, own_recZ _, HS9.out⟩
 ·have HNK := hid hok
  clear hok
  have HT9 := (show Hid (w1.there Z 0 17) from (HZ0.out.same HK1.out).there 0 17 (by decide))
  have HB9 := (show Hid (Blk (w1.setCells Z 0 (cZ 1)) Z 52 (cZ 1)) from blk_put (HZ0.out.same HK1.out) (cZ 1) rfl)
  have HS9 := (show Hid (Same w (w1.setCells Z 0 (cZ 1))) from Kept.setCells (.inl (Nat.le_of_eq HZZ.out)) _ _ (HK0.out.trans HK1.out))
  have HRES := (show Hid (decF bs lsn least most = zeroF 1) from by unfold Hid decF; rw [if_neg HNK.out])
  go_upto_region 3 with fail
  refine wp_bs 17 52 _ _ Z (cZ 1).toArray rfl rfl rfl rfl rfl rfl (fun wx => by kernel_rfl) rfl rfl HT9.out infoFr (by simp [cZ, Value.oneCell']) ?_
  generalize w1.setCells Z 0 (cZ 1).toArray.toList = W9 at HB9 HS9 ⊢
  go_wp2
  refine bodyPost_ret (v := .agg (cZ 1).toArray) ?_ rfl ?_
  ·exact endZ Tryz.results26 rfl HB9.out.rangeAll Tryz.underlying52 rfl infoFr
  ·exact ⟨⟨1, 0, 0, recZ⟩, rfl, HRES.out.symm, fun b hb => (foot_recZ hb).elim, own_recZ _, HS9.out⟩
end Go.Proofs.YtaojjcnmififoaaGreat
