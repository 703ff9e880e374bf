import Derived.Test.YtdbpaadndaoihaaGreatDoorG23
import Derived.Test.YtdbpaadndaoihaaGreatDoorG12
import Derived.Test.YtdbpaadndaoihaaGreatDoorG20
import Derived.Deep.DeepCutAuto
namespace Go.Proofs.YtdbpaadndaoihaaGreatDoor
set_option maxRecDepth 100000
set_option maxHeartbeats 8000000
set_option linter.unusedVariables false
set_option linter.unusedSimpArgs false
open Go.RowKit
theorem firstCk_any (w : World) : Calls Tryz.prog 27 #[] w fun e w' => ∃ a c, e = .returned (.slice a ckB.length c) ∧ Own 0 5 .u8 w' (.slice a ckB.length c) ckB ∧ Same w w' := by
 go_enter Tryz.func27, Tryz.ntmps27
 go_wp2_with fail
 refine (implFrame_bg _).mono ?_
 rintro e f1 ⟨a1, c1, rfl, hf1, ho1, hk1⟩
 rw [fr_bg] at hf1 ho1 ⊢
 have HO1 := hid ho1
 have HF1 := hid hf1
 have HK1 := (show Hid (Same w f1) from hk1)
 clear ho1 hf1 hk1
 go_wp2_with fail
 refine (implFrame_tb _).mono ?_
 rintro e f2 ⟨a2, c2, rfl, hf2, ho2, hk2⟩
 rw [fr_tb] at ho2 ⊢
 have HR2 := hid ho2.rd
 have HO2 := hid (HO1.out.same hk2)
 have HK2 := hid (HK1.out.trans hk2)
 clear ho2 hf2 hk2 HO1
 go_wp2_with (at_builtin; refine wpList_app rfl (.tmp 8) (.tmp 11) rfl (.slice a1 33 c1) (.slice a2 39 c2) (frFd 512 1 bgR.dat) (frFd 545 1 tbR.dat) rfl rfl HO2.out HR2.out (by rw [fr_bg, fr_tb]; omega) ?_; intro a3 n3 c3 w6 hown hgr; have HO6 := (show Hid (Own 0 5 .u8 w6 (.slice a3 n3 c3) ckB) from hown); have HK6 := (show Hid (Same w w6) from hgr.same HK2.out HF1.out); have HN6 := (show Hid (n3 = ckB.length) from hown.caps.1); clear hown hgr HO2 HR2 HF1 HK1 HK2)
 go_ret
 have hn := HN6.out
 subst hn
 exact ⟨a3, c3, rfl, HO6.out, HK6.out⟩
theorem implFmt_any (p f l : Int) (a0 a1 a2 : Addr) (w : World) (hE : Errs w a0 a1 a2) : Calls Tryz.prog 4 #[.agg #[.int .i64 p, .int .i64 f, .int .i64 l]] w fun e w' => ∃ a n c, e = .returned (.agg #[.slice a n c, .slice none 0 0]) ∧ OwnD 0 128 5 w' (.slice a n c) (.slice none 0 0) (fmtD p f l) [] ∧ (∀ b, (Value.slice a n c).ownBlock = some b → w.heap.size ≤ b) ∧ Same w w' := by
 have HK0 := (show Hid (∀ o o2, Same w ((w.alloc o).alloc o2)) from fun _ _ => ((Kept.refl _ _).alloc _).alloc _)
 by_cases hq : geoF p f l = 0
 case neg =>
  have HD := (show Hid (fmtD p f l = []) from if_neg hq)
  have hq2 : (geoF p f l != 0) = true := bne_iff_ne.2 hq
  have b1 := (Blk.newB w [.int .i64 p, .int .i64 f, .int .i64 l] 24 [.slice none 0 0, .slice none 0 0] 27)
  go_enter Tryz.func4, Tryz.ntmps4
  go_wp2_with fail
  refine (implGeo_any p f l _).mono ?_
  rintro e w1 ⟨rfl, hk⟩
  have HK1 := hid ((HK0.out _ _).trans hk)
  have b2 := b1.same hk
  obtain ⟨c0, c1⟩ := b2.all2
  have fb := b2.frozen
  clear b1 hk
  have HKZ := (show Hid (∀ u v, Same w ((w1.setCell ⟨w.heap.size + 1, 0, none⟩ u).setCell ⟨w.heap.size + 1, 1, none⟩ v)) from fun _ _ => (HK1.out.setCell (.inl (by simp)) _).setCell (.inl (by simp)) _)
  go_wp2_with fail
  refine bodyPost_ret (v := .agg #[.slice none 0 0, .slice none 0 0]) (by simp [results, Tryz.results4, go_sem, c0, c1]) rfl ⟨none, 0, 0, rfl, ⟨?_, OwnP.nil _ _ _ _, fun b hb => by simp [Value.ownBlock]⟩, fun b hb => by simp [Value.ownBlock] at hb, by first | exact HK1.out | exact HKZ.out _ _⟩
  rw [HD.out]; exact Own.nil _ _ _ _
 obtain ⟨g1, g2, g3, g4⟩ := geo_good hq
 obtain ⟨P, rfl⟩ : ∃ P : Nat, p = P := ⟨p.toNat, by omega⟩
 obtain ⟨n, hn⟩ : ∃ n : Nat, (2 + l + (P : Int) * 8).toNat * 512 = n := ⟨_, rfl⟩
 have hnb : 1024 + 72 < n ∧ n ≤ 524288 := by omega
 have HD := (show Hid (fmtD P f l = fmtP l (layI (layI (List.replicate n 0) 0 (encM 1 1 512 512)) 1024 ckB) P) from by unfold Hid fmtD; rw [if_pos hq, hn, Int.toNat_natCast])
 have kN := fun wx => newDisk_yes (2 + l + (P : Int) * 8) wx (by omega) (by omega)
 rw [hn] at kN
 have kG := fun wx => implGeo_any P f l wx
 have kD := fun wx => implDskN_any P f l wx
 rw [hq] at kG
 rw [show dskN P f l = 2 + l + (P : Int) * 8 from if_pos hq] at kD
 have HN := (show Hid ((2 + l + (P : Int) * 8).toNat * 512 = n) from hn)
 have HQ := hid hq
 clear hq hn
 have b0 := (Blk.newL w [.int .i64 (P : Int), .int .i64 f, .int .i64 l] 24).same ((Kept.refl (fun _ => False) _).alloc (.cells #[.slice none 0 0, .slice none 0 0] 27))
 have b1 := (Blk.newB w [.int .i64 (P : Int), .int .i64 f, .int .i64 l] 24 [.slice none 0 0, .slice none 0 0] 27)
 go_enter Tryz.func4, Tryz.ntmps4
 go_wp2_with fail
 refine (kG _).mono ?_
 rintro e w1 ⟨rfl, hk⟩
 have HK1 := hid ((HK0.out _ _).trans hk)
 have b0 := b0.same hk
 have b1 := b1.same hk
 obtain ⟨c0, c1, c2⟩ := b0.all3
 clear hk kG HK0
 go_wp2_with fail
 refine (kD _).mono ?_
 rintro e w2 ⟨rfl, hk⟩
 have HK2 := hid (HK1.out.trans hk)
 have b0 := b0.same hk
 have b1 := b1.same hk
 clear hk kD
 go_wp2_with fail
 refine (kN _).mono ?_
 rintro e w3 ⟨g, rfl, hg, ho, hk⟩
 have hz2 := HK2.out.size
 have hb1 := b1.lt
 have hb3 := ho.lt g rfl
 have HI3 := (show Hid (FmI w (w3.alloc (.cells #[.slice (some ⟨g, 0, none⟩) n n, .slice none 0 0] 27)) w.heap.size (w.heap.size + 1) w3.heap.size g n P f l (List.replicate n 0)) from ⟨(b0.same hk).same ((Kept.refl _ _).alloc _), (b1.same hk).same ((Kept.refl _ _).alloc _), Blk.newL _ _ _, ho.same ((Kept.refl _ _).alloc _), List.length_replicate.symm, ⟨by omega, by omega, by omega, by omega, by omega⟩, (HK2.out.trans hk).alloc _⟩)
 clear hk hg ho b0 b1 c0 c1 c2 kN hz2 hb1 hb3 HK1 HK2
 go_upto_region 4 with fail
 generalize w3.alloc (.cells #[.slice (some ⟨g, 0, none⟩) n n, .slice none 0 0] 27) = w4 at HI3 ⊢
 generalize w3.heap.size = D at HI3 ⊢
 generalize w.heap.size + 1 = Z at HI3 ⊢
 generalize hG : w.heap.size = G at HI3 ⊢
 clear hG
 have hn1 : (1024 : Int) ≤ (n : Int) := by omega
 have hn2 : ¬ n = 1024 := by omega
 have hn0 : ¬ n = 0 := by omega
 have q1024 : IntKind.i64.wrap 1024 = 1024 := by rw [IntKind.wrap_i64]; omega
 have HM := (show Hid (Blk (w4.alloc (.cells #[.int .i64 1, .int .i64 1, .int .i64 512, .int .i64 512] 66)) w4.heap.size 66 [.int .i64 1, .int .i64 1, .int .i64 512, .int .i64 512]) from Blk.newL _ _ _)
 have HI3' := hid (HI3.out.same ((Kept.refl (fun _ => False) _).alloc (.cells #[.int .i64 1, .int .i64 1, .int .i64 512, .int .i64 512] 66)))
 go_upto_region 5 with fail
 generalize w4.alloc (.cells #[.int .i64 1, .int .i64 1, .int .i64 512, .int .i64 512] 66) = w5 at HM HI3' ⊢
 have HGB := (show Hid (g ≠ w4.heap.size) from fun e => by have := (HI3.out.own.lt g rfl).2; omega)
 generalize w4.heap.size = B at HM HGB ⊢
 have HER := (show Hid (Errs w a0 a1 a2) from hE)
 clear hE
 let Y1 : World → Prop := fun wx : World => wx.cell? ⟨D, 0, none⟩ = some (.slice (some ⟨g, 0, none⟩) n n) ∧ wx.cell? ⟨B, 0, none⟩ = some (.int .i64 1) ∧ wx.cell? ⟨B, 1, none⟩ = some (.int .i64 1) ∧ wx.cell? ⟨B, 2, none⟩ = some (.int .i64 512) ∧ wx.cell? ⟨B, 3, none⟩ = some (.int .i64 512)
 refine wp_region_V Y1 99 5 rfl (by kernel_rfl) ?_
 have HI4 := hid (HI3'.out.same (Kept.refl (fun _ => False) _).drew)
 have HM1 := hid (HM.out.same (Kept.refl (fun _ => False) _).drew)
 generalize w5.drew = u1 at HI4 HM1 ⊢
 have hS : Y1 u1 := ⟨HI4.out.box.cell 0, HM1.out.c0, HM1.out.c1, HM1.out.c2, HM1.out.c3⟩
 refine tk 0 14 hS ?_
 refine tk 1 15 hS ?_
 refine tk 2 16 hS ?_
 refine wpAnyV_one (i := 3) (by kernel_rfl) rfl (fun K hK => ?_)
 go_simp
 refine (implEM_any 1 1 512 512 a0 a1 a2 _ (HER.out.same HI4.out.kept)).mono ?_
 rintro e u2 ⟨a, c, rfl, hf, ho, hk⟩
 have HI5 := hid (HI4.out.same hk)
 have HR5 := hid ho.rd
 have HM2 := hid (HM1.out.same hk)
 clear hf ho
 clear hk hS
 have hS : Y1 u2 := ⟨HI5.out.box.cell 0, HM2.out.c0, HM2.out.c1, HM2.out.c2, HM2.out.c3⟩
 go_wp2_with fail
 refine hK.out _ _ (fun _ => hS) ?_
 clear hK K
 try simp only [Act.put, sA, s0, sS]
 have hcp := HI5.out.copy 0 (encM 1 1 512 512) _ (by rw [encM1_len]; omega) (by omega) HR5.out
 have HI6 := hid (HI5.out.lay 0 (encM 1 1 512 512) (by rw [encM1_len]; omega))
 simp only [Nat.sub_zero] at hcp
 have HM3 := hid (HM2.out.kept (HI5.out.keptG 0 (encM 1 1 512 512)) (fun e => HGB.out e.symm))
 refine wpAnyV_one (i := 4) (by kernel_rfl) rfl (fun K hK => ?_)
 go_simp
 clear hS
 have hS : Y1 (u2.setCells g 0 (vals .u8 (encM 1 1 512 512))) := ⟨HI6.out.box.cell 0, HM3.out.c0, HM3.out.c1, HM3.out.c2, HM3.out.c3⟩
 refine hK.out _ _ (fun _ => hS) ?_
 clear hK K hcp hS
 try simp only [Act.put, sA, s0, sS]
 refine wpAnyV_done (by kernel_rfl) ?_
 generalize u2.setCells g 0 (vals .u8 (encM 1 1 512 512)) = u3 at HI6 ⊢
 clear HI3 HI3' HI4 HI5 HR5 HM HM1 HM2 HM3 HER
 go_upto_region 6 with fail
 refine wp_region_V (fun wx : World => wx.cell? ⟨D, 0, none⟩ = some (.slice (some ⟨g, 0, none⟩) n n)) 99 5 rfl (by kernel_rfl) ?_
 have HI8 := hid (HI6.out.same (Kept.refl (fun _ => False) _).drew)
 generalize u3.drew = v1 at HI8 ⊢
 have hS : (fun wx : World => wx.cell? ⟨D, 0, none⟩ = some (.slice (some ⟨g, 0, none⟩) n n)) v1 := HI8.out.box.cell 0
 refine tk 0 19 hS ?_
 refine tk 1 20 hS ?_
 refine tkV 2 21 (.slice (some ⟨g, 1024, none⟩) (n - 1024) (n - 1024)) hS ?_
 refine wpAnyV_one (i := 3) (by kernel_rfl) rfl (fun K hK => ?_)
 go_simp
 refine (firstCk_any _).mono ?_
 rintro e v2 ⟨a, c, rfl, ho, hk⟩
 have HI9 := hid (HI8.out.same hk)
 have HR9 := hid ho.rd
 clear ho
 clear hk hS
 have hS : (fun wx : World => wx.cell? ⟨D, 0, none⟩ = some (.slice (some ⟨g, 0, none⟩) n n)) v2 := HI9.out.box.cell 0
 go_wp2_with fail
 refine hK.out _ _ (fun _ => hS) ?_
 clear hK K
 try simp only [Act.put, sA, s0, sS]
 have hcp := HI9.out.copy 1024 ckB _ (by rw [ckB_len]; omega) (by omega) HR9.out
 have HI10 := hid (HI9.out.lay 1024 ckB (by rw [ckB_len]; omega))
 refine wpAnyV_one (i := 4) (by kernel_rfl) rfl (fun K hK => ?_)
 go_simp
 clear hS
 have hS : (fun wx : World => wx.cell? ⟨D, 0, none⟩ = some (.slice (some ⟨g, 0, none⟩) n n)) (v2.setCells g 1024 (vals .u8 ckB)) := HI10.out.box.cell 0
 refine hK.out _ _ (fun _ => hS) ?_
 clear hK K hcp hS
 try simp only [Act.put, sA, s0, sS]
 refine wpAnyV_done (by kernel_rfl) ?_
 generalize v2.setCells g 1024 (vals .u8 ckB) = v3 at HI10 ⊢
 clear HI6 HI8 HI9 HR9
 obtain ⟨X, hX⟩ : ∃ X, layI (layI (List.replicate n 0) 0 (encM 1 1 512 512)) 1024 ckB = X := ⟨_, rfl⟩
 rw [hX] at HI10 HD
 have HXL := (show Hid (n = X.length) from HI10.out.len)
 clear hX
 obtain ⟨c0, c1, c2⟩ := HI10.out.geo.all3
 go_wp2_with fail
 go_loopw [5, 26] (fun _ i wr => ∃ k : Nat, k ≤ P ∧ i = .int .i64 (k : Int) ∧ Hid (FmI w wr G Z D g n P f l (fmtP l X k))) (fun _ i _ => P - (intOf i).toNat)
 case atStart => exact ⟨0, Nat.zero_le _, rfl, HI10⟩
 case round =>
  obtain ⟨k, hk, rfl, HI⟩ := hrel
  clear HI10
  obtain ⟨c0, c1, c2⟩ := HI.out.geo.all3
  by_cases hlt : k < P
  ·have hki : (k : Int) < (P : Int) := by omega
   obtain ⟨O, hO⟩ : ∃ O : Nat, (2 + l + (k : Int) * 8).toNat * 512 = O := ⟨_, rfl⟩
   have hO1 : O + 4096 ≤ n := by have := HN.out; omega
   have hO2 : (O : Int) ≤ (n : Int) := by omega
   have hO3 : ¬ n = O := by omega
   have hOi : (2 + l + (k : Int) * 8) * 512 = (O : Int) := by omega
   have qO : IntKind.i64.wrap (O : Int) = (O : Int) := by rw [IntKind.wrap_i64]; omega
   have kS := fun wx => implPgSec_any P f l k wx
   rw [pgSec_yes HQ.out (by omega) (by omega)] at kS
   have kW := fun wx => implNew_any k wx
   have HPL := hid (pageNew_len k (by omega))
   have HSTEP := (show Hid (layI (fmtP l X k) O (pageNew (k : Int)) = fmtP l X (k + 1)) from by unfold Hid; rw [← hO]; rfl)
   clear hO
   go_upto_region 10 with fail
   clear c0 c1 c2
   let Y2 : World → Prop := fun wx : World => wx.cell? ⟨D, 0, none⟩ = some (.slice (some ⟨g, 0, none⟩) n n) ∧ wx.cell? ⟨G, 0, none⟩ = some (.int .i64 (P : Int)) ∧ wx.cell? ⟨G, 1, none⟩ = some (.int .i64 f) ∧ wx.cell? ⟨G, 2, none⟩ = some (.int .i64 l)
   refine wp_region_V Y2 99 10 rfl (by kernel_rfl) ?_
   have HI12 := hid (HI.out.same (Kept.refl (fun _ => False) _).drew)
   generalize wr.drew = u1 at HI12 ⊢
   have hS : Y2 u1 := ⟨HI12.out.box.cell 0, HI12.out.geo.cell 0, HI12.out.geo.cell 1, HI12.out.geo.cell 2⟩
   refine tk 0 29 hS ?_
   refine tk 1 30 hS ?_
   refine tk 2 31 hS ?_
   refine tk 3 32 hS ?_
   refine tk 7 36 hS ?_
   refine wpAnyV_one (i := 4) (by kernel_rfl) rfl (fun K hK => ?_)
   go_simp
   refine (kS _).mono ?_
   rintro e u2 ⟨rfl, hk⟩
   have HI13 := hid (HI12.out.same hk)
   clear hk hS
   have hS : Y2 u2 := ⟨HI13.out.box.cell 0, HI13.out.geo.cell 0, HI13.out.geo.cell 1, HI13.out.geo.cell 2⟩
   go_wp2_with fail
   refine hK.out _ _ (fun _ => hS) ?_
   clear hK K
   try simp only [Act.put, sA, s0, sS]
   refine tkV 5 34 (.int .i64 (O : Int)) hS ?_
   refine tkV 6 35 (.slice (some ⟨g, O, none⟩) (n - O) (n - O)) hS ?_
   refine wpAnyV_one (i := 8) (by kernel_rfl) rfl (fun K hK => ?_)
   go_simp
   refine (kW _).mono ?_
   rintro e u3 ⟨a, c, rfl, hf, ho, hk⟩
   have HI14 := hid (HI13.out.same hk)
   have HR14 := hid ho.rd
   clear hf ho
   clear hk hS
   have hS : Y2 u3 := ⟨HI14.out.box.cell 0, HI14.out.geo.cell 0, HI14.out.geo.cell 1, HI14.out.geo.cell 2⟩
   go_wp2_with fail
   refine hK.out _ _ (fun _ => hS) ?_
   clear hK K
   try simp only [Act.put, sA, s0, sS]
   have hcp := HI14.out.copy O (pageNew (k : Int)) _ (by rw [HPL.out]; omega) (by omega) HR14.out
   have HI15 := hid (HI14.out.lay O (pageNew (k : Int)) (by rw [HPL.out]; omega))
   refine wpAnyV_one (i := 9) (by kernel_rfl) rfl (fun K hK => ?_)
   go_simp
   clear hS
   have hS : Y2 (u3.setCells g O (vals .u8 (pageNew (k : Int)))) := ⟨HI15.out.box.cell 0, HI15.out.geo.cell 0, HI15.out.geo.cell 1, HI15.out.geo.cell 2⟩
   refine hK.out _ _ (fun _ => hS) ?_
   clear hK K hcp hS
   try simp only [Act.put, sA, s0, sS]
   refine wpAnyV_done (by kernel_rfl) ?_
   generalize u3.setCells g O (vals .u8 (pageNew (k : Int))) = u4 at HI15 ⊢
   rw [HSTEP.out] at HI15
   clear HI HI12 HI13 HI14 HR14 kS kW
   go_wp2_with fail
   go_roundw
   case rel => exact ⟨k + 1, by omega, by go_num, HI15⟩
   case measure => simp [intOf]; omega
  ·have hge : ¬ (k : Int) < (P : Int) := by omega
   obtain rfl : k = P := by omega
   obtain ⟨d0, d1⟩ := HI.out.box.all2
   obtain ⟨z0, z1⟩ := HI.out.res.all2
   have fz := HI.out.res.frozen
   have hkz : Kept (fun b => b = Z) wr ((wr.setCell ⟨Z, 0, none⟩ (.slice (some ⟨g, 0, none⟩) n n)).setCell ⟨Z, 1, none⟩ (.slice none 0 0)) := ((Kept.refl (fun b => b = Z) wr).setCell (p := ⟨Z, 0, none⟩) (.inr rfl) _).setCell (p := ⟨Z, 1, none⟩) (.inr rfl) _
   have HOZ := hid (HI.out.own.kept hkz (fun b hb e => by simp only [Value.ownBlock] at hb; have := Option.some.inj hb; exact HI.out.fr.2.2.1 (this.trans e)))
   have HKZ := (show Hid (Same w ((wr.setCell ⟨Z, 0, none⟩ (.slice (some ⟨g, 0, none⟩) n n)).setCell ⟨Z, 1, none⟩ (.slice none 0 0))) from HI.out.kept.next hkz (fun i hi e => by have := HI.out.fr.2.2.2.2; omega))
   clear hkz
   go_wp2_with fail
   refine bodyPost_ret (v := .agg #[.slice (some ⟨g, 0, none⟩) n n, .slice none 0 0]) (by simp [results, Tryz.results4, go_sem, z0, z1]) rfl ⟨_, _, _, rfl, ⟨?_, OwnP.nil _ _ _ _, fun b hb => absurd hb (footP_nil b)⟩, fun b hb => by simp only [Value.ownBlock] at hb; have := Option.some.inj hb; have := HI.out.fr.1; omega, HKZ.out⟩
   rw [HD.out]
   exact HOZ.out
end Go.Proofs.YtdbpaadndaoihaaGreatDoor
