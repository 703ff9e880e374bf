import Derived.Test.YtglokpakmlegbaaGreatDoorG17
import Derived.Test.YtglokpakmlegbaaGreatDoorG04
import Derived.Test.YtglokpakmlegbaaGreatDoorG12
import Derived.Test.YtglokpakmlegbaaGreatDoorRows
import Derived.Test.YtglokpakmlegbaaGreatDoorG00
import Derived.Test.YtglokpakmlegbaaGreatDoorG01
import Derived.Test.YtglokpakmlegbaaGreatDoorCards
import Derived.Test.YtglokpakmlegbaaGreatDoorTie
import Derived.Deep.DeepCutAuto
import Derived.ChangeSame
import Derived.ChangeVars
import Derived.JoinedOf
import Derived.RowKit
import Derived.RowKitTokens
import Derived.Stop.Joined
import Derived.SevenTiedAt
import Derived.WalkKit
import Derived.ProofKit
import Derived.OpenShut
import Derived.ShutString
import Derived.ChangeOld
import Derived.Below
import Derived.Lib.SmallJoins
import Derived.Deep.Slices
import Derived.Deep.SlicePairs
namespace Go.Proofs.YtglokpakmlegbaaGreatDoor
set_option maxRecDepth 100000
set_option maxHeartbeats 8000000
open Go.RowKit
set_option linter.unusedVariables false
set_option linter.unusedSimpArgs false
theorem firstCk_any (w : World) : Calls Tryz.prog 22 #[] w fun e w' => ∃ a c, e = .returned (.slice a ckB.length c) ∧ Own 0 5 .u8 w' (.slice a ckB.length c) ckB ∧ Same w w' := by
  go_enter Tryz.func22, Tryz.ntmps22
  go_wp2_with fail
  refine (implFrame_bg _).mono ?_
  rintro e f1 ⟨a1, c1, rfl, hf1, ho1, hk1⟩
  rw [fr_bg] at hf1 ho1 ⊢
  have HO1 := hid ho1
  have HF1 := hid hf1
  have HK1 := (show Hid (Same w f1) from hk1)
  clear ho1 hf1 hk1
  go_wp2_with fail
  refine (implFrame_tb _).mono ?_
  rintro e f2 ⟨a2, c2, rfl, hf2, ho2, hk2⟩
  rw [fr_tb] at ho2 ⊢
  have HR2 := hid ho2.rd
  have HO2 := hid (HO1.out.same hk2)
  have HK2 := hid (HK1.out.trans hk2)
  clear ho2 hf2 hk2 HO1
  go_wp2_with (at_builtin; refine wpList_app rfl (.tmp 8) (.tmp 11) rfl (.slice a1 33 c1) (.slice a2 39 c2) (frFd 512 1 bgR.dat) (frFd 545 1 tbR.dat) rfl rfl HO2.out HR2.out (by rw [fr_bg, fr_tb]; omega) ?_; intro a3 n3 c3 w6 hown hgr; have HO6 := (show Hid (Own 0 5 .u8 w6 (.slice a3 n3 c3) ckB) from hown); have HK6 := (show Hid (Same w w6) from hgr.same HK2.out HF1.out); have HN6 := (show Hid (n3 = ckB.length) from hown.caps.1); clear hown hgr HO2 HR2 HF1 HK1 HK2)
  go_ret
  have hn := HN6.out
  subst hn
  exact ⟨a3, c3, rfl, HO6.out, HK6.out⟩
theorem implFmt_any (p f l : Int) (a0 a1 a2 : Addr) (w : World) (hE : Errs w a0 a1 a2) : Calls Tryz.prog 6 #[.agg #[.int .i64 p, .int .i64 f, .int .i64 l]] w fun e w' => ∃ a n c, e = .returned (.agg #[.slice a n c, .slice none 0 0]) ∧ OwnD 0 82 5 w' (.slice a n c) (.slice none 0 0) (fmtD p f l) [] ∧ (∀ b, (Value.slice a n c).ownBlock = some b → w.heap.size ≤ b) ∧ Same w w' := by
  have HK0 := (show Hid (∀ o o2, Same w ((w.alloc o).alloc o2)) from fun _ _ => ((Kept.refl _ _).alloc _).alloc _)
  by_cases hq : geoF p f l = 0
  case neg =>
    have HD := (show Hid (fmtD p f l = []) from if_neg hq)
    have hq2 : (geoF p f l != 0) = true := bne_iff_ne.2 hq
    have b1 := (Blk.newB w [.int .i64 p, .int .i64 f, .int .i64 l] 29 [.slice none 0 0, .slice none 0 0] 27)
    go_enter Tryz.func6, Tryz.ntmps6
    go_wp2_with fail
    refine (implGeo_any p f l _).mono ?_
    rintro e w1 ⟨rfl, hk⟩
    have HK1 := hid ((HK0.out _ _).trans hk)
    have b2 := b1.same hk
    obtain ⟨c0, c1⟩ := b2.all2
    have fb := b2.frozen
    clear b1 hk
    have HKZ := (show Hid (∀ u v, Same w ((w1.setCell ⟨w.heap.size + 1, 0, none⟩ u).setCell ⟨w.heap.size + 1, 1, none⟩ v)) from fun _ _ => (HK1.out.setCell (.inl (by simp)) _).setCell (.inl (by simp)) _)
    go_wp2_with fail
    refine bodyPost_ret (v := .agg #[.slice none 0 0, .slice none 0 0]) (by simp [results, Tryz.results6, go_sem, c0, c1]) rfl ⟨none, 0, 0, rfl, ⟨?_, OwnP.nil _ _ _ _, fun b hb => by simp [Value.ownBlock]⟩, fun b hb => by simp [Value.ownBlock] at hb, by first | exact HK1.out | exact HKZ.out _ _⟩
    rw [HD.out]; exact Own.nil _ _ _ _
  obtain ⟨g1, g2, g3, g4⟩ := geo_good hq
  obtain ⟨P, rfl⟩ : ∃ P : Nat, p = P := ⟨p.toNat, by omega⟩
  obtain ⟨n, hn⟩ : ∃ n : Nat, (2 + l + (P : Int) * 8).toNat * 512 = n := ⟨_, rfl⟩
  have hnb : 1024 + 72 < n ∧ n ≤ 524288 := by omega
  have HD := (show Hid (fmtD P f l = fmtP l (layI (layI (List.replicate n 0) 0 (encM 1 1 512 512)) 1024 ckB) P) from by unfold Hid fmtD; rw [if_pos hq, hn, Int.toNat_natCast])
  have kN := fun wx => newDisk_yes (2 + l + (P : Int) * 8) wx (by omega) (by omega)
  rw [hn] at kN
  have kG := fun wx => implGeo_any P f l wx
  have kD := fun wx => implDskN_any P f l wx
  rw [hq] at kG
  rw [show dskN P f l = 2 + l + (P : Int) * 8 from if_pos hq] at kD
  have HN := (show Hid ((2 + l + (P : Int) * 8).toNat * 512 = n) from hn)
  have HQ := hid hq
  clear hq hn
  have b0 := (Blk.newL w [.int .i64 (P : Int), .int .i64 f, .int .i64 l] 29).same ((Kept.refl (fun _ => False) _).alloc (.cells #[.slice none 0 0, .slice none 0 0] 27))
  have b1 := (Blk.newB w [.int .i64 (P : Int), .int .i64 f, .int .i64 l] 29 [.slice none 0 0, .slice none 0 0] 27)
  go_enter Tryz.func6, Tryz.ntmps6
  go_wp2_with fail
  refine (kG _).mono ?_
  rintro e w1 ⟨rfl, hk⟩
  have HK1 := hid ((HK0.out _ _).trans hk)
  have b0 := b0.same hk
  have b1 := b1.same hk
  obtain ⟨c0, c1, c2⟩ := b0.all3
  clear hk kG HK0
  go_wp2_with fail
  refine (kD _).mono ?_
  rintro e w2 ⟨rfl, hk⟩
  have HK2 := hid (HK1.out.trans hk)
  have b0 := b0.same hk
  have b1 := b1.same hk
  clear hk kD
  go_wp2_with fail
  refine (kN _).mono ?_
  rintro e w3 ⟨g, rfl, hg, ho, hk⟩
  have hz2 := HK2.out.size
  have hb1 := b1.lt
  have hb3 := ho.lt g rfl
  have HI3 := (show Hid (FmI w (w3.alloc (.cells #[.slice (some ⟨g, 0, none⟩) n n, .slice none 0 0] 27)) w.heap.size (w.heap.size + 1) w3.heap.size g n P f l (List.replicate n 0)) from ⟨(b0.same hk).same ((Kept.refl _ _).alloc _), (b1.same hk).same ((Kept.refl _ _).alloc _), Blk.newL _ _ _, ho.same ((Kept.refl _ _).alloc _), List.length_replicate.symm, ⟨by omega, by omega, by omega, by omega, by omega⟩, (HK2.out.trans hk).alloc _⟩)
  clear hk hg ho b0 b1 c0 c1 c2 kN hz2 hb1 hb3 HK1 HK2
  go_upto_region 4 with fail
  generalize w3.alloc (.cells #[.slice (some ⟨g, 0, none⟩) n n, .slice none 0 0] 27) = w4 at HI3 ⊢
  generalize w3.heap.size = D at HI3 ⊢
  generalize w.heap.size + 1 = Z at HI3 ⊢
  generalize hG : w.heap.size = G at HI3 ⊢
  clear hG
  have hn1 : (1024 : Int) ≤ (n : Int) := by omega
  have hn2 : ¬ n = 1024 := by omega
  have hn0 : ¬ n = 0 := by omega
  have q1024 : IntKind.i64.wrap 1024 = 1024 := by rw [IntKind.wrap_i64]; omega
  have HM := (show Hid (Blk (w4.alloc (.cells #[.int .i64 1, .int .i64 1, .int .i64 512, .int .i64 512] 38)) w4.heap.size 38 [.int .i64 1, .int .i64 1, .int .i64 512, .int .i64 512]) from Blk.newL _ _ _)
  have HI3' := hid (HI3.out.same ((Kept.refl (fun _ => False) _).alloc (.cells #[.int .i64 1, .int .i64 1, .int .i64 512, .int .i64 512] 38)))
  go_upto_region 5 with fail
  generalize w4.alloc (.cells #[.int .i64 1, .int .i64 1, .int .i64 512, .int .i64 512] 38) = w5 at HM HI3' ⊢
  have HGB := (show Hid (g ≠ w4.heap.size) from fun e => by have := (HI3.out.own.lt g rfl).2; omega)
  generalize w4.heap.size = B at HM HGB ⊢
  have HER := (show Hid (Errs w a0 a1 a2) from hE)
  clear hE
  refine wp_region_V (fun wx : World => wx.cell? ⟨D, 0, none⟩ = some (.slice (some ⟨g, 0, none⟩) n n) ∧ wx.cell? ⟨B, 0, none⟩ = some (.int .i64 1) ∧ wx.cell? ⟨B, 1, none⟩ = some (.int .i64 1) ∧ wx.cell? ⟨B, 2, none⟩ = some (.int .i64 512) ∧ wx.cell? ⟨B, 3, none⟩ = some (.int .i64 512)) 99 5 rfl (by kernel_rfl) ?_
  have HI4 := hid (HI3'.out.same (Kept.refl (fun _ => False) _).drew)
  have HM1 := hid (HM.out.same (Kept.refl (fun _ => False) _).drew)
  generalize w5.drew = u1 at HI4 HM1 ⊢
  have hS : (fun wx : World => wx.cell? ⟨D, 0, none⟩ = some (.slice (some ⟨g, 0, none⟩) n n) ∧ wx.cell? ⟨B, 0, none⟩ = some (.int .i64 1) ∧ wx.cell? ⟨B, 1, none⟩ = some (.int .i64 1) ∧ wx.cell? ⟨B, 2, none⟩ = some (.int .i64 512) ∧ wx.cell? ⟨B, 3, none⟩ = some (.int .i64 512)) u1 := ⟨HI4.out.box.cell 0, HM1.out.c0, HM1.out.c1, HM1.out.c2, HM1.out.c3⟩
  refine tk 0 14 hS ?_
  refine tk 1 15 hS ?_
  refine tk 2 16 hS ?_
  refine wpAnyV_one (i := 3) (by kernel_rfl) rfl (fun K hK => ?_)
  go_simp
  refine (implEM_any 1 1 512 512 a0 a1 a2 _ (HER.out.same HI4.out.kept)).mono ?_
  rintro e u2 ⟨a, c, rfl, hf, ho, hk⟩
  have HI5 := hid (HI4.out.same hk)
  have HR5 := hid ho.rd
  have HM2 := hid (HM1.out.same hk)
  clear hf ho
  clear hk hS
  have hS : (fun wx : World => wx.cell? ⟨D, 0, none⟩ = some (.slice (some ⟨g, 0, none⟩) n n) ∧ wx.cell? ⟨B, 0, none⟩ = some (.int .i64 1) ∧ wx.cell? ⟨B, 1, none⟩ = some (.int .i64 1) ∧ wx.cell? ⟨B, 2, none⟩ = some (.int .i64 512) ∧ wx.cell? ⟨B, 3, none⟩ = some (.int .i64 512)) u2 := ⟨HI5.out.box.cell 0, HM2.out.c0, HM2.out.c1, HM2.out.c2, HM2.out.c3⟩
  go_wp2_with fail
  refine hK.out _ _ (fun _ => hS) ?_
  clear hK K
  try simp only [Act.put, sA, s0, sS]
  have hcp := HI5.out.copy 0 (encM 1 1 512 512) _ (by rw [encM1_len]; omega) (by omega) HR5.out
  have HI6 := hid (HI5.out.lay 0 (encM 1 1 512 512) (by rw [encM1_len]; omega))
  simp only [Nat.sub_zero] at hcp
  have HM3 := hid (HM2.out.kept (HI5.out.keptG 0 (encM 1 1 512 512)) (fun e => HGB.out e.symm))
  refine wpAnyV_one (i := 4) (by kernel_rfl) rfl (fun K hK => ?_)
  go_simp
  clear hS
  have hS : (fun wx : World => wx.cell? ⟨D, 0, none⟩ = some (.slice (some ⟨g, 0, none⟩) n n) ∧ wx.cell? ⟨B, 0, none⟩ = some (.int .i64 1) ∧ wx.cell? ⟨B, 1, none⟩ = some (.int .i64 1) ∧ wx.cell? ⟨B, 2, none⟩ = some (.int .i64 512) ∧ wx.cell? ⟨B, 3, none⟩ = some (.int .i64 512)) (u2.setCells g 0 (vals .u8 (encM 1 1 512 512))) := ⟨HI6.out.box.cell 0, HM3.out.c0, HM3.out.c1, HM3.out.c2, HM3.out.c3⟩
  refine hK.out _ _ (fun _ => hS) ?_
  clear hK K hcp hS
  try simp only [Act.put, sA, s0, sS]
  refine wpAnyV_done (by kernel_rfl) ?_
  generalize u2.setCells g 0 (vals .u8 (encM 1 1 512 512)) = u3 at HI6 ⊢
  clear HI3 HI3' HI4 HI5 HR5 HM HM1 HM2 HM3 HER
  go_upto_region 6 with fail
  refine wp_region_V (fun wx : World => wx.cell? ⟨D, 0, none⟩ = some (.slice (some ⟨g, 0, none⟩) n n)) 99 5 rfl (by kernel_rfl) ?_
  have HI8 := hid (HI6.out.same (Kept.refl (fun _ => False) _).drew)
  generalize u3.drew = v1 at HI8 ⊢
  have hS : (fun wx : World => wx.cell? ⟨D, 0, none⟩ = some (.slice (some ⟨g, 0, none⟩) n n)) v1 := HI8.out.box.cell 0
  refine tk 0 19 hS ?_
  refine tk 1 20 hS ?_
  refine tkV 2 21 (.slice (some ⟨g, 1024, none⟩) (n - 1024) (n - 1024)) hS ?_
  refine wpAnyV_one (i := 3) (by kernel_rfl) rfl (fun K hK => ?_)
  go_simp
  refine (firstCk_any _).mono ?_
  rintro e v2 ⟨a, c, rfl, ho, hk⟩
  have HI9 := hid (HI8.out.same hk)
  have HR9 := hid ho.rd
  clear ho
  clear hk hS
  have hS : (fun wx : World => wx.cell? ⟨D, 0, none⟩ = some (.slice (some ⟨g, 0, none⟩) n n)) v2 := HI9.out.box.cell 0
  go_wp2_with fail
  refine hK.out _ _ (fun _ => hS) ?_
  clear hK K
  try simp only [Act.put, sA, s0, sS]
  have hcp := HI9.out.copy 1024 ckB _ (by rw [ckB_len]; omega) (by omega) HR9.out
  have HI10 := hid (HI9.out.lay 1024 ckB (by rw [ckB_len]; omega))
  refine wpAnyV_one (i := 4) (by kernel_rfl) rfl (fun K hK => ?_)
  go_simp
  clear hS
  have hS : (fun wx : World => wx.cell? ⟨D, 0, none⟩ = some (.slice (some ⟨g, 0, none⟩) n n)) (v2.setCells g 1024 (vals .u8 ckB)) := HI10.out.box.cell 0
  refine hK.out _ _ (fun _ => hS) ?_
  clear hK K hcp hS
  try simp only [Act.put, sA, s0, sS]
  refine wpAnyV_done (by kernel_rfl) ?_
  generalize v2.setCells g 1024 (vals .u8 ckB) = v3 at HI10 ⊢
  clear HI6 HI8 HI9 HR9
  obtain ⟨X, hX⟩ : ∃ X, layI (layI (List.replicate n 0) 0 (encM 1 1 512 512)) 1024 ckB = X := ⟨_, rfl⟩
  rw [hX] at HI10 HD
  have HXL := (show Hid (n = X.length) from HI10.out.len)
  clear hX
  obtain ⟨c0, c1, c2⟩ := HI10.out.geo.all3
  go_wp2_with fail
  go_loopw [5, 26] (fun _ i wr => ∃ k : Nat, k ≤ P ∧ i = .int .i64 (k : Int) ∧ Hid (FmI w wr G Z D g n P f l (fmtP l X k))) (fun _ i _ => P - (intOf i).toNat)
  case atStart => exact ⟨0, Nat.zero_le _, rfl, HI10⟩
  case round =>
    obtain ⟨k, hk, rfl, HI⟩ := hrel
    clear HI10
    obtain ⟨c0, c1, c2⟩ := HI.out.geo.all3
    by_cases hlt : k < P
    · have hki : (k : Int) < (P : Int) := by omega
      obtain ⟨O, hO⟩ : ∃ O : Nat, (2 + l + (k : Int) * 8).toNat * 512 = O := ⟨_, rfl⟩
      have hO1 : O + 4096 ≤ n := by have := HN.out; omega
      have hO2 : (O : Int) ≤ (n : Int) := by omega
      have hO3 : ¬ n = O := by omega
      have hOi : (2 + l + (k : Int) * 8) * 512 = (O : Int) := by omega
      have qO : IntKind.i64.wrap (O : Int) = (O : Int) := by rw [IntKind.wrap_i64]; omega
      have kS := fun wx => implPgSec_any P f l k wx
      rw [pgSec_yes HQ.out (by omega) (by omega)] at kS
      have kW := fun wx => implNew_any k wx
      have HPL := hid (pageNew_len k (by omega))
      have HSTEP := (show Hid (layI (fmtP l X k) O (pageNew (k : Int)) = fmtP l X (k + 1)) from by unfold Hid; rw [← hO]; rfl)
      clear hO
      go_upto_region 10 with fail
      clear c0 c1 c2
      refine wp_region_V (fun wx : World => wx.cell? ⟨D, 0, none⟩ = some (.slice (some ⟨g, 0, none⟩) n n) ∧ wx.cell? ⟨G, 0, none⟩ = some (.int .i64 (P : Int)) ∧ wx.cell? ⟨G, 1, none⟩ = some (.int .i64 f) ∧ wx.cell? ⟨G, 2, none⟩ = some (.int .i64 l)) 99 10 rfl (by kernel_rfl) ?_
      have HI12 := hid (HI.out.same (Kept.refl (fun _ => False) _).drew)
      generalize wr.drew = u1 at HI12 ⊢
      have hS : (fun wx : World => wx.cell? ⟨D, 0, none⟩ = some (.slice (some ⟨g, 0, none⟩) n n) ∧ wx.cell? ⟨G, 0, none⟩ = some (.int .i64 (P : Int)) ∧ wx.cell? ⟨G, 1, none⟩ = some (.int .i64 f) ∧ wx.cell? ⟨G, 2, none⟩ = some (.int .i64 l)) u1 := ⟨HI12.out.box.cell 0, HI12.out.geo.cell 0, HI12.out.geo.cell 1, HI12.out.geo.cell 2⟩
      refine tk 0 29 hS ?_
      refine tk 1 30 hS ?_
      refine tk 2 31 hS ?_
      refine tk 3 32 hS ?_
      refine tk 7 36 hS ?_
      refine wpAnyV_one (i := 4) (by kernel_rfl) rfl (fun K hK => ?_)
      go_simp
      refine (kS _).mono ?_
      rintro e u2 ⟨rfl, hk⟩
      have HI13 := hid (HI12.out.same hk)
      clear hk hS
      have hS : (fun wx : World => wx.cell? ⟨D, 0, none⟩ = some (.slice (some ⟨g, 0, none⟩) n n) ∧ wx.cell? ⟨G, 0, none⟩ = some (.int .i64 (P : Int)) ∧ wx.cell? ⟨G, 1, none⟩ = some (.int .i64 f) ∧ wx.cell? ⟨G, 2, none⟩ = some (.int .i64 l)) u2 := ⟨HI13.out.box.cell 0, HI13.out.geo.cell 0, HI13.out.geo.cell 1, HI13.out.geo.cell 2⟩
      go_wp2_with fail
      refine hK.out _ _ (fun _ => hS) ?_
      clear hK K
      try simp only [Act.put, sA, s0, sS]
      refine tkV 5 34 (.int .i64 (O : Int)) hS ?_
      refine tkV 6 35 (.slice (some ⟨g, O, none⟩) (n - O) (n - O)) hS ?_
      refine wpAnyV_one (i := 8) (by kernel_rfl) rfl (fun K hK => ?_)
      go_simp
      refine (kW _).mono ?_
      rintro e u3 ⟨a, c, rfl, hf, ho, hk⟩
      have HI14 := hid (HI13.out.same hk)
      have HR14 := hid ho.rd
      clear hf ho
      clear hk hS
      have hS : (fun wx : World => wx.cell? ⟨D, 0, none⟩ = some (.slice (some ⟨g, 0, none⟩) n n) ∧ wx.cell? ⟨G, 0, none⟩ = some (.int .i64 (P : Int)) ∧ wx.cell? ⟨G, 1, none⟩ = some (.int .i64 f) ∧ wx.cell? ⟨G, 2, none⟩ = some (.int .i64 l)) u3 := ⟨HI14.out.box.cell 0, HI14.out.geo.cell 0, HI14.out.geo.cell 1, HI14.out.geo.cell 2⟩
      go_wp2_with fail
      refine hK.out _ _ (fun _ => hS) ?_
      clear hK K
      try simp only [Act.put, sA, s0, sS]
      have hcp := HI14.out.copy O (pageNew (k : Int)) _ (by rw [HPL.out]; omega) (by omega) HR14.out
      have HI15 := hid (HI14.out.lay O (pageNew (k : Int)) (by rw [HPL.out]; omega))
      refine wpAnyV_one (i := 9) (by kernel_rfl) rfl (fun K hK => ?_)
      go_simp
      clear hS
      have hS : (fun wx : World => wx.cell? ⟨D, 0, none⟩ = some (.slice (some ⟨g, 0, none⟩) n n) ∧ wx.cell? ⟨G, 0, none⟩ = some (.int .i64 (P : Int)) ∧ wx.cell? ⟨G, 1, none⟩ = some (.int .i64 f) ∧ wx.cell? ⟨G, 2, none⟩ = some (.int .i64 l)) (u3.setCells g O (vals .u8 (pageNew (k : Int)))) := ⟨HI15.out.box.cell 0, HI15.out.geo.cell 0, HI15.out.geo.cell 1, HI15.out.geo.cell 2⟩
      refine hK.out _ _ (fun _ => hS) ?_
      clear hK K hcp hS
      try simp only [Act.put, sA, s0, sS]
      refine wpAnyV_done (by kernel_rfl) ?_
      generalize u3.setCells g O (vals .u8 (pageNew (k : Int))) = u4 at HI15 ⊢
      rw [HSTEP.out] at HI15
      clear HI HI12 HI13 HI14 HR14 kS kW
      go_wp2_with fail
      go_roundw
      case rel => exact ⟨k + 1, by omega, by go_num, HI15⟩
      case measure => simp [intOf]; omega
    · have hge : ¬ (k : Int) < (P : Int) := by omega
      obtain rfl : k = P := by omega
      obtain ⟨d0, d1⟩ := HI.out.box.all2
      obtain ⟨z0, z1⟩ := HI.out.res.all2
      have fz := HI.out.res.frozen
      have hkz : Kept (fun b => b = Z) wr ((wr.setCell ⟨Z, 0, none⟩ (.slice (some ⟨g, 0, none⟩) n n)).setCell ⟨Z, 1, none⟩ (.slice none 0 0)) := ((Kept.refl (fun b => b = Z) wr).setCell (p := ⟨Z, 0, none⟩) (.inr rfl) _).setCell (p := ⟨Z, 1, none⟩) (.inr rfl) _
      have HOZ := hid (HI.out.own.kept hkz (fun b hb e => by simp only [Value.ownBlock] at hb; have := Option.some.inj hb; exact HI.out.fr.2.2.1 (this.trans e)))
      have HKZ := (show Hid (Same w ((wr.setCell ⟨Z, 0, none⟩ (.slice (some ⟨g, 0, none⟩) n n)).setCell ⟨Z, 1, none⟩ (.slice none 0 0))) from HI.out.kept.next hkz (fun i hi e => by have := HI.out.fr.2.2.2.2; omega))
      clear hkz
      go_wp2_with fail
      refine bodyPost_ret (v := .agg #[.slice (some ⟨g, 0, none⟩) n n, .slice none 0 0]) (by simp [results, Tryz.results6, go_sem, z0, z1]) rfl ⟨_, _, _, rfl, ⟨?_, OwnP.nil _ _ _ _, fun b hb => absurd hb (footP_nil b)⟩, fun b hb => by simp only [Value.ownBlock] at hb; have := Option.some.inj hb; have := HI.out.fr.1; omega, HKZ.out⟩
      rw [HD.out]
      exact HOZ.out
end Go.Proofs.YtglokpakmlegbaaGreatDoor

namespace Go.Proofs.YtglokpakmlegbaaGreatDoor
set_option maxRecDepth 100000
set_option maxHeartbeats 4000000
open Go.RowKit
set_option linter.unusedVariables false
set_option linter.unusedSimpArgs false
theorem toGeo_any (p f l : Int) (w : World) : Calls Tryz.prog 5 #[.agg #[.int .i64 p, .int .i64 f, .int .i64 l]] w fun e w' => e = .returned (.agg #[.int .i64 p, .int .i64 f, .int .i64 l]) ∧ Same w w' := by
  go_enter Tryz.func5, Tryz.ntmps5
  go_wp2
  refine bodyPost_ret (v := .agg #[.int .i64 p, .int .i64 f, .int .i64 l]) (by simp [results, Tryz.results5, go_sem]) rfl ⟨rfl, ?_⟩
  repeat (first | exact Kept.refl _ _ | refine Kept.alloc ?_ _ | refine Kept.setCell ?_ (.inl (by simp)) _)
end Go.Proofs.YtglokpakmlegbaaGreatDoor

namespace Go.Proofs.YtglokpakmlegbaaGreatDoor
set_option maxRecDepth 100000
set_option maxHeartbeats 8000000
open Go.RowKit
set_option linter.unusedVariables false
set_option linter.unusedSimpArgs false
theorem fmt_law (p f l : Int) (q0 q1 q2 : Addr) (w : World) (hE : Errs w q0 q1 q2) :
    Calls Tryz.prog 3 #[.agg #[.int .i64 p, .int .i64 f, .int .i64 l]] w fun e w' => e = .returned (.bool true) ∧ Same w w' := by
  have hlen := fmtD_le p f l
  generalize hd : fmtD p f l = dur at hlen
  have HD : Hid (fmtD p f l = dur) := hd
  clear hd
  have HER := hid hE
  clear hE
  have HGK := hid (sameA w [.int .i64 p, .int .i64 f, .int .i64 l] 23)
  have HG0 := hid (Blk.newL w [.int .i64 p, .int .i64 f, .int .i64 l] 23)
  go_enter Tryz.func3, Tryz.ntmps3
  go_wp2_with fail
  refine (toGeo_any p f l _).mono ?_
  rintro e wa ⟨rfl, hka⟩
  have HGa := hid (HG0.out.same hka)
  have HKa := hid (HGK.out.trans hka)
  clear hka HG0 HGK
  go_wp2_with fail
  refine (specFmt_any p f l _).mono ?_
  rintro e w1 ⟨a1, n1, c1, rfl, ho1, hf1, hk1⟩
  rw [HD.out] at ho1
  have HO1 := (show Hid (OwnD 0 82 5 w1 (.slice a1 n1 c1) (.slice none 0 0) dur []) from ho1)
  have HF1 := (show Hid (∀ b, (Value.slice a1 n1 c1).ownBlock = some b → w.heap.size ≤ b) from fun b hb => Nat.le_trans HKa.out.size (hf1 b hb))
  have HK1 : Hid (Same w w1) := HKa.out.trans hk1
  have HG1 := hid (HGa.out.same hk1)
  clear ho1 hf1 hk1 HGa HKa
  obtain ⟨d0, d1, d2⟩ := HG1.out.all3
  have lG := HG1.out.lt
  go_wp2_with fail
  refine (toGeo_any p f l _).mono ?_
  rintro e wb ⟨rfl, hkb⟩
  clear d0 d1 d2
  go_wp2_with fail
  refine (implFmt_any p f l q0 q1 q2 _ (HER.out.same ((HK1.out.alloc _).trans hkb))).mono ?_
  rintro e w2 ⟨a2, n2, c2, rfl, ho2, hf2', hk2'⟩
  have hf2 := (fun b (hb : (Value.slice a2 n2 c2).ownBlock = some b) => Nat.le_trans hkb.size (hf2' b hb))
  have hk2 := hkb.trans hk2'
  clear hf2' hk2' hkb
  have HG2 := hid (HG1.out.same (((Kept.refl _ _).alloc _).trans hk2))
  rw [HD.out] at ho2
  have HB1 : Hid (Box w2 w1.heap.size (.slice a1 n1 c1) (.slice none 0 0)) := (Box.new _ _ _ _).same hk2
  obtain ⟨p1, p2⟩ := HB1.out
  have HO2 := (show Hid (OwnD 0 82 5 w2 (.slice a2 n2 c2) (.slice none 0 0) dur []) from ho2)
  have HO1' := (show Hid (OwnD 0 82 5 w2 (.slice a1 n1 c1) (.slice none 0 0) dur []) from HO1.out.same (((Kept.refl _ _).alloc _).trans hk2))
  have HF2 := (show Hid (∀ b, (Value.slice a2 n2 c2).ownBlock = some b → w1.heap.size < b) from fun b hb => by have := hf2 b hb; simp at this; omega)
  have hz2 : w1.heap.size < w2.heap.size := by have := hk2.size; simp at this; omega
  have HK2 : Hid (Same w w2) := (HK1.out.alloc _).trans hk2
  clear ho2 hf2 hk2
  go_wp2_with fail
  refine (eqDisk_own 0 _ _ _ _ dur [] [] _ (by omega) (by simp) rfl (by simp) (HO2.out.same ((Kept.refl _ _).alloc _)) (HO1'.out.same ((Kept.refl _ _).alloc _))).mono ?_
  rintro e w3 ⟨rfl, hk3⟩
  have hk3' : Same w2 w3 := ((Kept.refl _ _).alloc _).trans hk3
  have HB1' : Hid (Box w3 w1.heap.size (.slice a1 n1 c1) (.slice none 0 0)) := HB1.out.same hk3'
  have HB2 : Hid (Box w3 w2.heap.size (.slice a2 n2 c2) (.slice none 0 0)) := (Box.new _ _ _ _).same hk3
  have HO13 := hid (HO1'.out.same hk3')
  have HO23 := hid (HO2.out.same hk3')
  have HK3 : Hid (Same w w3) := HK2.out.trans hk3'
  have HG3 := hid (HG2.out.same hk3')
  clear hk3 hk3' p1 p2
  obtain ⟨p1, p2⟩ := HB1'.out
  obtain ⟨p3, p4⟩ := HB2.out
  go_wp2_with fail
  obtain ⟨E, hE⟩ : ∃ E, endP (1 + (dur.length : Int)) [] = E := ⟨_, rfl⟩
  have hE0 : 0 ≤ E := by rw [← hE]; simp only [endP]; omega
  have hE1 : E ≤ 1125899906842624 := by rw [← hE]; simp only [endP]; omega
  have HE : Hid (endP (1 + (dur.length : Int)) [] = E) := hE
  clear hE
  have hm := markDisk_own 0 (.slice a2 n2 c2) (.slice none 0 0) dur [] 1 w3 (by omega) (by rw [HE.out]; exact hE1) (by simp) HO23.out
  rw [HE.out] at hm
  refine hm.mono ?_
  clear hm
  rintro e w4 ⟨rfl, ho4, hk4⟩
  have hfoot : ∀ b, footD (.slice a2 n2 c2) (.slice none 0 0) [] b → w1.heap.size < b ∧ b < w2.heap.size := fun b hb => by
    rcases hb with hb | hb
    · exact ⟨HF2.out b hb, (HO2.out.lt b (.inl hb)).2⟩
    · exact absurd hb (footP_nil b)
  have HB14 : Hid (Box w4 w1.heap.size (.slice a1 n1 c1) (.slice none 0 0)) := HB1'.out.kept hk4 (fun e => by have := hfoot _ e; omega)
  have HB24 : Hid (Box w4 w2.heap.size (.slice a2 n2 c2) (.slice none 0 0)) := HB2.out.kept hk4 (fun e => by have := hfoot _ e; omega)
  have HO14 := (show Hid (OwnD 0 82 5 w4 (.slice a1 n1 c1) (.slice none 0 0) dur []) from HO13.out.kept hk4 (fun b hb e => by have h1 := hfoot _ e; have h2 := (HO1.out.lt b hb).2; omega))
  have HO24 := (show Hid (OwnD 0 82 5 w4 (.slice a2 n2 c2) (.slice none 0 0) (marks 1 dur.length) (markP (1 + (dur.length : Int)) [])) from ho4)
  have HK4 : Hid (Same w w4) := HK3.out.next hk4 (fun b hb e => by have h1 := hfoot _ e; have h2 := HK1.out.size; omega)
  have HG4 := hid (HG3.out.kept hk4 (fun e => by have := hfoot _ e; omega))
  clear p1 p2 p3 p4 ho4 hk4
  obtain ⟨p1, p2⟩ := HB14.out
  obtain ⟨p3, p4⟩ := HB24.out
  go_wp2_with fail
  have hh := heldDisk_own 0 (.slice a2 n2 c2) (.slice none 0 0) dur [] 1 w4 (by omega) (by rw [HE.out]; exact hE1) (by simp) HO24.out
  rw [HE.out] at hh
  refine hh.mono ?_
  clear hh
  rintro e w5 ⟨rfl, hk5⟩
  have HB15 : Hid (Box w5 w1.heap.size (.slice a1 n1 c1) (.slice none 0 0)) := HB14.out.same hk5
  have HB25 : Hid (Box w5 w2.heap.size (.slice a2 n2 c2) (.slice none 0 0)) := HB24.out.same hk5
  have HO15 := hid (HO14.out.same hk5)
  have HO25 := hid (HO24.out.same hk5)
  have HK5 : Hid (Same w w5) := HK4.out.trans hk5
  have HG5 := hid (HG4.out.same hk5)
  clear p1 p2 p3 p4 hk5
  obtain ⟨d0, d1, d2⟩ := HG5.out.all3
  go_wp2_with fail
  refine (toGeo_any p f l _).mono ?_
  rintro e wc ⟨rfl, hkc⟩
  clear d0 d1 d2
  go_wp2_with fail
  refine (implFmt_any p f l q0 q1 q2 _ (HER.out.same (HK5.out.trans hkc))).mono ?_
  rintro e w6 ⟨a3, n3, c3, rfl, ho6, hf6, hk6'⟩
  have hk6 := hkc.trans hk6'
  clear hk6' hkc
  rw [HD.out] at ho6
  have HB16 : Hid (Box w6 w1.heap.size (.slice a1 n1 c1) (.slice none 0 0)) := HB15.out.same hk6
  have HB26 : Hid (Box w6 w2.heap.size (.slice a2 n2 c2) (.slice none 0 0)) := HB25.out.same hk6
  have HO16 := hid (HO15.out.same hk6)
  have HO26 := hid (HO25.out.same hk6)
  have HO36 := (show Hid (OwnD 0 82 5 w6 (.slice a3 n3 c3) (.slice none 0 0) dur []) from ho6)
  have HK6 : Hid (Same w w6) := HK5.out.trans hk6
  clear ho6 hf6 hk6
  obtain ⟨p1, p2⟩ := HB16.out
  have hz6 := HB16.out.lt
  go_wp2_with fail
  refine (eqDisk_own 0 _ _ _ _ dur [] [] _ (by omega) (by simp) rfl (by simp) (HO36.out.same ((Kept.refl _ _).alloc _)) (HO16.out.same ((Kept.refl _ _).alloc _))).mono ?_
  rintro e w7 ⟨rfl, hk7⟩
  have hk7' : Same w6 w7 := ((Kept.refl _ _).alloc _).trans hk7
  have HB27 : Hid (Box w7 w2.heap.size (.slice a2 n2 c2) (.slice none 0 0)) := HB26.out.same hk7'
  have HO27 := hid (HO26.out.same hk7')
  have HK7 : Hid (Same w w7) := HK6.out.trans hk7'
  clear p1 p2 hk7 hk7'
  obtain ⟨p3, p4⟩ := HB27.out
  go_wp2_with fail
  have hh := heldDisk_own 0 (.slice a2 n2 c2) (.slice none 0 0) dur [] 1 w7 (by omega) (by rw [HE.out]; exact hE1) (by simp) HO27.out
  rw [HE.out] at hh
  refine hh.mono ?_
  clear hh
  rintro e w8 ⟨rfl, hk8⟩
  have HK8 : Hid (Same w w8) := HK7.out.trans hk8
  clear p3 p4 hk8
  go_wp2
  go_ret
  exact ⟨rfl, HK8.out⟩
end Go.Proofs.YtglokpakmlegbaaGreatDoor

namespace Go.Proofs.YtglokpakmlegbaaGreatDoor.fnExactFormat
open Go.ChangeShapes Go.WideShapes Go.ChangeAt Go.RowKit
set_option linter.unusedVariables false
theorem own : ownKnob Tryz.prog.godebug = none := by kernel_rfl
theorem laidOut : laidOutB Tryz.prog = true := by kernel_rfl
set_option maxRecDepth 100000 in
theorem lifted (os : Os) (started : os.Started) (H : Type) (enc : TypeId × Value → H) :
    ReturnsInHanded {} Tryz.checked os 3 .any (fun w args => (Rows.fnExactFormatSpec.pre enc Tryz.prog Tryz.f3 [] false w args ∧ laidMetH Tryz.prog [L0, L1, L2] w) ∧ sizedMet enc Tryz.prog Tryz.f3 (OpenSpec.ofChange Rows.fnExactFormatSpec) false w args)
      (Rows.fnExactFormatSpec.post enc Tryz.prog Tryz.f3 false true false false) := by
  refine returnsInHanded_of_change_and (C := Tryz.checked) (X := fun w _ => laidMetH Tryz.prog [L0, L1, L2] w) (fun _ _ _ hh h => h.of_heap hh) own started (by kernel_rfl) Tryz.func3
    (ChangeSpec.witness_at (enc := enc) (C := Tryz.checked) (os := os) (X := fun w _ => laidMetH Tryz.prog [L0, L1, L2] w) false (laidOnC (World.holding Tryz.prog os ⟨laidOnCObj, #[], []⟩) (World.holding Tryz.prog default ⟨#[], #[], []⟩).heap.size) #[.agg #[.int .i64 0, .int .i64 0, .int .i64 0]] 8 rfl (by kernel_rfl) (by kernel_rfl) (by kernel_rfl) (by kernel_rfl) (by kernel_rfl) (laid_metC os _)) ?_
  intro W base args ds gs before hval0 hW _ _ hL _
  have hval : ∀ (j : Nat) t v, Tryz.f3.params[j]? = some t → args[j]? = some v → Value.okWide Tryz.prog W .any base t v := hval0
  have hW' := hW
  obtain ⟨p, q, hA0, hV0, rfl, hfz, hnd⟩ := hW
  have hA : DataW.TrodAll enc Tryz.prog W 0 (fun _ => true) true Tryz.f3.params.toList args.toList ds p := hA0
  have hL' : laidMet Tryz.prog [L0, L1, L2] W := hL
  obtain ⟨a0, a1, a2, hv0, hv1, hv2, hE⟩ := laid3 hL'
  have hV : DataW.TrodVars enc Tryz.prog W (fun _ => true) [L0.1, L1.1, L2.1] gs q := hV0
  obtain ⟨rfl, rfl⟩ := hV.unique (vars3 enc hv0 hv1 hv2 _)
  rw [Tryz.params3] at hA hval
  obtain ⟨v0, vs0, d0, ds0, p0, q0, hargs, rfl, rfl, h0, r0⟩ := trodAll_cons hA
  obtain ⟨rfl, rfl, rfl⟩ := trodAll_nil r0
  obtain rfl : args = #[v0] := by cases args; simp_all
  have k0 := h0
  have lt0 : ∀ x ∈ p0, x.block < W.heap.size := by obtain ⟨m, hm⟩ := k0; exact DataW.trod_lt m _ _ _ hm
  obtain ⟨gp0, gf0, gl0, rfl⟩ := open_geo (hval 0 23 v0 rfl rfl) h0
  clear hA0 hval0
  refine (fmt_law gp0 gf0 gl0 a0 a1 a2 W (hE.errs) ).mono fun ex W' ⟨he, hk⟩ => ?_
  have bel : Below W.heap.size W W' := hk.below (Nat.le_refl _) (fun _ _ => id)
  subst he
  exact ⟨_, rfl, _, _, _, [], _, _, hW', trodAll_mk1 (shut_bool Tryz.underlying4 _), (trodAll_cons_mk (Below.trod laidOut (by kernel_rfl) (of_decide_eq_true (by kernel_rfl)) k0 bel lt0) trodAll_mk0), vars3 enc (var_same hk hv0) (var_same hk hv1) (var_same hk hv2) _, bel.frame _, fun h => by cases h⟩
theorem over : Rows.fnExactFormatRow.holds Tryz.pinned (OpenSpec.ofChange Rows.fnExactFormatSpec) :=
  OpenClaim.holds_of_wide 3 Tryz.f3 rfl rfl rfl rfl rfl rfl rfl ⟨rfl, rfl, rfl, rfl, rfl⟩ rfl rfl rfl rfl rfl (by kernel_rfl) Tryz.func3 (by kernel_rfl)
    (of_decide_eq_true (by kernel_rfl)) (by unfold Func.isWrapper; first | (rw [if_pos (by decide +kernel)]; kernel_rfl) | (rw [if_neg (by decide +kernel)]; exact ⟨rfl, rfl⟩))
    (fun os started H enc _ => lifted os started H enc)
end Go.Proofs.YtglokpakmlegbaaGreatDoor.fnExactFormat
namespace Go.Proofs.YtglokpakmlegbaaGreatDoor
open Go
theorem format_proved : Rows.FnExactFormatCardSaid :=
  Claim7.holds_tied_plain_at .later [] [.sentinel, .sentinel, .sentinel] true Rows.fnExactFormatCard.stood.harness true
    fnExactFormat.over (fun _ h => by cases h) (by kernel_rfl) (fun _ h => by cases h) fnExactFormat_row_tie rfl ⟨rfl, rfl⟩ (by kernel_rfl) rfl
    (fun f fn hf hfn => by
      obtain rfl : f = 3 := Option.some.inj ((show Tryz.prog.funcNamed "loop.example/s02544/laws.FnExactFormat" = some 3 by kernel_rfl).symm.trans hf) |>.symm
      obtain rfl : fn = Tryz.f3 := (Option.some.inj (Tryz.func3.symm.trans hfn)).symm
      exact ⟨by kernel_rfl, fun j t ht => by
        rw [Tryz.params3] at ht
        have h3 : t = 23 := by
          rcases j with _ | j
          · exact by simpa using ht.symm
          · simp at ht
        rcases h3 with rfl
        · exact (show Tryz.prog.wantsStandIn 23 = false by kernel_rfl)⟩)
    (by kernel_rfl)
#print axioms format_proved
end Go.Proofs.YtglokpakmlegbaaGreatDoor
