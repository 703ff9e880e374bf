import Derived.Test.YtaojjcnmififoaaGreatG28
import Derived.Test.YtaojjcnmififoaaGreatDecImp
import Derived.Test.YtaojjcnmififoaaGreatG08
import Derived.Test.YtaojjcnmififoaaGreatG09
import Derived.Test.YtaojjcnmififoaaGreatG19
import Derived.Test.YtaojjcnmififoaaGreatG07
import Derived.Deep.DeepCutAuto
namespace Go.Proofs.YtaojjcnmififoaaGreat
set_option maxRecDepth 100000
set_option maxHeartbeats 8000000
set_option linter.unusedVariables false
set_option linter.unusedSimpArgs false
open Go.RowKit
def jge (v : Value) (bs : List Int) (e : Ending) : Prop := (Ve bs ∧ ∃ vb off c, v = .slice (some ⟨vb, off, none⟩) bs.length c ∧ bs.length ≤ c ∧ e = .returned (.slice (some ⟨vb, off, none⟩) (RQ (bs.take 4)).toNat c)) ∨ (¬ Ve bs ∧ e = .returned (.slice none 0 0))
theorem Z0 (v : Value) (bs : List Int) (w : World) (hB : IsB bs) (hl : bs.length ≤ 1099511627776) (hv : Rd .u8 w v bs) : Calls Tryz.prog 47 #[v] w fun e w' => jge v bs e ∧ Same w w' := by
 have HV := hid hv
 obtain ⟨va, vc, rfl⟩ := hv.form
 clear hv
 by_cases tJ : bs.length < 20
 ·have D3 : (bs.length : Int) < 20 := by omega
  have uz := (show Hid (¬ Ve bs) from by unfold Hid Ve; omega)
  go_enter Tryz.func47, Tryz.ntmps47
  go_wp2
  go_ret
  exact ⟨.inr ⟨uz.out, rfl⟩, kZ0⟩
 have yy := hid (HV.out.2)
 rcases yy.out with ⟨rfl, _⟩ | ⟨vb, off, NU, pT, kx, hx⟩
 ·simp at tJ
 injection pT with ig _ hvc
 subst ig
 obtain ⟨c, rfl⟩ : ∃ x, x = vc := ⟨_, rfl⟩
 subst hvc
 have vR : bs.length ≤ maxLen := HV.out.1
 unfold maxLen at vR
 have k0 := Us (.slice (some ⟨vb, off, none⟩) 4 c) (bs.take 4) w (hB.tk 4) (by simp; omega) (Rd.part hx 0 4 (by omega) rfl (by omega) (by unfold maxLen; omega))
 clear hx yy
 obtain ⟨sz, gE⟩ : ∃ x, RQ (bs.take 4) = x := ⟨_, rfl⟩
 rw [gE] at k0
 have Ak := hid gE
 have B9 := (show Hid (Ve bs ↔ (33 ≤ sz ∧ sz ≤ 4131 ∧ sz ≤ bs.length)) from by unfold Hid Ve; rw [gE]; omega)
 clear gE
 by_cases hq : 33 ≤ sz ∧ sz ≤ 4131 ∧ sz ≤ bs.length
 ·have uz := (show Hid (Ve bs) from B9.out.2 hq)
  obtain ⟨s, rfl⟩ : ∃ s : Nat, sz = (s : Int) := ⟨sz.toNat, by omega⟩
  have s1 : ¬ (s : Int) < 33 := by omega
  have s2 : ¬ (4131 : Int) < (s : Int) := by omega
  have s3 : ¬ (bs.length : Int) < (s : Int) := by omega
  have wA : s ≤ c := by omega
  clear hq B9
  go_enter Tryz.func47, Tryz.ntmps47
  go_wp2_with fail
  refine k0.mono ?_
  rintro e w1 ⟨rfl, aH⟩
  have aM := (show Hid (Same w w1) from aH)
  clear aH k0
  go_wp2
  go_ret
  exact ⟨.inl ⟨uz.out, vb, off, c, rfl, kx, by rw [Ak.out, Int.toNat_natCast]; rfl⟩, aM.out⟩
 ·have uz := (show Hid (¬ Ve bs) from fun h => hq (B9.out.1 h))
  go_enter Tryz.func47, Tryz.ntmps47
  go_wp2_with fail
  refine k0.mono ?_
  rintro e w1 ⟨rfl, aH⟩
  have aM := (show Hid (Same w w1) from aH)
  clear aH k0
  by_cases s1 : sz < 33
  ·go_wp2
   go_ret
   exact ⟨.inr ⟨uz.out, rfl⟩, aM.out⟩
  by_cases s2 : 4131 < sz
  ·go_wp2
   go_ret
   exact ⟨.inr ⟨uz.out, rfl⟩, aM.out⟩
  have s3 : (bs.length : Int) < sz := by omega
  go_wp2
  go_ret
  exact ⟨.inr ⟨uz.out, rfl⟩, aM.out⟩
theorem jbA (v : Value) (bs : List Int) (lsn least most : Int) (w : World) (hB : IsB bs) (CV : IsI lsn) (hl : bs.length ≤ 1099511627776) (hv : Rd .u8 w v bs) : Calls Tryz.prog 26 #[v, .int .i64 lsn, .int .i64 least, .int .i64 most] w fun e w' => ∃ y : StFrameResult, e = .returned y.val ∧ y.dat = RP bs lsn least most ∧ (∀ b, Rf y.rows b → w.heap.size ≤ b) ∧ OwnL w' y.rows ∧ Same w w' := by
 have aJ := (show Hid (Same w (w.alloc (.cells #[.int .i64 0, .int .i64 0, .int .i64 0, .int .i64 0, .int .i64 0, .int .i64 0, .int .i64 0, .int .i64 0, .bool false, .slice none 0 0, .bool false, .slice none 0 0, .int .i64 0, .int .i64 0, .slice none 0 0, .slice none 0 0, .slice none 0 0] 52))) from kZ0.alloc _)
 have eo := (show Hid (Blk (w.alloc (.cells #[.int .i64 0, .int .i64 0, .int .i64 0, .int .i64 0, .int .i64 0, .int .i64 0, .int .i64 0, .int .i64 0, .bool false, .slice none 0 0, .bool false, .slice none 0 0, .int .i64 0, .int .i64 0, .slice none 0 0, .slice none 0 0, .slice none 0 0] 52)) w.heap.size 52 [.int .i64 0, .int .i64 0, .int .i64 0, .int .i64 0, .int .i64 0, .int .i64 0, .int .i64 0, .int .i64 0, .bool false, .slice none 0 0, .bool false, .slice none 0 0, .int .i64 0, .int .i64 0, .slice none 0 0, .slice none 0 0, .slice none 0 0]) from Blk.newL w [.int .i64 0, .int .i64 0, .int .i64 0, .int .i64 0, .int .i64 0, .int .i64 0, .int .i64 0, .int .i64 0, .bool false, .slice none 0 0, .bool false, .slice none 0 0, .int .i64 0, .int .i64 0, .slice none 0 0, .slice none 0 0, .slice none 0 0] 52)
 have HV := hid hv
 obtain ⟨va, vc, rfl⟩ := hv.form
 clear hv
 go_enter Tryz.func26, Tryz.ntmps26
 go_upto_region 1 with fail
 generalize w.alloc (.cells #[.int .i64 0, .int .i64 0, .int .i64 0, .int .i64 0, .int .i64 0, .int .i64 0, .int .i64 0, .int .i64 0, .bool false, .slice none 0 0, .bool false, .slice none 0 0, .int .i64 0, .int .i64 0, .slice none 0 0, .slice none 0 0, .slice none 0 0] 52) = w0 at aJ eo ⊢
 obtain ⟨Z, hZ⟩ : ∃ Z, w.heap.size = Z := ⟨_, rfl⟩
 rw [hZ] at eo ⊢
 have iY := hid hZ
 have vt := (show Hid (Same w0 w0) from kZ0)
 have O3 := aJ.out.size
 have Ky := eo.out.lt
 clear hZ
 go_wp2_with fail
 refine (Z0 _ bs _ hB hl (HV.out.same aJ.out)).mono ?_
 rintro e w1 ⟨N6, aH⟩
 have aM := (show Hid (Same w0 w1) from aH)
 clear aH
 rcases N6 with ⟨mK, vb, off, c, pT, kx, rfl⟩ | ⟨mK, rfl⟩
 ·skip
  injection pT with ig _ hvc
  subst ig
  have DW : c = vc := hvc.symm
  subst DW
  have zJ := mK
  unfold Ve at zJ
  obtain ⟨tJ, o1, o2, o3⟩ := zJ
  obtain ⟨s, hs⟩ : ∃ s : Nat, RQ (bs.take 4) = (s : Int) := ⟨(RQ (bs.take 4)).toNat, by omega⟩
  have qF := (show Hid (RP bs lsn least most = WJ bs s lsn least most) from by unfold Hid RP; rw [if_pos mK, hs, Int.toNat_natCast])
  rw [hs] at o1 o2 o3 ⊢
  rw [Int.toNat_natCast]
  have lv : 33 ≤ s := by omega
  have vI : s ≤ 4131 := by omega
  have G8 : s ≤ bs.length := by omega
  have vR : bs.length ≤ maxLen := HV.out.1
  unfold maxLen at vR
  clear mK hs o1 o2 o3 tJ
  have HC := (show Hid (∀ wx, Same w wx → ∀ i, i < bs.length → wx.cell? ⟨vb, off + i, none⟩ = some (.int .u8 (bs.getD i 0))) from fun wx hk => by
   rcases (HV.out.same hk).2 with ⟨h0, _⟩ | ⟨b', kK, c', he, _, hc⟩
   ·exfalso; rw [h0] at G8; simp at G8; omega
   ·injection he with h1 _ _
    injection h1 with h1
    injection h1 with h1 h2
    subst h1 h2
    exact hc)
  have C5 : ((s : Int) == 0) = false := by simp; omega
  have wA : s ≤ c := by omega
  have Pl : (8 : Int) ≤ (s : Int) := by omega
  have Gx : (20 : Int) ≤ (s : Int) := by omega
  have Pu : 8 ≤ s := by omega
  have Nh : 16 ≤ s := by omega
  have Lh : 20 ≤ s := by omega
  have e4 : ¬ c = 4 := by omega
  have e8 : ¬ c = 8 := by omega
  have OQ : ¬ c = 16 := by omega
  have Ou : ¬ c = 20 := by omega
  have HP := (show Hid (∀ wx, Same w0 wx → ∀ lo m, lo + m ≤ bs.length → Rd .u8 wx (.slice (some ⟨vb, off + lo, none⟩) m (c - lo)) ((bs.drop lo).take m)) from fun wx hk lo m h => Rd.part (HC.out wx (aJ.out.trans hk)) lo m h rfl (by omega) (by unfold maxLen; omega))
  have yU := Us _ ((bs.drop 16).take 4) w1 ((hB.dropI 16).tk 4) (by simp; omega) (HP.out _ aM.out 16 4 (by omega))
  go_wp2_with fail
  refine yU.mono ?_
  rintro e w2 ⟨rfl, aN⟩
  have aY := hid (aM.out.trans aN)
  obtain ⟨ep, uD⟩ : ∃ x, RQ ((bs.drop 16).take 4) = x := ⟨_, rfl⟩
  rw [uD]
  have uT := hid uD
  clear uD aN yU aM
  go_upto_region 5 with fail
  obtain ⟨g4, t8⟩ : ∃ x, RQ ((bs.drop 4).take 4) = x := ⟨_, rfl⟩
  obtain ⟨cr, nh⟩ : ∃ x, Tv 0 ((bs.drop 8).take (s - 8)) = x := ⟨_, rfl⟩
  have ng := hid t8
  have ny := hid nh
  have M9 := (show Hid (∀ wx, Same w0 wx → _) from fun wx (hk : Same w0 wx) => t8 ▸ Us _ ((bs.drop 4).take 4) wx ((hB.dropI 4).tk 4) (by simp; omega) (HP.out wx hk 4 4 (by omega)))
  have ND := (show Hid (∀ wx, Same w0 wx → _) from fun wx (hk : Same w0 wx) => nh ▸ jaJ _ ((bs.drop 8).take (s - 8)) wx ((hB.dropI 8).tk _) (by simp; omega) (HP.out wx hk 8 (s - 8) (by omega)))
  clear t8 nh
  go_cut [21] (fun v wx => v = .bool (g4 != cr) ∧ Hid (Same w0 wx))
  case first =>
   have hS : (fun wx : World => Same w0 wx) w2.drew := aY.out.next ((Kept.refl (fun _ => False) w2).drew) (fun _ _ e => e.elim)
   refine Q9 (fun wx : World => Same w0 wx) 99 8 rfl (by kernel_rfl) ?_
   refine tk 0 22 hS ?_
   refine tkV 1 23 (.slice (some ⟨vb, off + 4, none⟩) 4 (c - 4)) hS ?_
   refine tk 3 25 hS ?_
   refine tkV 4 26 (.slice (some ⟨vb, off + 8, none⟩) (s - 8) (c - 8)) hS ?_
   refine o1Q 2 (fun Kc hK => ?_)
   go_simp
   refine (M9.out _ hS).mono ?_
   rintro e w3 ⟨rfl, aN⟩
   have hS : (fun wx : World => Same w0 wx) w3 := Kept.trans hS aN
   refine hK.out _ _ (fun _ => hS) ?_
   clear hK Kc
   try simp only [Act.put, sA, s0, sS]
   refine o1Q 5 (fun Kc hK => ?_)
   go_simp
   refine (ND.out _ hS).mono ?_
   rintro e w4 ⟨rfl, fq⟩
   have hS : (fun wx : World => Same w0 wx) w4 := Kept.trans hS fq
   refine hK.out _ _ (fun _ => hS) ?_
   clear hK Kc
   try simp only [Act.put, sA, s0, sS]
   refine tk 6 28 hS ?_
   refine tk 7 21 hS ?_
   refine Q8 (by kernel_rfl) ?_
   try simp only [Act.put, sA, s0, sS]
   go_wp2
   go_meet
   case rel => exact ⟨rfl, hS⟩
  case rest =>
   obtain ⟨hu, cu⟩ := hcut
   by_cases fW : g4 = cr
   ·have lQ : (g4 != cr) = false := by simp [fW]
    have nk : _ = Value.bool false := hu.trans (by rw [lQ])
    clear hu lQ
    subst nk
    have ob := hid fW
    clear fW
    go_upto_region 7 with fail
    obtain ⟨eq, heq⟩ : ∃ x, decide ((bs.drop 8).take 8 = Q6 lsn 8) = x := ⟨_, rfl⟩
    have KV := (show Hid (eq = decide (¬ (RQ ((bs.drop 8).take 8) ≠ lsn ∨ lsn < 0))) from by unfold Hid; rw [← heq]; exact decide_eq_decide.2 (jcX ((hB.dropI 8).tk 8) (take_len (by omega)) CV))
    have NI := (show Hid (∀ (PV : Value) (wx : World), Same w0 wx → Rd .u8 wx PV (Q6 lsn 8) → _) from fun PV wx (hk : Same w0 wx) hr => heq ▸ XA _ PV ((bs.drop 8).take 8) (Q6 lsn 8) wx ((hB.dropI 8).tk 8) (R9 _ _) (HP.out wx hk 8 8 (by omega)) hr)
    clear heq
    go_cut [30] (fun v wx => v = .bool (!eq) ∧ Hid (Same w0 wx))
    case first =>
     have hS : (fun wx : World => Same w0 wx) wc.drew := cu.out.next ((Kept.refl (fun _ => False) wc).drew) (fun _ _ e => e.elim)
     refine Q9 (fun wx : World => Same w0 wx) 99 7 rfl (by kernel_rfl) ?_
     refine tk 0 31 hS ?_
     refine tkV 1 32 (.slice (some ⟨vb, off + 8, none⟩) 8 (c - 8)) hS ?_
     refine tk 2 33 hS ?_
     refine o1Q 3 (fun Kc hK => ?_)
     go_simp
     refine (SB lsn 8 _ CV (by unfold IsI; omega)).mono ?_
     rintro e w5 ⟨pa, pc, rfl, EQ, J0, aN⟩
     have hS : (fun wx : World => Same w0 wx) w5 := Kept.trans hS aN
     have JZ := hid J0
     generalize Value.slice pa (Q6 lsn 8).length pc = PV at JZ ⊢
     refine hK.out _ _ (fun _ => hS) ?_
     clear hK Kc EQ J0
     try simp only [Act.put, sA, s0, sS]
     refine o1Q 4 (fun Kc hK => ?_)
     go_simp
     refine (NI.out PV _ hS JZ.out.rd).mono ?_
     rintro e w6 ⟨rfl, fq⟩
     have hS : (fun wx : World => Same w0 wx) w6 := Kept.trans hS fq
     refine hK.out _ _ (fun _ => hS) ?_
     clear hK Kc
     try simp only [Act.put, sA, s0, sS]
     refine tk 5 36 hS ?_
     refine tk 6 30 hS ?_
     refine Q8 (by kernel_rfl) ?_
     try simp only [Act.put, sA, s0, sS]
     go_wp2
     go_meet
     case rel => exact ⟨rfl, hS⟩
    case rest =>
     obtain ⟨hu, eh⟩ := hcut
     by_cases hq8 : RQ ((bs.drop 8).take 8) ≠ lsn ∨ lsn < 0
     ·obtain rfl : eq = false := by rw [KV.out]; exact decide_eq_false (fun h => h hq8)
      have nk : _ = Value.bool true := hu.trans rfl
      clear hu
      subst nk
      have rK := hid hq8
      clear hq8
      have iV := hid ((eo.out.same eh.out).there 0 17 (by decide))
      have eG := (show Hid (Blk (wc.setCells Z 0 (cZ 3)) Z 52 (cZ 3)) from TG (eo.out.same eh.out) (cZ 3) rfl)
      have dQ := (show Hid (Same w (wc.setCells Z 0 (cZ 3))) from Kept.setCells (.inl (Nat.le_of_eq iY.out)) _ _ (aJ.out.trans eh.out))
      have eJ := (show Hid (RP bs lsn least most = S9 3) from by unfold Hid; rw [qF.out]; unfold WJ; rw [if_neg (by rw [ng.out, ny.out, ob.out]; simp), if_pos rK.out])
      go_upto_region 8 with fail
      refine Vf 37 52 _ _ Z (cZ 3).toArray rfl rfl rfl rfl rfl rfl (fun wx => by kernel_rfl) rfl rfl iV.out infoFr (by simp [cZ, Value.oneCell']) ?_
      generalize wc.setCells Z 0 (cZ 3).toArray.toList = W9 at eG dQ ⊢
      go_wp2
      refine bodyPost_ret (v := .agg (cZ 3).toArray) ?_ rfl ?_
      ·exact VU Tryz.results26 rfl eG.out.rangeAll Tryz.underlying52 rfl infoFr
      ·exact ⟨⟨3, 0, 0, recZ⟩, rfl, eJ.out.symm, fun b hb => (Sr hb).elim, SS _, dQ.out⟩
     obtain rfl : eq = true := by rw [KV.out]; exact decide_eq_true hq8
     have nk : _ = Value.bool false := hu.trans rfl
     clear hu
     subst nk
     have rK := hid hq8
     clear hq8
     by_cases hq16 : ep < least ∨ most < ep
     ·have l7 := hid hq16
      have lf := (show Hid (RP bs lsn least most = S9 4) from by unfold Hid; rw [qF.out]; unfold WJ; rw [if_neg (by rw [ng.out, ny.out, ob.out]; simp), if_neg rK.out, if_pos (by rw [uT.out]; exact l7.out)])
      by_cases q3 : ep < least
      ·clear hq16
       have iV := hid ((eo.out.same eh.out).there 0 17 (by decide))
       have eG := (show Hid (Blk (wc.setCells Z 0 (cZ 4)) Z 52 (cZ 4)) from TG (eo.out.same eh.out) (cZ 4) rfl)
       have dQ := (show Hid (Same w (wc.setCells Z 0 (cZ 4))) from Kept.setCells (.inl (Nat.le_of_eq iY.out)) _ _ (aJ.out.trans eh.out))
       have eJ := (show Hid (RP bs lsn least most = S9 4) from by exact lf.out)
       go_upto_region 10 with fail
       refine Vf 47 52 _ _ Z (cZ 4).toArray rfl rfl rfl rfl rfl rfl (fun wx => by kernel_rfl) rfl rfl iV.out infoFr (by simp [cZ, Value.oneCell']) ?_
       generalize wc.setCells Z 0 (cZ 4).toArray.toList = W9 at eG dQ ⊢
       go_wp2
       refine bodyPost_ret (v := .agg (cZ 4).toArray) ?_ rfl ?_
       ·exact VU Tryz.results26 rfl eG.out.rangeAll Tryz.underlying52 rfl infoFr
       ·exact ⟨⟨4, 0, 0, recZ⟩, rfl, eJ.out.symm, fun b hb => (Sr hb).elim, SS _, dQ.out⟩
      ·have q4 : most < ep := by omega
       clear hq16
       have iV := hid ((eo.out.same eh.out).there 0 17 (by decide))
       have eG := (show Hid (Blk (wc.setCells Z 0 (cZ 4)) Z 52 (cZ 4)) from TG (eo.out.same eh.out) (cZ 4) rfl)
       have dQ := (show Hid (Same w (wc.setCells Z 0 (cZ 4))) from Kept.setCells (.inl (Nat.le_of_eq iY.out)) _ _ (aJ.out.trans eh.out))
       have eJ := (show Hid (RP bs lsn least most = S9 4) from by exact lf.out)
       go_upto_region 10 with fail
       refine Vf 47 52 _ _ Z (cZ 4).toArray rfl rfl rfl rfl rfl rfl (fun wx => by kernel_rfl) rfl rfl iV.out infoFr (by simp [cZ, Value.oneCell']) ?_
       generalize wc.setCells Z 0 (cZ 4).toArray.toList = W9 at eG dQ ⊢
       go_wp2
       refine bodyPost_ret (v := .agg (cZ 4).toArray) ?_ rfl ?_
       ·exact VU Tryz.results26 rfl eG.out.rangeAll Tryz.underlying52 rfl infoFr
       ·exact ⟨⟨4, 0, 0, recZ⟩, rfl, eJ.out.symm, fun b hb => (Sr hb).elim, SS _, dQ.out⟩
     have l7 := hid hq16
     have q3 : ¬ ep < least := by omega
     have q4 : ¬ most < ep := by omega
     have xb := jax (.slice (some ⟨vb, off + 20, none⟩) (s - 20) (c - 20)) ((bs.drop 20).take (s - 20)) wc ((hB.dropI 20).tk _) (by simp; omega) (HP.out _ eh.out 20 (s - 20) (by omega))
     clear hq16
     go_wp2_with fail
     refine xb.mono ?_
     rintro e w8 ⟨⟨g, z⟩, rfl, hd, hf, ho, fN⟩
     have gx := hid (eh.out.trans fN)
     have HD := (show Hid ((g, z.dat) = VG ((bs.drop 20).take (s - 20))) from hd)
     have HF := (show Hid (∀ b, Rf z.rows b → wc.heap.size ≤ b) from hf)
     have HO := (show Hid (OwnL w8 z.rows) from ho)
     have KP := eh.out.size
     have E4 := gx.out.size
     have kp := (show Hid (RP bs lsn least most = if g = true then (0, (s : Int), ep, z.dat) else S9 5) from by unfold Hid; rw [qF.out]; unfold WJ; rw [if_neg (by rw [ng.out, ny.out, ob.out]; simp), if_neg rK.out, if_neg (by rw [uT.out]; exact l7.out), ← HD.out, uT.out])
     dsimp only [StRecordResult.val, BS.v, FR.v]
     have HX := (show Hid (Blk (w8.alloc (.cells #[.bool g, .int .i64 z.kind, .int .i64 z.txn, .int .i64 z.prev, .int .i64 z.page, .int .i64 z.slot, .bool z.before.used, .slice z.before.data.a z.before.data.bs.length z.before.data.c, .bool z.after.used, .slice z.after.data.a z.after.data.bs.length z.after.data.c, .int .i64 z.uN, .int .i64 z.nT, .slice z.txns.a z.txns.n z.txns.c, .slice z.dirty.a z.dirty.n z.dirty.c, .slice z.image.a z.image.bs.length z.image.c] 79)) w8.heap.size 79 [.bool g, .int .i64 z.kind, .int .i64 z.txn, .int .i64 z.prev, .int .i64 z.page, .int .i64 z.slot, .bool z.before.used, .slice z.before.data.a z.before.data.bs.length z.before.data.c, .bool z.after.used, .slice z.after.data.a z.after.data.bs.length z.after.data.c, .int .i64 z.uN, .int .i64 z.nT, .slice z.txns.a z.txns.n z.txns.c, .slice z.dirty.a z.dirty.n z.dirty.c, .slice z.image.a z.image.bs.length z.image.c]) from Blk.newL w8 [.bool g, .int .i64 z.kind, .int .i64 z.txn, .int .i64 z.prev, .int .i64 z.page, .int .i64 z.slot, .bool z.before.used, .slice z.before.data.a z.before.data.bs.length z.before.data.c, .bool z.after.used, .slice z.after.data.a z.after.data.bs.length z.after.data.c, .int .i64 z.uN, .int .i64 z.nT, .slice z.txns.a z.txns.n z.txns.c, .slice z.dirty.a z.dirty.n z.dirty.c, .slice z.image.a z.image.bs.length z.image.c] 79)
     have dd := (show Hid (Same w0 (w8.alloc (.cells #[.bool g, .int .i64 z.kind, .int .i64 z.txn, .int .i64 z.prev, .int .i64 z.page, .int .i64 z.slot, .bool z.before.used, .slice z.before.data.a z.before.data.bs.length z.before.data.c, .bool z.after.used, .slice z.after.data.a z.after.data.bs.length z.after.data.c, .int .i64 z.uN, .int .i64 z.nT, .slice z.txns.a z.txns.n z.txns.c, .slice z.dirty.a z.dirty.n z.dirty.c, .slice z.image.a z.image.bs.length z.image.c] 79))) from gx.out.alloc _)
     have lu := hid (HO.out.same (kZ0.alloc (.cells #[.bool g, .int .i64 z.kind, .int .i64 z.txn, .int .i64 z.prev, .int .i64 z.page, .int .i64 z.slot, .bool z.before.used, .slice z.before.data.a z.before.data.bs.length z.before.data.c, .bool z.after.used, .slice z.after.data.a z.after.data.bs.length z.after.data.c, .int .i64 z.uN, .int .i64 z.nT, .slice z.txns.a z.txns.n z.txns.c, .slice z.dirty.a z.dirty.n z.dirty.c, .slice z.image.a z.image.bs.length z.image.c] 79)))
     clear hd hf ho fN xb HO gx
     go_upto_region 12 with fail
     generalize w8.alloc (.cells #[.bool g, .int .i64 z.kind, .int .i64 z.txn, .int .i64 z.prev, .int .i64 z.page, .int .i64 z.slot, .bool z.before.used, .slice z.before.data.a z.before.data.bs.length z.before.data.c, .bool z.after.used, .slice z.after.data.a z.after.data.bs.length z.after.data.c, .int .i64 z.uN, .int .i64 z.nT, .slice z.txns.a z.txns.n z.txns.c, .slice z.dirty.a z.dirty.n z.dirty.c, .slice z.image.a z.image.bs.length z.image.c] 79) = w7 at HX dd lu ⊢
     obtain ⟨X, hX⟩ : ∃ X, w8.heap.size = X := ⟨_, rfl⟩
     rw [hX] at HX E4 ⊢
     clear hX
     cases g with
     | false =>
      obtain ⟨x0, x1, x2, x3, x4, x5, x6, x7, x8, x9, Dg, E5, EY, Fi, Ce⟩ := HX.out.all15
      have pf := (show Hid (RP bs lsn least most = S9 5) from by unfold Hid; rw [kp.out]; rfl)
      have iV := hid ((eo.out.same dd.out).there 0 17 (by decide))
      have eG := (show Hid (Blk (w7.setCells Z 0 (cZ 5)) Z 52 (cZ 5)) from TG (eo.out.same dd.out) (cZ 5) rfl)
      have dQ := (show Hid (Same w (w7.setCells Z 0 (cZ 5))) from Kept.setCells (.inl (Nat.le_of_eq iY.out)) _ _ (aJ.out.trans dd.out))
      have eJ := (show Hid (RP bs lsn least most = S9 5) from by exact pf.out)
      go_upto_region 13 with fail
      refine Vf 54 52 _ _ Z (cZ 5).toArray rfl rfl rfl rfl rfl rfl (fun wx => by kernel_rfl) rfl rfl iV.out infoFr (by simp [cZ, Value.oneCell']) ?_
      generalize w7.setCells Z 0 (cZ 5).toArray.toList = W9 at eG dQ ⊢
      go_wp2
      refine bodyPost_ret (v := .agg (cZ 5).toArray) ?_ rfl ?_
      ·exact VU Tryz.results26 rfl eG.out.rangeAll Tryz.underlying52 rfl infoFr
      ·exact ⟨⟨5, 0, 0, recZ⟩, rfl, eJ.out.symm, fun b hb => (Sr hb).elim, SS _, dQ.out⟩
     | true =>
      obtain ⟨x0, x1, x2, x3, x4, x5, x6, x7, x8, x9, Dg, E5, EY, Fi, Ce⟩ := HX.out.all15
      have BE := HX.out.lt
      have pb := (show Hid (RP bs lsn least most = (0, (s : Int), ep, z.dat)) from by unfold Hid; rw [kp.out]; rfl)
      obtain ⟨z0, z1, z2, z3, z4, z5, z6, z7, z8, z9, ip, iw, ir, gY, iU, Bz, JE⟩ := (eo.out.same dd.out).all17
      have fz := (eo.out.same dd.out).frozen
      have ru := (eo.out.same dd.out).lt
      obtain ⟨W9, mN⟩ : ∃ x, (((((((((((((((((w7.setCell ⟨Z, 0, none⟩ (.int .i64 0)).setCell ⟨Z, 1, none⟩ (.int .i64 (s : Int))).setCell ⟨Z, 2, none⟩ (.int .i64 ep)).setCell ⟨Z, 3, none⟩ (.int .i64 z.kind)).setCell ⟨Z, 4, none⟩ (.int .i64 z.txn)).setCell ⟨Z, 5, none⟩ (.int .i64 z.prev)).setCell ⟨Z, 6, none⟩ (.int .i64 z.page)).setCell ⟨Z, 7, none⟩ (.int .i64 z.slot)).setCell ⟨Z, 8, none⟩ (.bool z.before.used)).setCell ⟨Z, 9, none⟩ (.slice z.before.data.a z.before.data.bs.length z.before.data.c)).setCell ⟨Z, 10, none⟩ (.bool z.after.used)).setCell ⟨Z, 11, none⟩ (.slice z.after.data.a z.after.data.bs.length z.after.data.c)).setCell ⟨Z, 12, none⟩ (.int .i64 z.uN)).setCell ⟨Z, 13, none⟩ (.int .i64 z.nT)).setCell ⟨Z, 14, none⟩ (.slice z.txns.a z.txns.n z.txns.c)).setCell ⟨Z, 15, none⟩ (.slice z.dirty.a z.dirty.n z.dirty.c)).setCell ⟨Z, 16, none⟩ (.slice z.image.a z.image.bs.length z.image.c)) = x := ⟨_, rfl⟩
      have eG := (show Hid (Blk W9 Z 52 [.int .i64 0, .int .i64 (s : Int), .int .i64 ep, .int .i64 z.kind, .int .i64 z.txn, .int .i64 z.prev, .int .i64 z.page, .int .i64 z.slot, .bool z.before.used, .slice z.before.data.a z.before.data.bs.length z.before.data.c, .bool z.after.used, .slice z.after.data.a z.after.data.bs.length z.after.data.c, .int .i64 z.uN, .int .i64 z.nT, .slice z.txns.a z.txns.n z.txns.c, .slice z.dirty.a z.dirty.n z.dirty.c, .slice z.image.a z.image.bs.length z.image.c]) from mN ▸ (show Blk (((((((((((((((((w7.setCell ⟨Z, 0, none⟩ (.int .i64 0)).setCell ⟨Z, 1, none⟩ (.int .i64 (s : Int))).setCell ⟨Z, 2, none⟩ (.int .i64 ep)).setCell ⟨Z, 3, none⟩ (.int .i64 z.kind)).setCell ⟨Z, 4, none⟩ (.int .i64 z.txn)).setCell ⟨Z, 5, none⟩ (.int .i64 z.prev)).setCell ⟨Z, 6, none⟩ (.int .i64 z.page)).setCell ⟨Z, 7, none⟩ (.int .i64 z.slot)).setCell ⟨Z, 8, none⟩ (.bool z.before.used)).setCell ⟨Z, 9, none⟩ (.slice z.before.data.a z.before.data.bs.length z.before.data.c)).setCell ⟨Z, 10, none⟩ (.bool z.after.used)).setCell ⟨Z, 11, none⟩ (.slice z.after.data.a z.after.data.bs.length z.after.data.c)).setCell ⟨Z, 12, none⟩ (.int .i64 z.uN)).setCell ⟨Z, 13, none⟩ (.int .i64 z.nT)).setCell ⟨Z, 14, none⟩ (.slice z.txns.a z.txns.n z.txns.c)).setCell ⟨Z, 15, none⟩ (.slice z.dirty.a z.dirty.n z.dirty.c)).setCell ⟨Z, 16, none⟩ (.slice z.image.a z.image.bs.length z.image.c)) Z 52 [.int .i64 0, .int .i64 (s : Int), .int .i64 ep, .int .i64 z.kind, .int .i64 z.txn, .int .i64 z.prev, .int .i64 z.page, .int .i64 z.slot, .bool z.before.used, .slice z.before.data.a z.before.data.bs.length z.before.data.c, .bool z.after.used, .slice z.after.data.a z.after.data.bs.length z.after.data.c, .int .i64 z.uN, .int .i64 z.nT, .slice z.txns.a z.txns.n z.txns.c, .slice z.dirty.a z.dirty.n z.dirty.c, .slice z.image.a z.image.bs.length z.image.c] from ((((((((((((((((((eo.out.same dd.out).stored 0 _).stored 1 _).stored 2 _).stored 3 _).stored 4 _).stored 5 _).stored 6 _).stored 7 _).stored 8 _).stored 9 _).stored 10 _).stored 11 _).stored 12 _).stored 13 _).stored 14 _).stored 15 _).stored 16 _)))
      have dQ := (show Hid (Same w W9) from mN ▸ jdS (aJ.out.trans dd.out) (Nat.le_of_eq iY.out) (.int .i64 0) (.int .i64 (s : Int)) (.int .i64 ep) (.int .i64 z.kind) (.int .i64 z.txn) (.int .i64 z.prev) (.int .i64 z.page) (.int .i64 z.slot) (.bool z.before.used) (.slice z.before.data.a z.before.data.bs.length z.before.data.c) (.bool z.after.used) (.slice z.after.data.a z.after.data.bs.length z.after.data.c) (.int .i64 z.uN) (.int .i64 z.nT) (.slice z.txns.a z.txns.n z.txns.c) (.slice z.dirty.a z.dirty.n z.dirty.c) (.slice z.image.a z.image.bs.length z.image.c))
      have vZ := hid mN
      clear mN
      have j9 := (show Hid (OwnL W9 z.rows) from lu.out.kept (R := fun b => b = Z) (vZ.out ▸ jdT _ _ (.int .i64 0) (.int .i64 (s : Int)) (.int .i64 ep) (.int .i64 z.kind) (.int .i64 z.txn) (.int .i64 z.prev) (.int .i64 z.page) (.int .i64 z.slot) (.bool z.before.used) (.slice z.before.data.a z.before.data.bs.length z.before.data.c) (.bool z.after.used) (.slice z.after.data.a z.after.data.bs.length z.after.data.c) (.int .i64 z.uN) (.int .i64 z.nT) (.slice z.txns.a z.txns.n z.txns.c) (.slice z.dirty.a z.dirty.n z.dirty.c) (.slice z.image.a z.image.bs.length z.image.c)) (fun b hb e => by have := HF.out b hb; omega))
      go_wp2
      rw [vZ.out]
      refine bodyPost_ret (v := .agg #[.int .i64 0, .int .i64 (s : Int), .int .i64 ep, .int .i64 z.kind, .int .i64 z.txn, .int .i64 z.prev, .int .i64 z.page, .int .i64 z.slot, .bool z.before.used, .slice z.before.data.a z.before.data.bs.length z.before.data.c, .bool z.after.used, .slice z.after.data.a z.after.data.bs.length z.after.data.c, .int .i64 z.uN, .int .i64 z.nT, .slice z.txns.a z.txns.n z.txns.c, .slice z.dirty.a z.dirty.n z.dirty.c, .slice z.image.a z.image.bs.length z.image.c]) ?_ rfl ?_
      ·exact VU (cs := [.int .i64 0, .int .i64 (s : Int), .int .i64 ep, .int .i64 z.kind, .int .i64 z.txn, .int .i64 z.prev, .int .i64 z.page, .int .i64 z.slot, .bool z.before.used, .slice z.before.data.a z.before.data.bs.length z.before.data.c, .bool z.after.used, .slice z.after.data.a z.after.data.bs.length z.after.data.c, .int .i64 z.uN, .int .i64 z.nT, .slice z.txns.a z.txns.n z.txns.c, .slice z.dirty.a z.dirty.n z.dirty.c, .slice z.image.a z.image.bs.length z.image.c]) Tryz.results26 rfl eG.out.rangeAll Tryz.underlying52 rfl infoFr
      ·exact ⟨⟨0, (s : Int), ep, z⟩, rfl, pb.out.symm, fun b hb => by have := HF.out b hb; have := iY.out; have := aJ.out.size; omega, j9.out, dQ.out⟩
   ·have lQ : (g4 != cr) = true := by simp [fW]
    have nk : _ = Value.bool true := hu.trans (by rw [lQ])
    clear hu lQ
    subst nk
    have ob := hid fW
    clear fW
    have iV := hid ((eo.out.same cu.out).there 0 17 (by decide))
    have eG := (show Hid (Blk (wc.setCells Z 0 (cZ 2)) Z 52 (cZ 2)) from TG (eo.out.same cu.out) (cZ 2) rfl)
    have dQ := (show Hid (Same w (wc.setCells Z 0 (cZ 2))) from Kept.setCells (.inl (Nat.le_of_eq iY.out)) _ _ (aJ.out.trans cu.out))
    have eJ := (show Hid (RP bs lsn least most = S9 2) from by unfold Hid; rw [qF.out]; unfold WJ; rw [if_pos (by rw [ng.out, ny.out]; exact ob.out)])
    go_upto_region 6 with fail
    refine Vf 29 52 _ _ Z (cZ 2).toArray rfl rfl rfl rfl rfl rfl (fun wx => by kernel_rfl) rfl rfl iV.out infoFr (by simp [cZ, Value.oneCell']) ?_
    generalize wc.setCells Z 0 (cZ 2).toArray.toList = W9 at eG dQ ⊢
    go_wp2
    refine bodyPost_ret (v := .agg (cZ 2).toArray) ?_ rfl ?_
    ·exact VU Tryz.results26 rfl eG.out.rangeAll Tryz.underlying52 rfl infoFr
    ·exact ⟨⟨2, 0, 0, recZ⟩, rfl, eJ.out.symm, fun b hb => (Sr hb).elim, SS _, dQ.out⟩
 ·have M1 := hid mK
  clear mK
  have iV := hid ((eo.out.same aM.out).there 0 17 (by decide))
  have eG := (show Hid (Blk (w1.setCells Z 0 (cZ 1)) Z 52 (cZ 1)) from TG (eo.out.same aM.out) (cZ 1) rfl)
  have dQ := (show Hid (Same w (w1.setCells Z 0 (cZ 1))) from Kept.setCells (.inl (Nat.le_of_eq iY.out)) _ _ (aJ.out.trans aM.out))
  have eJ := (show Hid (RP bs lsn least most = S9 1) from by unfold Hid RP; rw [if_neg M1.out])
  go_upto_region 3 with fail
  refine Vf 17 52 _ _ Z (cZ 1).toArray rfl rfl rfl rfl rfl rfl (fun wx => by kernel_rfl) rfl rfl iV.out infoFr (by simp [cZ, Value.oneCell']) ?_
  generalize w1.setCells Z 0 (cZ 1).toArray.toList = W9 at eG dQ ⊢
  go_wp2
  refine bodyPost_ret (v := .agg (cZ 1).toArray) ?_ rfl ?_
  ·exact VU Tryz.results26 rfl eG.out.rangeAll Tryz.underlying52 rfl infoFr
  ·exact ⟨⟨1, 0, 0, recZ⟩, rfl, eJ.out.symm, fun b hb => (Sr hb).elim, SS _, dQ.out⟩
end Go.Proofs.YtaojjcnmififoaaGreat
