import Derived.Test.YtapdfgkbhaoelaaGreatDoorG45
namespace Go.Proofs.YtapdfgkbhaoelaaGreatDoor
set_option maxRecDepth 100000
set_option maxHeartbeats 8000000
set_option linter.unusedVariables false
set_option linter.unusedSimpArgs false
open Go.RowKit
structure Errs5 (w : World) (a0 a1 a2 a3 a4 : Addr) : Prop where
 errs : Errs w a0 a1 a2
 c3 : w.cell? ⟨3, 0, none⟩ = some (.iface 188 (.pointer (some a3)))
 c4 : w.cell? ⟨4, 0, none⟩ = some (.iface 188 (.pointer (some a4)))
theorem Errs5.same {w w' : World} {a0 a1 a2 a3 a4 : Addr} (h : Errs5 w a0 a1 a2 a3 a4) (hk : Same w w') : Errs5 w' a0 a1 a2 a3 a4 := ⟨h.errs.same hk, hk.cellOf h.c3 id, hk.cellOf h.c4 id⟩
theorem jbg {w : World} {p : Addr} {v : Value} (h : w.cell? p = some v) : p.block < w.heap.size := World.block_lt_of_cell? _ _ h
theorem jaX (w : World) (ad : Option Addr) (c : Nat) : (Instr.arrayAt 88 (.slice ad 512 c)).run Tryz.prog w = .ok (.pointer ad) w := by
 simp [Instr.arrayAt, run_underlying Tryz.underlying88]
theorem YZ (w : World) (xs ys : List Int) (hx : xs.length = 512) (hy : ys.length = 512) : (binOp .neq 88 (.agg (vals .u8 xs).toArray) (.agg (vals .u8 ys).toArray)).run Tryz.prog w = .ok (.bool (xs != ys)) w := by
 rw [run_neq_struct, Tg w 9998 88 5 512 Tryz.underlying88 Tryz.underlying5 X0 xs ys hx hy];rfl
def jfD (bs : List Int) (v : Value) : Prop :=
 (Tz bs = true ∧ v = .tuple #[.agg #[Q1 (mS bs), Q1 (mE bs), Q1 (mC bs), Q1 (mL bs)], .nilIface]) ∨ (Tz bs = false ∧ ∃ a : Addr, v = .tuple #[.agg #[Q1 0, Q1 0, Q1 0, Q1 0], .iface 188 (.pointer (some a))])
theorem jbh {w : World} {b off c : Nat} {bs : List Int} (hB : IsB bs) (hl : bs.length = 512) (hv : Rd .u8 w (.slice (some ⟨b, off, none⟩) bs.length c) bs) (x y : Nat) (oP : x + y ≤ 512) (hc : c ≠ x) (wx : World) (hk : Same w wx) :
  Calls Tryz.prog 56 #[.slice (some ⟨b, off + x, none⟩) y (c - x)] wx fun e w' => e = .returned (Q1 (Ps (takeB bs x y))) ∧ Same wx w' := by
 have h := hv.cut x y (by omega);rw [if_neg hc] at h;have h2 := Rw _ _ wx (Qz (Rp hB x) y) (by simp; omega) (h.same hk);rw [jcL bs x y (by omega)];exact h2
theorem jb6 {bs : List Int} (h : bs.length ≠ 512) : Tz bs = false := by
 unfold Tz;simp only [Bool.and_eq_false_iff, decide_eq_false_iff_not]
 by_cases hf : mF (mS bs) (mE bs) (mC bs) (mL bs) = 0
 ·refine .inr fun he => h ?_
  rw [← he, U9 hf, QF]
 ·exact .inl hf
structure RdS (w wx : World) : Prop where
 res : Blk wx w.heap.size 40 [Q1 0, Q1 0, Q1 0, Q1 0]
 same : Same w wx
theorem RdS.on {w wx wy : World} (h : RdS w wx) (hk : Same wx wy) : RdS w wy := ⟨h.res.same hk, h.same.trans hk⟩
theorem Xk (v : Value) (bs : List Int) (a0 a1 a2 a3 a4 : Addr) (w : World) (hE : Errs5 w a0 a1 a2 a3 a4) (hB : IsB bs) (hv : Rd .u8 w v bs) :
  Calls Tryz.prog 48 #[v] w fun ex w' => (∃ u, ex = .returned u ∧ jfD bs u) ∧ Same w w' := by
 have HE : Hid (Errs5 w a0 a1 a2 a3 a4) := hE;have BK := jbg hE.c3;have zv := jbg hE.c4;dsimp only at BK zv;clear hE;obtain ⟨a, c, rfl⟩ := hv.form;have hm := hv.1;unfold maxLen at hm;have HV : Hid (Rd .u8 w (.slice a bs.length c) bs) := hv;clear hv;have jl : Hid (RdS w (w.alloc (.cells #[Q1 0, Q1 0, Q1 0, Q1 0] 40))) := ⟨Blk.new w _ _, kZ0.alloc _⟩
 by_cases hl : bs.length = 512
 ·obtain ⟨b, off, rfl, ji⟩ := rd_some HV.out (by omega)
  rw [hl] at ji
  have ry : (bs.length : Int) = 512 := by omega
  have q4 := fun wx hk => jbh hB hl HV.out 4 8 (by decide) (by omega) wx hk
  have oF := fun wx hk => jbh hB hl HV.out 12 4 (by decide) (by omega) wx hk
  have wn := fun wx hk => jbh hB hl HV.out 16 8 (by decide) (by omega) wx hk
  have uC := fun wx hk => jbh hB hl HV.out 24 8 (by decide) (by omega) wx hk
  have LS : (12 : Int) ≤ (c : Int) := by omega
  have LD : (16 : Int) ≤ (c : Int) := by omega
  have MZ : (24 : Int) ≤ (c : Int) := by omega
  have p32 : (32 : Int) ≤ (c : Int) := by omega
  have n4 : ¬ c = 4 := by omega
  have n12 : ¬ c = 12 := by omega
  have n16 : ¬ c = 16 := by omega
  have n24 : ¬ c = 24 := by omega
  have ol : Hid (w.rangeAt b off (vals .u8 bs)) := Zm HV.out (by omega);have HL : Hid (bs.length = 512) := hl;rw [hl] at HV;clear ry
  go_enter Tryz.func48, Tryz.ntmps48
  rw [hl];clear hl hm
  go_wp2_with fail
  refine Code.wp_mono (Q := fun ex a' wx => match ex with | .normal => ∃ B : Nat, w.heap.size < B ∧ RdS w wx ∧ Blk wx B 40 [Q1 (mS bs), Q1 (mE bs), Q1 (mC bs), Q1 (mL bs)] ∧ a' = { tmps := #[.slice (some ⟨b, off, none⟩) 512 c, undef, .pointer (some ⟨w.heap.size, 0, none⟩), .nilIface, Q2 B 0, undef, .slice (some ⟨b, off, none⟩) 512 c, Q1 512, .bool false, undef, undef, .slice (some ⟨b, off, none⟩) 512 c, .slice (some ⟨b, off + 4, none⟩) 8 (c - 4), Q1 (mS bs), .slice (some ⟨b, off, none⟩) 512 c, .slice (some ⟨b, off + 12, none⟩) 4 (c - 12), Q1 (mE bs), .slice (some ⟨b, off, none⟩) 512 c, .slice (some ⟨b, off + 16, none⟩) 8 (c - 16), Q1 (mC bs), .slice (some ⟨b, off, none⟩) 512 c, .slice (some ⟨b, off + 24, none⟩) 8 (c - 24), Q1 (mL bs), .agg #[Q1 (mS bs), Q1 (mE bs), Q1 (mC bs), Q1 (mL bs)], undef, undef, undef, undef, undef, undef, undef, undef, undef, undef, undef, undef, undef, undef, undef], defers := [] } | _ => False) ?_ ?_
  ·intro ex a' wx h
   cases ex with
   | normal =>
    obtain ⟨B, qh, hS, hM, rfl⟩ := h;dsimp only;clear q4 oF wn uC n4 n12 n16 n24 LS LD MZ p32 jl;have vO : Hid (RdS w wx) := hS;obtain ⟨m0, m1, m2, m3⟩ := hM.all4;have Ff : Hid (Blk wx B 40 [Q1 (mS bs), Q1 (mE bs), Q1 (mC bs), Q1 (mL bs)]) := hM;clear hS hM;have HG : Hid (Tz bs = (decide (mF (mS bs) (mE bs) (mC bs) (mL bs) = 0) && decide (Uw (mS bs) (mE bs) (mC bs) (mL bs) = bs))) := rfl;have k1 := TQ (mS bs) (mE bs) (mC bs) (mL bs) a0 a1 a2 wx (HE.out.same vO.out.same).errs
    by_cases hf : mF (mS bs) (mE bs) (mC bs) (mL bs) = 0
    ·have k2 := fun wy => Ty (mS bs) (mE bs) (mC bs) (mL bs) wy hf
     have Aj : Hid (Uw (mS bs) (mE bs) (mC bs) (mL bs) = mB (mS bs) (mE bs) (mC bs) (mL bs)) := U9 hf;rw [hf, show jds a0 a1 a2 0 = .nilIface from rfl] at k1;have HF : Hid (mF (mS bs) (mE bs) (mC bs) (mL bs) = 0) := hf;clear hf;have er := fun wy => YZ wy (mB (mS bs) (mE bs) (mC bs) (mL bs)) bs (QF _ _ _ _) HL.out
     have hI : (Tryz.prog.info? 88).map (·.size) = some (vals .u8 bs).length := by rw [O1, HL.out]; exact Xj
     obtain ⟨el, gw⟩ : ∃ el : Array Value, (vals .u8 (mB (mS bs) (mE bs) (mC bs) (mL bs))).toArray = el := ⟨_, rfl⟩;obtain ⟨rl, lc⟩ : ∃ rl : List Value, vals .u8 bs = rl := ⟨_, rfl⟩;rw [gw] at k2 er;rw [lc] at er hI ol;clear gw lc
     go_wp2_with (go_at_call 46; (with_reducible refine k1.mono ?_); rintro ex w1 ⟨rfl, hk⟩; have iH : Hid (RdS w w1) := vO.out.on hk; have oM : Hid (Blk w1 B 40 [Q1 (mS bs), Q1 (mE bs), Q1 (mC bs), Q1 (mL bs)]) := Ff.out.same hk; clear hk vO Ff m0 m1 m2 m3 k1)
     have aR : ∀ wy, Same w1 wy → (fun wz : World => (wz.cell? ⟨B, 0, none⟩ = some (Q1 (mS bs)) ∧ wz.cell? ⟨B, 1, none⟩ = some (Q1 (mE bs)) ∧ wz.cell? ⟨B, 2, none⟩ = some (Q1 (mC bs)) ∧ wz.cell? ⟨B, 3, none⟩ = some (Q1 (mL bs))) ∧ wz.rangeAt b off rl) wy := fun wy hk => ⟨(oM.out.same hk).all4, Kept.ranges (iH.out.same.trans hk) ol.out⟩;have hS := aR _ kZ0.drew;refine O0 (fun wz : World => (wz.cell? ⟨B, 0, none⟩ = some (Q1 (mS bs)) ∧ wz.cell? ⟨B, 1, none⟩ = some (Q1 (mE bs)) ∧ wz.cell? ⟨B, 2, none⟩ = some (Q1 (mC bs)) ∧ wz.cell? ⟨B, 3, none⟩ = some (Q1 (mL bs))) ∧ wz.rangeAt b off rl) 99 6 ?_;refine tk 0 30 hS ?_;refine tk 2 32 hS ?_;have zY := fun wy => jaX wy (some ⟨b, off, none⟩) c;refine tk 3 33 hS ?_;refine Pz (i := 4) (v := .agg rl.toArray) (some 34) rfl rfl (by kernel_rfl) (by kernel_rfl) (by kernel_rfl) (by kernel_rfl) (fun _ _ _ h => h) (yieldsIf_load_mid (by rfl) 88 _ rfl b off rfl rl _ (fun _ h => h.2) Tryz.underlying88 rfl hI) hS ?_
     try simp only [Sp]
     refine o1Q 1 (fun K hK => ?_);go_simp
     with_reducible refine (k2 _).mono ?_
     rintro ex w2 ⟨rfl, hk⟩;have hS := aR _ (kZ0.drew.trans hk);have fW : Hid (RdS w w2) := iH.out.on (kZ0.drew.trans hk);have Df := hid (oM.out.same (kZ0.drew.trans hk));clear hk aR iH oM;refine hK.out _ _ (fun _ => hS) ?_;clear hK K
     try simp only [Sp]
     refine tk 5 35 hS ?_;refine OZ ?_
     try simp only [Sp]
     clear hS er k2 zY;obtain ⟨m0, m1, m2, m3⟩ := Df.out.all4;obtain ⟨r0, r1, r2, r3⟩ := fW.out.res.all4;have fr := fW.out.res.frozen
     by_cases hq : mB (mS bs) (mE bs) (mC bs) (mL bs) = bs
     ·rw [show (mB (mS bs) (mE bs) (mC bs) (mL bs) != bs) = false from by simp [hq]]
      have hG : Tz bs = true := by rw [HG.out]; simp [HF.out, Aj.out, hq]
      have eD : Same w ((((w2.setCell ⟨w.heap.size, 0, none⟩ (Q1 (mS bs))).setCell ⟨w.heap.size, 1, none⟩ (Q1 (mE bs))).setCell ⟨w.heap.size, 2, none⟩ (Q1 (mC bs))).setCell ⟨w.heap.size, 3, none⟩ (Q1 (mL bs))) := by
       (iterate 4 refine Kept.setCell ?_ (.inl (Nat.le_refl _)) _)
       exact fW.out.same
      have D8 := (show Hid (Same w _) from eD);clear eD hq HG Aj HF;go_wp2;refine bodyPost_ret (v := .tuple #[.agg #[Q1 (mS bs), Q1 (mE bs), Q1 (mC bs), Q1 (mL bs)], .nilIface]) (by simp [results, Tryz.results48, go_sem, r0, r1, r2, r3]) rfl ⟨⟨_, rfl, .inl ⟨hG, rfl⟩⟩, D8.out⟩
     ·rw [show (mB (mS bs) (mE bs) (mC bs) (mL bs) != bs) = true from by simp [hq]]
      have hG : Tz bs = false := by rw [HG.out]; simp [Aj.out, hq]
      clear hq HG Aj HF m0 m1 m2 m3
      go_wp2_with fail
      have hS : (fun wx : World => D0 wx 4 0 (.iface 188 (.pointer (some a4)))) w2.drew := (HE.out.same fW.out.same.drew).c4;refine O0 (fun wx : World => D0 wx 4 0 (.iface 188 (.pointer (some a4)))) 99 4 ?_;refine tk 0 36 hS ?_;refine tk 1 37 hS ?_;refine o1Q 2 (fun K hK => ?_);go_simp
      have eD : Same w ((((w2.setCell ⟨w.heap.size, 0, none⟩ (Q1 0)).setCell ⟨w.heap.size, 1, none⟩ (Q1 0)).setCell ⟨w.heap.size, 2, none⟩ (Q1 0)).setCell ⟨w.heap.size, 3, none⟩ (Q1 0)) := by
       (iterate 4 refine Kept.setCell ?_ (.inl (Nat.le_refl _)) _)
       exact fW.out.same
      have hS : (fun wx : World => D0 wx 4 0 (.iface 188 (.pointer (some a4)))) ((((w2.setCell ⟨w.heap.size, 0, none⟩ (Q1 0)).setCell ⟨w.heap.size, 1, none⟩ (Q1 0)).setCell ⟨w.heap.size, 2, none⟩ (Q1 0)).setCell ⟨w.heap.size, 3, none⟩ (Q1 0)).drew := (HE.out.same eD.drew).c4;refine hK.out _ _ (fun _ => hS) ?_;clear hK K
      try simp only [Sp]
      refine o1Q 3 (fun K hK => ?_);go_simp;refine hK.out _ _ (fun _ => hS) ?_;clear hK K;refine OZ ?_
      try simp only [Sp]
      have D8 := hid (eD.drew);clear eD hS;go_wp2;refine bodyPost_ret (v := .tuple #[.agg #[Q1 0, Q1 0, Q1 0, Q1 0], .iface 188 (.pointer (some a4))]) (by simp [results, Tryz.results48, go_sem, r0, r1, r2, r3]) rfl ⟨⟨_, rfl, .inr ⟨hG, a4, rfl⟩⟩, D8.out⟩
    ·have hG : Tz bs = false := by rw [HG.out]; simp [hf]
     obtain ⟨ae, Kk⟩ := jbf (a0 := a0) (a1 := a1) (a2 := a2) hf;rw [Kk] at k1;clear hf HG
     go_wp2_with (go_at_call 46; (with_reducible refine k1.mono ?_); rintro ex w1 ⟨rfl, hk⟩; have iH : Hid (RdS w w1) := vO.out.on hk; obtain ⟨r0, r1, r2, r3⟩ := iH.out.res.all4; have fr := iH.out.res.frozen; clear hk vO Ff m0 m1 m2 m3 k1)
     have eD : Same w ((((w1.setCell ⟨w.heap.size, 0, none⟩ (Q1 0)).setCell ⟨w.heap.size, 1, none⟩ (Q1 0)).setCell ⟨w.heap.size, 2, none⟩ (Q1 0)).setCell ⟨w.heap.size, 3, none⟩ (Q1 0)) := by
      (iterate 4 refine Kept.setCell ?_ (.inl (Nat.le_refl _)) _)
      exact iH.out.same
     refine bodyPost_ret (v := .tuple #[.agg #[Q1 0, Q1 0, Q1 0, Q1 0], .iface 188 (.pointer (some ae))]) (by simp [results, Tryz.results48, go_sem, r0, r1, r2, r3]) rfl ⟨⟨_, rfl, .inr ⟨hG, ae, rfl⟩⟩, eD⟩
   | _ => exact absurd h id
  ·refine O0 (fun _ : World => True) 99 15 ?_
   have iH : Hid (RdS w (w.alloc (.cells #[Q1 0, Q1 0, Q1 0, Q1 0] 40)).drew) := jl.out.on kZ0.drew;obtain ⟨w1, fG⟩ : ∃ w1, (w.alloc (.cells #[Q1 0, Q1 0, Q1 0, Q1 0] 40)).drew = w1 := ⟨_, rfl⟩;rw [fG] at iH ⊢;clear fG jl;have hS : (fun _ : World => True) w1 := trivial;refine tk 0 11 hS ?_;refine tk 1 12 hS ?_;refine tk 3 14 hS ?_;refine tk 4 15 hS ?_;refine tk 6 17 hS ?_;refine tk 7 18 hS ?_;refine tk 9 20 hS ?_;refine tk 10 21 hS ?_;clear hS;refine TD (i := 2) (j := 13) (by kernel_rfl) rfl rfl (fun K hK => ?_) (fun K hK => ?_)
   ·go_simp
    with_reducible refine (q4 _ iH.out.same).mono ?_
    rintro ex w2 ⟨rfl, hk⟩;rw [show Ps (takeB bs 4 8) = mS bs from rfl];have fW : Hid (RdS w w2) := iH.out.on hk;clear hk iH;refine hK.out _ _ (fun _ => trivial) ?_;clear hK K
    try simp only [Sp]
    refine TD (i := 5) (j := 13) (by kernel_rfl) rfl rfl (fun K hK => ?_) (fun K hK => ?_)
    ·go_simp
     with_reducible refine (oF _ fW.out.same).mono ?_
     rintro ex w3 ⟨rfl, hk⟩;rw [show Ps (takeB bs 12 4) = mE bs from rfl];have kY : Hid (RdS w w3) := fW.out.on hk;clear hk fW;refine hK.out _ _ (fun _ => trivial) ?_;clear hK K
     try simp only [Sp]
     refine TD (i := 8) (j := 13) (by kernel_rfl) rfl rfl (fun K hK => ?_) (fun K hK => ?_)
     ·go_simp
      with_reducible refine (wn _ kY.out.same).mono ?_
      rintro ex w4 ⟨rfl, hk⟩;rw [show Ps (takeB bs 16 8) = mC bs from rfl];have ua : Hid (RdS w w4) := kY.out.on hk;clear hk kY;refine hK.out _ _ (fun _ => trivial) ?_;clear hK K
      try simp only [Sp]
      refine TD (i := 11) (j := 13) (by kernel_rfl) rfl rfl (fun K hK => ?_) (fun K hK => ?_)
      ·go_simp
       with_reducible refine (uC _ ua.out.same).mono ?_
       rintro ex w5 ⟨rfl, hk⟩;rw [show Ps (takeB bs 24 8) = mL bs from rfl];have EJ : Hid (RdS w w5) := ua.out.on hk;clear hk ua;refine hK.out _ _ (fun _ => trivial) ?_;clear hK K
       try simp only [Sp]
       refine tk 12 23 (S := fun _ : World => True) trivial ?_;refine o1Q 13 (fun K hK => ?_);go_simp;have hz := EJ.out.res.lt;have FL : Hid (Blk (w5.alloc (.cells #[Q1 0, Q1 0, Q1 0, Q1 0] 40)) w5.heap.size 40 [Q1 0, Q1 0, Q1 0, Q1 0]) := Blk.new w5 _ _;have Es : Hid (RdS w (w5.alloc (.cells #[Q1 0, Q1 0, Q1 0, Q1 0] 40))) := EJ.out.on (kZ0.alloc _);have K0 : Hid (w.heap.size < w5.heap.size) := hz;obtain ⟨w6, Ej⟩ : ∃ wy, w5.alloc (.cells #[Q1 0, Q1 0, Q1 0, Q1 0] 40) = wy := ⟨_, rfl⟩;rw [Ej] at FL Es;rw [Ej];clear Ej hz EJ;refine hK.out _ _ (fun _ => trivial) ?_;clear hK K
       try simp only [Sp]
       refine o1Q 14 (fun K hK => ?_);have hM := FL.out;obtain ⟨m0, m1, m2, m3⟩ := hM.all4;have fm := hM.frozen;go_simp;refine hK.out _ _ (fun _ => trivial) ?_;clear hK K;refine OZ ?_
       try simp only [Sp]
       have cQ : Kept (fun b => b = w5.heap.size) w6 ((((w6.setCell ⟨w5.heap.size, 0, none⟩ (Q1 (mS bs))).setCell ⟨w5.heap.size, 1, none⟩ (Q1 (mE bs))).setCell ⟨w5.heap.size, 2, none⟩ (Q1 (mC bs))).setCell ⟨w5.heap.size, 3, none⟩ (Q1 (mL bs))) := by
        (iterate 4 refine Kept.setCell (R := fun b => b = w5.heap.size) ?_ (.inr rfl) _)
        exact kZ0
       have pf := (((hM.stored 0 (Q1 (mS bs))).stored 1 (Q1 (mE bs))).stored 2 (Q1 (mC bs))).stored 3 (Q1 (mL bs));have hz := K0.out;exact ⟨w5.heap.size, hz, ⟨Es.out.res.kept cQ (by omega), Es.out.same.next cQ (fun b hb e => by omega)⟩, pf, rfl⟩
      ·go_simp
       have hz := ua.out.res.lt;have EK : Hid (Blk (w4.alloc (.cells #[Q1 0, Q1 0, Q1 0, Q1 0] 40)) w4.heap.size 40 [Q1 0, Q1 0, Q1 0, Q1 0]) := Blk.new w4 _ _;have oH : Hid (RdS w (w4.alloc (.cells #[Q1 0, Q1 0, Q1 0, Q1 0] 40))) := ua.out.on (kZ0.alloc _);have IG : Hid (w.heap.size < w4.heap.size) := hz;obtain ⟨w7, gZ⟩ : ∃ wy, w4.alloc (.cells #[Q1 0, Q1 0, Q1 0, Q1 0] 40) = wy := ⟨_, rfl⟩;rw [gZ] at EK oH;rw [gZ];clear gZ hz ua;refine hK.out _ _ (fun _ => trivial) ?_;clear hK K
       try simp only [Sp]
       refine o1Q 11 (fun K hK => ?_);go_simp
       with_reducible refine (uC _ oH.out.same).mono ?_
       rintro ex w8 ⟨rfl, hk⟩;rw [show Ps (takeB bs 24 8) = mL bs from rfl];have oG : Hid (RdS w w8) := oH.out.on hk;have Mb := hid (EK.out.same hk);have Mq := IG;clear hk oH EK IG;refine hK.out _ _ (fun _ => trivial) ?_;clear hK K
       try simp only [Sp]
       refine tk 12 23 (S := fun _ : World => True) trivial ?_;refine o1Q 14 (fun K hK => ?_);have hM := Mb.out;obtain ⟨m0, m1, m2, m3⟩ := hM.all4;have fm := hM.frozen;go_simp;refine hK.out _ _ (fun _ => trivial) ?_;clear hK K;refine OZ ?_
       try simp only [Sp]
       have cQ : Kept (fun b => b = w4.heap.size) w8 ((((w8.setCell ⟨w4.heap.size, 0, none⟩ (Q1 (mS bs))).setCell ⟨w4.heap.size, 1, none⟩ (Q1 (mE bs))).setCell ⟨w4.heap.size, 2, none⟩ (Q1 (mC bs))).setCell ⟨w4.heap.size, 3, none⟩ (Q1 (mL bs))) := by
        (iterate 4 refine Kept.setCell (R := fun b => b = w4.heap.size) ?_ (.inr rfl) _)
        exact kZ0
       have pf := (((hM.stored 0 (Q1 (mS bs))).stored 1 (Q1 (mE bs))).stored 2 (Q1 (mC bs))).stored 3 (Q1 (mL bs));have hz := Mq.out;exact ⟨w4.heap.size, hz, ⟨oG.out.res.kept cQ (by omega), oG.out.same.next cQ (fun b hb e => by omega)⟩, pf, rfl⟩
     ·go_simp
      have hz := kY.out.res.lt;have CP : Hid (Blk (w3.alloc (.cells #[Q1 0, Q1 0, Q1 0, Q1 0] 40)) w3.heap.size 40 [Q1 0, Q1 0, Q1 0, Q1 0]) := Blk.new w3 _ _;have cx : Hid (RdS w (w3.alloc (.cells #[Q1 0, Q1 0, Q1 0, Q1 0] 40))) := kY.out.on (kZ0.alloc _);have Hh : Hid (w.heap.size < w3.heap.size) := hz;obtain ⟨w9, uy⟩ : ∃ wy, w3.alloc (.cells #[Q1 0, Q1 0, Q1 0, Q1 0] 40) = wy := ⟨_, rfl⟩;rw [uy] at CP cx;rw [uy];clear uy hz kY;refine hK.out _ _ (fun _ => trivial) ?_;clear hK K
      try simp only [Sp]
      refine o1Q 8 (fun K hK => ?_);go_simp
      with_reducible refine (wn _ cx.out.same).mono ?_
      rintro ex mQ ⟨rfl, hk⟩;rw [show Ps (takeB bs 16 8) = mC bs from rfl];have sx : Hid (RdS w mQ) := cx.out.on hk;have wB := hid (CP.out.same hk);have yy := Hh;clear hk cx CP Hh;refine hK.out _ _ (fun _ => trivial) ?_;clear hK K
      try simp only [Sp]
      refine o1Q 11 (fun K hK => ?_);go_simp
      with_reducible refine (uC _ sx.out.same).mono ?_
      rintro ex lN ⟨rfl, hk⟩;rw [show Ps (takeB bs 24 8) = mL bs from rfl];have vp : Hid (RdS w lN) := sx.out.on hk;have Bz := hid (wB.out.same hk);have DG := yy;clear hk sx wB yy;refine hK.out _ _ (fun _ => trivial) ?_;clear hK K
      try simp only [Sp]
      refine tk 12 23 (S := fun _ : World => True) trivial ?_;refine o1Q 14 (fun K hK => ?_);have hM := Bz.out;obtain ⟨m0, m1, m2, m3⟩ := hM.all4;have fm := hM.frozen;go_simp;refine hK.out _ _ (fun _ => trivial) ?_;clear hK K;refine OZ ?_
      try simp only [Sp]
      have cQ : Kept (fun b => b = w3.heap.size) lN ((((lN.setCell ⟨w3.heap.size, 0, none⟩ (Q1 (mS bs))).setCell ⟨w3.heap.size, 1, none⟩ (Q1 (mE bs))).setCell ⟨w3.heap.size, 2, none⟩ (Q1 (mC bs))).setCell ⟨w3.heap.size, 3, none⟩ (Q1 (mL bs))) := by
       (iterate 4 refine Kept.setCell (R := fun b => b = w3.heap.size) ?_ (.inr rfl) _)
       exact kZ0
      have pf := (((hM.stored 0 (Q1 (mS bs))).stored 1 (Q1 (mE bs))).stored 2 (Q1 (mC bs))).stored 3 (Q1 (mL bs));have hz := DG.out;exact ⟨w3.heap.size, hz, ⟨vp.out.res.kept cQ (by omega), vp.out.same.next cQ (fun b hb e => by omega)⟩, pf, rfl⟩
    ·go_simp
     have hz := fW.out.res.lt;have r7 : Hid (Blk (w2.alloc (.cells #[Q1 0, Q1 0, Q1 0, Q1 0] 40)) w2.heap.size 40 [Q1 0, Q1 0, Q1 0, Q1 0]) := Blk.new w2 _ _;have pN : Hid (RdS w (w2.alloc (.cells #[Q1 0, Q1 0, Q1 0, Q1 0] 40))) := fW.out.on (kZ0.alloc _);have xR : Hid (w.heap.size < w2.heap.size) := hz;obtain ⟨vn, tz⟩ : ∃ wy, w2.alloc (.cells #[Q1 0, Q1 0, Q1 0, Q1 0] 40) = wy := ⟨_, rfl⟩;rw [tz] at r7 pN;rw [tz];clear tz hz fW;refine hK.out _ _ (fun _ => trivial) ?_;clear hK K
     try simp only [Sp]
     refine o1Q 5 (fun K hK => ?_);go_simp
     with_reducible refine (oF _ pN.out.same).mono ?_
     rintro ex om ⟨rfl, hk⟩;rw [show Ps (takeB bs 12 4) = mE bs from rfl];have tu : Hid (RdS w om) := pN.out.on hk;have zh := hid (r7.out.same hk);have wm := xR;clear hk pN r7 xR;refine hK.out _ _ (fun _ => trivial) ?_;clear hK K
     try simp only [Sp]
     refine o1Q 8 (fun K hK => ?_);go_simp
     with_reducible refine (wn _ tu.out.same).mono ?_
     rintro ex zQ ⟨rfl, hk⟩;rw [show Ps (takeB bs 16 8) = mC bs from rfl];have rX : Hid (RdS w zQ) := tu.out.on hk;have vE := hid (zh.out.same hk);have vi := wm;clear hk tu zh wm;refine hK.out _ _ (fun _ => trivial) ?_;clear hK K
     try simp only [Sp]
     refine o1Q 11 (fun K hK => ?_);go_simp
     with_reducible refine (uC _ rX.out.same).mono ?_
     rintro ex l7 ⟨rfl, hk⟩;rw [show Ps (takeB bs 24 8) = mL bs from rfl];have yP : Hid (RdS w l7) := rX.out.on hk;have B1 := hid (vE.out.same hk);have Cg := vi;clear hk rX vE vi;refine hK.out _ _ (fun _ => trivial) ?_;clear hK K
     try simp only [Sp]
     refine tk 12 23 (S := fun _ : World => True) trivial ?_;refine o1Q 14 (fun K hK => ?_);have hM := B1.out;obtain ⟨m0, m1, m2, m3⟩ := hM.all4;have fm := hM.frozen;go_simp;refine hK.out _ _ (fun _ => trivial) ?_;clear hK K;refine OZ ?_
     try simp only [Sp]
     have cQ : Kept (fun b => b = w2.heap.size) l7 ((((l7.setCell ⟨w2.heap.size, 0, none⟩ (Q1 (mS bs))).setCell ⟨w2.heap.size, 1, none⟩ (Q1 (mE bs))).setCell ⟨w2.heap.size, 2, none⟩ (Q1 (mC bs))).setCell ⟨w2.heap.size, 3, none⟩ (Q1 (mL bs))) := by
      (iterate 4 refine Kept.setCell (R := fun b => b = w2.heap.size) ?_ (.inr rfl) _)
      exact kZ0
     have pf := (((hM.stored 0 (Q1 (mS bs))).stored 1 (Q1 (mE bs))).stored 2 (Q1 (mC bs))).stored 3 (Q1 (mL bs));have hz := Cg.out;exact ⟨w2.heap.size, hz, ⟨yP.out.res.kept cQ (by omega), yP.out.same.next cQ (fun b hb e => by omega)⟩, pf, rfl⟩
   ·go_simp
    have hz := iH.out.res.lt;have sZ : Hid (Blk (w1.alloc (.cells #[Q1 0, Q1 0, Q1 0, Q1 0] 40)) w1.heap.size 40 [Q1 0, Q1 0, Q1 0, Q1 0]) := Blk.new w1 _ _;have pB : Hid (RdS w (w1.alloc (.cells #[Q1 0, Q1 0, Q1 0, Q1 0] 40))) := iH.out.on (kZ0.alloc _);have vm : Hid (w.heap.size < w1.heap.size) := hz;obtain ⟨yZ, rH⟩ : ∃ wy, w1.alloc (.cells #[Q1 0, Q1 0, Q1 0, Q1 0] 40) = wy := ⟨_, rfl⟩;rw [rH] at sZ pB;rw [rH];clear rH hz iH;refine hK.out _ _ (fun _ => trivial) ?_;clear hK K
    try simp only [Sp]
    refine o1Q 2 (fun K hK => ?_);go_simp
    with_reducible refine (q4 _ pB.out.same).mono ?_
    rintro ex um ⟨rfl, hk⟩;rw [show Ps (takeB bs 4 8) = mS bs from rfl];have rM : Hid (RdS w um) := pB.out.on hk;have wL := hid (sZ.out.same hk);have wC := vm;clear hk pB sZ vm;refine hK.out _ _ (fun _ => trivial) ?_;clear hK K
    try simp only [Sp]
    refine o1Q 5 (fun K hK => ?_);go_simp
    with_reducible refine (oF _ rM.out.same).mono ?_
    rintro ex vK ⟨rfl, hk⟩;rw [show Ps (takeB bs 12 4) = mE bs from rfl];have sw : Hid (RdS w vK) := rM.out.on hk;have zj := hid (wL.out.same hk);have xo := wC;clear hk rM wL wC;refine hK.out _ _ (fun _ => trivial) ?_;clear hK K
    try simp only [Sp]
    refine o1Q 8 (fun K hK => ?_);go_simp
    with_reducible refine (wn _ sw.out.same).mono ?_
    rintro ex oJ ⟨rfl, hk⟩;rw [show Ps (takeB bs 16 8) = mC bs from rfl];have tZ : Hid (RdS w oJ) := sw.out.on hk;have zC := hid (zj.out.same hk);have xQ := xo;clear hk sw zj xo;refine hK.out _ _ (fun _ => trivial) ?_;clear hK K
    try simp only [Sp]
    refine o1Q 11 (fun K hK => ?_);go_simp
    with_reducible refine (uC _ tZ.out.same).mono ?_
    rintro ex lI ⟨rfl, hk⟩;rw [show Ps (takeB bs 24 8) = mL bs from rfl];have xZ : Hid (RdS w lI) := tZ.out.on hk;have Bc := hid (zC.out.same hk);have DR := xQ;clear hk tZ zC xQ;refine hK.out _ _ (fun _ => trivial) ?_;clear hK K
    try simp only [Sp]
    refine tk 12 23 (S := fun _ : World => True) trivial ?_;refine o1Q 14 (fun K hK => ?_);have hM := Bc.out;obtain ⟨m0, m1, m2, m3⟩ := hM.all4;have fm := hM.frozen;go_simp;refine hK.out _ _ (fun _ => trivial) ?_;clear hK K;refine OZ ?_
    try simp only [Sp]
    have cQ : Kept (fun b => b = w1.heap.size) lI ((((lI.setCell ⟨w1.heap.size, 0, none⟩ (Q1 (mS bs))).setCell ⟨w1.heap.size, 1, none⟩ (Q1 (mE bs))).setCell ⟨w1.heap.size, 2, none⟩ (Q1 (mC bs))).setCell ⟨w1.heap.size, 3, none⟩ (Q1 (mL bs))) := by
     (iterate 4 refine Kept.setCell (R := fun b => b = w1.heap.size) ?_ (.inr rfl) _)
     exact kZ0
    have pf := (((hM.stored 0 (Q1 (mS bs))).stored 1 (Q1 (mE bs))).stored 2 (Q1 (mC bs))).stored 3 (Q1 (mL bs));have hz := DR.out;exact ⟨w1.heap.size, hz, ⟨xZ.out.res.kept cQ (by omega), xZ.out.same.next cQ (fun b hb e => by omega)⟩, pf, rfl⟩
 ·have ry : ¬ (bs.length : Int) = 512 := by omega
  have hG := jb6 hl
  go_enter Tryz.func48, Tryz.ntmps48
  go_wp2_with fail
  have hS : (fun wx : World => D0 wx 3 0 (.iface 188 (.pointer (some a3)))) ((w.alloc (.cells #[Q1 0, Q1 0, Q1 0, Q1 0] 40)).drew) := (HE.out.same jl.out.same.drew).c3;refine O0 (fun wx : World => D0 wx 3 0 (.iface 188 (.pointer (some a3)))) 99 4 ?_;refine tk 0 9 hS ?_;refine tk 1 10 hS ?_;refine o1Q 2 (fun K hK => ?_);go_simp;refine hK.out _ _ (fun _ => hS) ?_;clear hK K
  try simp only [Sp]
  refine o1Q 3 (fun K hK => ?_);go_simp;refine hK.out _ _ (fun _ => hS) ?_;clear hK K;refine OZ ?_
  try simp only [Sp]
  have ah : Same w (w.alloc (.cells #[Q1 0, Q1 0, Q1 0, Q1 0] 40)).drew := jl.out.same.drew;obtain ⟨r0, r1, r2, r3⟩ := (jl.out.on kZ0.drew).res.all4;go_wp2;refine bodyPost_ret (v := .tuple #[.agg #[Q1 0, Q1 0, Q1 0, Q1 0], .iface 188 (.pointer (some a3))]) (by simp [results, Tryz.results48, go_sem, r0, r1, r2, r3]) rfl ⟨⟨_, rfl, .inr ⟨hG, a3, rfl⟩⟩, ah⟩
theorem Y0 (v : Value) (bs : List Int) (a0 a1 a2 a3 a4 : Addr) (w : World) (hE : Errs5 w a0 a1 a2 a3 a4) (hB : IsB bs) (hv : Rd .u8 w v bs) :
  Calls Tryz.prog 15 #[v] w fun ex w' => ex = .returned (jb5 bs) ∧ Same w w' := by
 have aW : Same w (w.alloc (.cells #[.bool false, Q1 0, Q1 0, Q1 0, Q1 0, Q1 0] 45)) := kZ0.alloc _;have k1 := Xk v bs a0 a1 a2 a3 a4 _ (hE.same aW) hB (hv.same aW);have aP : Hid (Same w (w.alloc (.cells #[.bool false, Q1 0, Q1 0, Q1 0, Q1 0, Q1 0] 45))) := aW;have dO : Hid (Blk (w.alloc (.cells #[.bool false, Q1 0, Q1 0, Q1 0, Q1 0, Q1 0] 45)) w.heap.size 45 [.bool false, Q1 0, Q1 0, Q1 0, Q1 0, Q1 0]) := Blk.new w _ _;clear hE hB hv aW
 go_enter Tryz.func15, Tryz.ntmps15
 go_wp2_with fail
 refine k1.mono ?_;rintro ex w1 ⟨⟨u, rfl, hR⟩, hk⟩;have aN := hid (aP.out.trans hk);have bQ := hid (dO.out.same hk);have cE := bQ.out.lt;clear hk aP dO k1
 rcases hR with ⟨hG, rfl⟩ | ⟨hG, ae, rfl⟩
 ·have l9 : Hid (jb5 bs = XG true 0 (mS bs) (mE bs) (mC bs) (mL bs)) := jah hG
  clear hG
  go_wp2_with fail
  have ah : Same w1 (w1.alloc (.cells #[Q1 (mS bs), Q1 (mE bs), Q1 (mC bs), Q1 (mL bs)] 40)).drew := (kZ0.alloc _).drew
  let Y1 : World → Prop := fun wx => D0 wx w1.heap.size 0 (Q1 (mS bs)) ∧ D0 wx w1.heap.size 1 (Q1 (mE bs)) ∧ D0 wx w1.heap.size 2 (Q1 (mC bs)) ∧ D0 wx w1.heap.size 3 (Q1 (mL bs))
  have hS : Y1 (w1.alloc (.cells #[Q1 (mS bs), Q1 (mE bs), Q1 (mC bs), Q1 (mL bs)] 40)).drew := ((Blk.new w1 #[Q1 (mS bs), Q1 (mE bs), Q1 (mC bs), Q1 (mL bs)] 40).same kZ0.drew).all4;refine O0 Y1 4 5 ?_;refine tk 0 10 hS ?_;refine tk 1 11 hS ?_;refine tk 2 12 hS ?_;refine tk 3 13 hS ?_;refine o1Q 4 (fun K hK => ?_);have hb := bQ.out.same ah;have z0 : (w1.alloc (.cells #[Q1 (mS bs), Q1 (mE bs), Q1 (mC bs), Q1 (mL bs)] 40)).drew.cell? ⟨w.heap.size, 0, none⟩ = some (.bool false) := hb.cell 0;have z1 : (w1.alloc (.cells #[Q1 (mS bs), Q1 (mE bs), Q1 (mC bs), Q1 (mL bs)] 40)).drew.cell? ⟨w.heap.size, 1, none⟩ = some (Q1 0) := hb.cell 1;have z2 : (w1.alloc (.cells #[Q1 (mS bs), Q1 (mE bs), Q1 (mC bs), Q1 (mL bs)] 40)).drew.cell? ⟨w.heap.size, 2, none⟩ = some (Q1 0) := hb.cell 2;have z3 : (w1.alloc (.cells #[Q1 (mS bs), Q1 (mE bs), Q1 (mC bs), Q1 (mL bs)] 40)).drew.cell? ⟨w.heap.size, 3, none⟩ = some (Q1 0) := hb.cell 3;have z4 : (w1.alloc (.cells #[Q1 (mS bs), Q1 (mE bs), Q1 (mC bs), Q1 (mL bs)] 40)).drew.cell? ⟨w.heap.size, 4, none⟩ = some (Q1 0) := hb.cell 4;have z5 : (w1.alloc (.cells #[Q1 (mS bs), Q1 (mE bs), Q1 (mC bs), Q1 (mL bs)] 40)).drew.cell? ⟨w.heap.size, 5, none⟩ = some (Q1 0) := hb.cell 5;have fz := hb.frozen;have aO := hid (aN.out.trans ah);obtain ⟨w2, pQ⟩ : ∃ w2, (w1.alloc (.cells #[Q1 (mS bs), Q1 (mE bs), Q1 (mC bs), Q1 (mL bs)] 40)).drew = w2 := ⟨_, rfl⟩;rw [pQ] at z0 z1 z2 z3 z4 z5 fz aO ⊢;clear hS hb ah pQ bQ aN;go_simp;refine hK.out _ _ (fun h => absurd rfl h) ?_;clear hK K;refine OZ ?_
  try simp only [Sp]
  go_wp2;refine bodyPost_ret (v := XG true 0 (mS bs) (mE bs) (mC bs) (mL bs)) (by simp [results, Tryz.results15, go_sem, XG, z0, z1, z2, z3, z4, z5]) rfl ⟨by rw [l9.out], ?_⟩
  (iterate 6 refine Kept.setCell ?_ (.inl (Nat.le_refl _)) _)
  exact aO.out
 ·have l9 : Hid (jb5 bs = XG false 0 0 0 0 0) := jd6 hG
  clear hG
  go_wp2_with fail
  have ah : Same w1 (w1.alloc (.cells #[Q1 0, Q1 0, Q1 0, Q1 0] 40)).drew := (kZ0.alloc _).drew
  let Y2 : World → Prop := fun wx => D0 wx w1.heap.size 0 (Q1 0) ∧ D0 wx w1.heap.size 1 (Q1 0) ∧ D0 wx w1.heap.size 2 (Q1 0) ∧ D0 wx w1.heap.size 3 (Q1 0)
  have hS : Y2 (w1.alloc (.cells #[Q1 0, Q1 0, Q1 0, Q1 0] 40)).drew := ((Blk.new w1 #[Q1 0, Q1 0, Q1 0, Q1 0] 40).same kZ0.drew).all4;refine O0 Y2 4 5 ?_;refine tk 0 10 hS ?_;refine tk 1 11 hS ?_;refine tk 2 12 hS ?_;refine tk 3 13 hS ?_;refine o1Q 4 (fun K hK => ?_);have hb := bQ.out.same ah;have z0 : (w1.alloc (.cells #[Q1 0, Q1 0, Q1 0, Q1 0] 40)).drew.cell? ⟨w.heap.size, 0, none⟩ = some (.bool false) := hb.cell 0;have z1 : (w1.alloc (.cells #[Q1 0, Q1 0, Q1 0, Q1 0] 40)).drew.cell? ⟨w.heap.size, 1, none⟩ = some (Q1 0) := hb.cell 1;have z2 : (w1.alloc (.cells #[Q1 0, Q1 0, Q1 0, Q1 0] 40)).drew.cell? ⟨w.heap.size, 2, none⟩ = some (Q1 0) := hb.cell 2;have z3 : (w1.alloc (.cells #[Q1 0, Q1 0, Q1 0, Q1 0] 40)).drew.cell? ⟨w.heap.size, 3, none⟩ = some (Q1 0) := hb.cell 3;have z4 : (w1.alloc (.cells #[Q1 0, Q1 0, Q1 0, Q1 0] 40)).drew.cell? ⟨w.heap.size, 4, none⟩ = some (Q1 0) := hb.cell 4;have z5 : (w1.alloc (.cells #[Q1 0, Q1 0, Q1 0, Q1 0] 40)).drew.cell? ⟨w.heap.size, 5, none⟩ = some (Q1 0) := hb.cell 5;have fz := hb.frozen;have aO := hid (aN.out.trans ah);obtain ⟨w2, pQ⟩ : ∃ w2, (w1.alloc (.cells #[Q1 0, Q1 0, Q1 0, Q1 0] 40)).drew = w2 := ⟨_, rfl⟩;rw [pQ] at z0 z1 z2 z3 z4 z5 fz aO ⊢;clear hS hb ah pQ bQ aN;go_simp;refine hK.out _ _ (fun h => absurd rfl h) ?_;clear hK K;refine OZ ?_
  try simp only [Sp]
  go_wp2;refine bodyPost_ret (v := XG false 0 0 0 0 0) (by simp [results, Tryz.results15, go_sem, XG, z0, z1, z2, z3, z4, z5]) rfl ⟨by rw [l9.out], ?_⟩
  (iterate 6 refine Kept.setCell ?_ (.inl (Nat.le_refl _)) _)
  exact aO.out
def AtR (n r : Int) : Prop := (n ≤ 1 → r = 0) ∧ (1 < n → 0 ≤ r ∧ r < n)
theorem Xl (v : Value) (cs : List Int) (k : Nat) (n : Int) (w : World) (hb : IsB cs) (Bv : cs.length ≤ 1048576) (hk : k ≤ 1048576) (hn : IsI n) (hv : Rd .u8 w v cs) :
  Calls Tryz.prog 18 #[v, Q1 k, Q1 n] w fun e w' => ∃ r, e = .returned (Q1 r) ∧ AtR n r ∧ Same w w' := by
 obtain ⟨a, c, rfl⟩ := hv.form;obtain ⟨mK, rB⟩ := hn
 by_cases h1 : n ≤ 1
 ·go_enter Tryz.func18, Tryz.ntmps18
  go_wp2;go_ret;exact ⟨0, rfl, ⟨fun _ => rfl, fun h => by omega⟩, kZ0⟩
 ·by_cases h2 : cs.length = 0
  ·have e0 : ((cs.length : Nat) : Int) = 0 := by omega
   rw [h2]
   go_enter Tryz.func18, Tryz.ntmps18
   go_wp2;go_ret;exact ⟨_, rfl, ⟨fun h => by omega, fun h => ⟨Int.emod_nonneg _ (by omega), Int.emod_lt_of_pos _ (by omega)⟩⟩, kZ0⟩
  ·obtain ⟨b, off, rfl, hc⟩ : ∃ b off, a = some ⟨b, off, none⟩ ∧ ∀ i, i < cs.length → w.cell? ⟨b, off + i, none⟩ = some (.int .u8 (cs.getD i 0)) := by
    rcases hv.2 with ⟨ik, _⟩ | ⟨b, off, c', h, _, hc⟩
    ·rw [ik] at h2
     simp at h2
    ·cases h
     exact ⟨b, off, rfl, hc⟩
   have q1 := hc (k % cs.length) (Nat.mod_lt _ (by omega));have q2 := hc ((k + 1) % cs.length) (Nat.mod_lt _ (by omega));have x1 := hb.at (k % cs.length) (Nat.mod_lt _ (by omega));have x2 := hb.at ((k + 1) % cs.length) (Nat.mod_lt _ (by omega))
   have m1 : (k : Int) % (cs.length : Int) = ((k % cs.length : Nat) : Int) := by simp
   have m2 : ((k : Int) + 1) % (cs.length : Int) = (((k + 1) % cs.length : Nat) : Int) := by simp
   have l1 := Nat.mod_lt k (y := cs.length) (by omega);have l2 := Nat.mod_lt (k + 1) (y := cs.length) (by omega)
   have d1 : (k : Int) / (cs.length : Int) = ((k / cs.length : Nat) : Int) := by simp
   have d2 : k / cs.length ≤ k := Nat.div_le_self _ _;clear hc hv hb;generalize cs.getD (k % cs.length) 0 = x at *;generalize cs.getD ((k + 1) % cs.length) 0 = y at *;generalize k % cs.length = i1 at *;generalize (k + 1) % cs.length = i2 at *;generalize k / cs.length = j1 at *;generalize hl : cs.length = len at *
   have pK : (0 : Int) < (len : Int) := by omega
   have oI : ¬ (len : Int) = 0 := by omega
   have Lz : (i1 : Int) < (len : Int) := by omega
   have Kl : (i2 : Int) < (len : Int) := by omega
   by_cases h3 : 200 < n
   ·go_enter Tryz.func18, Tryz.ntmps18
    go_wp2
    go_quiet (fail)
    go_wp2;go_ret;exact ⟨_, rfl, ⟨fun h => by omega, fun h => ⟨Int.emod_nonneg _ (by omega), Int.emod_lt_of_pos _ (by omega)⟩⟩, kZ0.drewN _⟩
   ·go_enter Tryz.func18, Tryz.ntmps18
    go_wp2
    go_quiet (fail)
    go_wp2;go_ret;exact ⟨_, rfl, ⟨fun h => by omega, fun h => ⟨Int.emod_nonneg _ (by omega), Int.emod_lt_of_pos _ (by omega)⟩⟩, kZ0.drewN _⟩
end Go.Proofs.YtapdfgkbhaoelaaGreatDoor
