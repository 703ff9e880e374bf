import Derived.Test.YtnkollbhicmdhaaDoorG04
import Derived.Test.YtnkollbhicmdhaaDoorG00
import Derived.Test.YtnkollbhicmdhaaDoorProg
import Derived.Test.YtnkollbhicmdhaaDoorG01
import Derived.Deep.RegionWith
import Derived.Deep.DeepMust
import Derived.WalkLawsBesides
import Derived.Deep.QuietTactic
import Derived.BigQuiet
import Derived.Deep.LoopGhost
namespace Go.Proofs.YtnkollbhicmdhaaDoor
set_option maxRecDepth 100000
set_option maxHeartbeats 8000000
set_option linter.unusedVariables false
set_option linter.unusedSimpArgs false
open Go.RowKit
structure Errs5 (w : World) (a0 a1 a2 a3 a4 : Addr) : Prop where
 errs : Errs w a0 a1 a2
 c3 : w.cell? ⟨3, 0, none⟩ = some (.iface 179 (.pointer (some a3)))
 c4 : w.cell? ⟨4, 0, none⟩ = some (.iface 179 (.pointer (some a4)))
theorem Errs5.same {w w' : World} {a0 a1 a2 a3 a4 : Addr} (h : Errs5 w a0 a1 a2 a3 a4) (hk : Same w w') : Errs5 w' a0 a1 a2 a3 a4 := ⟨h.errs.same hk, hk.cellOf h.c3 id, hk.cellOf h.c4 id⟩
theorem cell_lt {w : World} {p : Addr} {v : Value} (h : w.cell? p = some v) : p.block < w.heap.size := World.block_lt_of_cell? _ _ h
theorem run_arrayS (w : World) (ad : Option Addr) (c : Nat) : (Instr.arrayAt 94 (.slice ad 512 c)).run Tryd.prog w = .ok (.pointer ad) w := by
 simp [Instr.arrayAt, run_underlying Tryd.underlying94]
theorem run_neq_secs (w : World) (xs ys : List Int) (hx : xs.length = 512) (hy : ys.length = 512) : (binOp .neq 94 (.agg (vals .u8 xs).toArray) (.agg (vals .u8 ys).toArray)).run Tryd.prog w = .ok (.bool (xs != ys)) w := by
 rw [run_neq_struct, run_equalIn_ints w 9998 94 5 512 Tryd.underlying94 Tryd.underlying5 size_byte xs ys hx hy]
 rfl
def ReadR (bs : List Int) (v : Value) : Prop :=
 (mGood bs = true ∧ v = .tuple #[.agg #[.int .i64 (mS bs), .int .i64 (mE bs), .int .i64 (mC bs), .int .i64 (mL bs)], .nilIface]) ∨ (mGood bs = false ∧ ∃ a : Addr, v = .tuple #[.agg #[.int .i64 0, .int .i64 0, .int .i64 0, .int .i64 0], .iface 179 (.pointer (some a))])
theorem getAt {w : World} {b off c : Nat} {bs : List Int} (hB : IsB bs) (hl : bs.length = 512) (hv : Rd .u8 w (.slice (some ⟨b, off, none⟩) bs.length c) bs) (x y : Nat) (hxy : x + y ≤ 512) (hc : c ≠ x) (wx : World) (hk : Same w wx) :
  Calls Tryd.prog 77 #[.slice (some ⟨b, off + x, none⟩) y (c - x)] wx fun e w' => e = .returned (.int .i64 (getN (takeB bs x y))) ∧ Same wx w' := by
 have h := hv.cut x y (by omega)
 rw [if_neg hc] at h
 have h2 := implGet_any _ _ wx (isB_take (isB_drop hB x) y) (by simp; omega) (h.same hk)
 rw [takeB_in bs x y (by omega)]
 exact h2
theorem mGood_len {bs : List Int} (h : bs.length ≠ 512) : mGood bs = false := by
 unfold mGood
 simp only [Bool.and_eq_false_iff, decide_eq_false_iff_not]
 by_cases hf : mF (mS bs) (mE bs) (mC bs) (mL bs) = 0
 ·refine .inr fun he => h ?_
  rw [← he, encM_yes hf, mB_length]
 ·exact .inl hf
structure RdS (w wx : World) : Prop where
 res : Blk wx w.heap.size 28 [.int .i64 0, .int .i64 0, .int .i64 0, .int .i64 0]
 same : Same w wx
theorem RdS.on {w wx wy : World} (h : RdS w wx) (hk : Same wx wy) : RdS w wy := ⟨h.res.same hk, h.same.trans hk⟩
theorem readMaster_any (v : Value) (bs : List Int) (a0 a1 a2 a3 a4 : Addr) (w : World) (hE : Errs5 w a0 a1 a2 a3 a4) (hB : IsB bs) (hv : Rd .u8 w v bs) :
  Calls Tryd.prog 54 #[v] w fun ex w' => (∃ u, ex = .returned u ∧ ReadR bs u) ∧ Same w w' := by
 have HE := (show Hid (Errs5 w a0 a1 a2 a3 a4) from hE)
 have hlt3 := cell_lt hE.c3
 have hlt4 := cell_lt hE.c4
 dsimp only at hlt3 hlt4
 clear hE
 obtain ⟨a, c, rfl⟩ := hv.form
 have hm := hv.1
 unfold maxLen at hm
 have HV := (show Hid (Rd .u8 w (.slice a bs.length c) bs) from hv)
 clear hv
 have HS0 := (show Hid (RdS w (w.alloc (.cells #[.int .i64 0, .int .i64 0, .int .i64 0, .int .i64 0] 28))) from ⟨Blk.new w _ _, (Kept.refl _ _).alloc _⟩)
 by_cases hl : bs.length = 512
 ·obtain ⟨b, off, rfl, hle⟩ := rd_some HV.out (by omega)
  rw [hl] at hle
  have hl' : (bs.length : Int) = 512 := by omega
  have q4 := fun wx hk => getAt hB hl HV.out 4 8 (by decide) (by omega) wx hk
  have q12 := fun wx hk => getAt hB hl HV.out 12 4 (by decide) (by omega) wx hk
  have q16 := fun wx hk => getAt hB hl HV.out 16 8 (by decide) (by omega) wx hk
  have q24 := fun wx hk => getAt hB hl HV.out 24 8 (by decide) (by omega) wx hk
  have p12 : (12 : Int) ≤ (c : Int) := by omega
  have p16 : (16 : Int) ≤ (c : Int) := by omega
  have p24 : (24 : Int) ≤ (c : Int) := by omega
  have p32 : (32 : Int) ≤ (c : Int) := by omega
  have n4 : ¬ c = 4 := by omega
  have n12 : ¬ c = 12 := by omega
  have n16 : ¬ c = 16 := by omega
  have n24 : ¬ c = 24 := by omega
  have HRG := (show Hid (w.rangeAt b off (vals .u8 bs)) from rd_range HV.out (by omega))
  have HL := (show Hid (bs.length = 512) from hl)
  rw [hl] at HV
  clear hl'
  go_enter Tryd.func54, Tryd.ntmps54
  rw [hl]
  clear hl hm
  go_wp2_with fail
  refine Code.wp_mono (Q := fun ex a' wx => match ex with | .normal => ∃ B : Nat, w.heap.size < B ∧ RdS w wx ∧ Blk wx B 28 [.int .i64 (mS bs), .int .i64 (mE bs), .int .i64 (mC bs), .int .i64 (mL bs)] ∧ a' = { tmps := #[.slice (some ⟨b, off, none⟩) 512 c, undef, .pointer (some ⟨w.heap.size, 0, none⟩), .nilIface, .pointer (some ⟨B, 0, none⟩), undef, .slice (some ⟨b, off, none⟩) 512 c, .int .i64 512, .bool false, undef, undef, .slice (some ⟨b, off, none⟩) 512 c, .slice (some ⟨b, off + 4, none⟩) 8 (c - 4), .int .i64 (mS bs), .slice (some ⟨b, off, none⟩) 512 c, .slice (some ⟨b, off + 12, none⟩) 4 (c - 12), .int .i64 (mE bs), .slice (some ⟨b, off, none⟩) 512 c, .slice (some ⟨b, off + 16, none⟩) 8 (c - 16), .int .i64 (mC bs), .slice (some ⟨b, off, none⟩) 512 c, .slice (some ⟨b, off + 24, none⟩) 8 (c - 24), .int .i64 (mL bs), .agg #[.int .i64 (mS bs), .int .i64 (mE bs), .int .i64 (mC bs), .int .i64 (mL bs)], undef, undef, undef, undef, undef, undef, undef, undef, undef, undef, undef, undef, undef, undef, undef], defers := [] } | _ => False) ?_ ?_
  ·intro ex a' wx h
   cases ex with
   | normal =>
    obtain ⟨B, hB0, hS, hM, rfl⟩ := h
    dsimp only
    clear q4 q12 q16 q24 n4 n12 n16 n24 p12 p16 p24 p32 HS0
    have HSx := (show Hid (RdS w wx) from hS)
    obtain ⟨m0, m1, m2, m3⟩ := hM.all4
    have HMx := (show Hid (Blk wx B 28 [.int .i64 (mS bs), .int .i64 (mE bs), .int .i64 (mC bs), .int .i64 (mL bs)]) from hM)
    clear hS hM
    have HG := (show Hid (mGood bs = (decide (mF (mS bs) (mE bs) (mC bs) (mL bs) = 0) && decide (encM (mS bs) (mE bs) (mC bs) (mL bs) = bs))) from rfl)
    have k1 := wrongMaster_any (mS bs) (mE bs) (mC bs) (mL bs) a0 a1 a2 wx (HE.out.same HSx.out.same).errs
    by_cases hf : mF (mS bs) (mE bs) (mC bs) (mL bs) = 0
    ·have k2 := fun wy => masterSector_any (mS bs) (mE bs) (mC bs) (mL bs) wy hf
     have HEM := (show Hid (encM (mS bs) (mE bs) (mC bs) (mL bs) = mB (mS bs) (mE bs) (mC bs) (mL bs)) from encM_yes hf)
     rw [hf, show errV a0 a1 a2 0 = .nilIface from rfl] at k1
     have HF := (show Hid (mF (mS bs) (mE bs) (mC bs) (mL bs) = 0) from hf)
     clear hf
     have hne := fun wy => run_neq_secs wy (mB (mS bs) (mE bs) (mC bs) (mL bs)) bs (mB_length _ _ _ _) HL.out
     have hI : (Tryd.prog.info? 94).map (·.size) = some (vals .u8 bs).length := by rw [vals_length, HL.out]; exact sec_info
     obtain ⟨el, hel⟩ : ∃ el : Array Value, (vals .u8 (mB (mS bs) (mE bs) (mC bs) (mL bs))).toArray = el := ⟨_, rfl⟩
     obtain ⟨rl, hrl⟩ : ∃ rl : List Value, vals .u8 bs = rl := ⟨_, rfl⟩
     rw [hel] at k2 hne
     rw [hrl] at hne hI HRG
     clear hel hrl
     go_wp2_with (go_at_call 58; (with_reducible refine k1.mono ?_); rintro ex w1 ⟨rfl, hk⟩; have HS1 := (show Hid (RdS w w1) from HSx.out.on hk); have HM1 := (show Hid (Blk w1 B 28 [.int .i64 (mS bs), .int .i64 (mE bs), .int .i64 (mC bs), .int .i64 (mL bs)]) from HMx.out.same hk); clear hk HSx HMx m0 m1 m2 m3 k1)
     have hSx : ∀ wy, Same w1 wy → (fun wz : World => (wz.cell? ⟨B, 0, none⟩ = some (.int .i64 (mS bs)) ∧ wz.cell? ⟨B, 1, none⟩ = some (.int .i64 (mE bs)) ∧ wz.cell? ⟨B, 2, none⟩ = some (.int .i64 (mC bs)) ∧ wz.cell? ⟨B, 3, none⟩ = some (.int .i64 (mL bs))) ∧ wz.rangeAt b off rl) wy := fun wy hk => ⟨(HM1.out.same hk).all4, Kept.ranges (HS1.out.same.trans hk) HRG.out⟩
     have hS := hSx _ (Kept.refl _ _).drew
     refine wp_region_V (fun wz : World => (wz.cell? ⟨B, 0, none⟩ = some (.int .i64 (mS bs)) ∧ wz.cell? ⟨B, 1, none⟩ = some (.int .i64 (mE bs)) ∧ wz.cell? ⟨B, 2, none⟩ = some (.int .i64 (mC bs)) ∧ wz.cell? ⟨B, 3, none⟩ = some (.int .i64 (mL bs))) ∧ wz.rangeAt b off rl) 99 6 rfl (by kernel_rfl) ?_
     refine tk 0 30 hS ?_
     refine tk 2 32 hS ?_
     have hap := fun wy => run_arrayS wy (some ⟨b, off, none⟩) c
     refine tk 3 33 hS ?_
     refine wpAnyV_take (i := 4) (v := .agg rl.toArray) (some 34) rfl rfl (by kernel_rfl) (by kernel_rfl) (by kernel_rfl) (by kernel_rfl) (fun _ _ _ h => h) (yieldsIf_load_mid (by rfl) 94 _ rfl b off rfl rl _ (fun _ h => h.2) Tryd.underlying94 rfl hI) hS ?_
     try simp only [Act.put, sA, s0, sS]
     refine wpAnyV_one (i := 1) (by kernel_rfl) rfl (fun K hK => ?_)
     go_simp
     with_reducible refine (k2 _).mono ?_
     rintro ex w2 ⟨rfl, hk⟩
     have hS := hSx _ ((Kept.refl _ _).drew.trans hk)
     have HS2 := (show Hid (RdS w w2) from HS1.out.on ((Kept.refl _ _).drew.trans hk))
     have HM2 := (show Hid (Blk w2 B 28 [.int .i64 (mS bs), .int .i64 (mE bs), .int .i64 (mC bs), .int .i64 (mL bs)]) from HM1.out.same ((Kept.refl _ _).drew.trans hk))
     clear hk hSx HS1 HM1
     refine hK.out _ _ (fun _ => hS) ?_
     clear hK K
     try simp only [Act.put, sA, s0, sS]
     refine tk 5 35 hS ?_
     refine wpAnyV_done (by kernel_rfl) ?_
     try simp only [Act.put, sA, s0, sS]
     clear hS hne k2 hap
     obtain ⟨m0, m1, m2, m3⟩ := HM2.out.all4
     obtain ⟨r0, r1, r2, r3⟩ := HS2.out.res.all4
     have fr := HS2.out.res.frozen
     by_cases hq : mB (mS bs) (mE bs) (mC bs) (mL bs) = bs
     ·rw [show (mB (mS bs) (mE bs) (mC bs) (mL bs) != bs) = false from by simp [hq]]
      have hG : mGood bs = true := by rw [HG.out]; simp [HF.out, HEM.out, hq]
      have hkz : Same w ((((w2.setCell ⟨w.heap.size, 0, none⟩ (.int .i64 (mS bs))).setCell ⟨w.heap.size, 1, none⟩ (.int .i64 (mE bs))).setCell ⟨w.heap.size, 2, none⟩ (.int .i64 (mC bs))).setCell ⟨w.heap.size, 3, none⟩ (.int .i64 (mL bs))) := by
       (iterate 4 refine Kept.setCell ?_ (.inl (Nat.le_refl _)) _)
       exact HS2.out.same
      have HKZ := (show Hid (Same w _) from hkz)
      clear hkz hq HG HEM HF
      go_wp2
      refine bodyPost_ret (v := .tuple #[.agg #[.int .i64 (mS bs), .int .i64 (mE bs), .int .i64 (mC bs), .int .i64 (mL bs)], .nilIface]) (by simp [results, Tryd.results54, go_sem, r0, r1, r2, r3]) rfl ⟨⟨_, rfl, .inl ⟨hG, rfl⟩⟩, HKZ.out⟩
     ·rw [show (mB (mS bs) (mE bs) (mC bs) (mL bs) != bs) = true from by simp [hq]]
      have hG : mGood bs = false := by rw [HG.out]; simp [HEM.out, hq]
      clear hq HG HEM HF m0 m1 m2 m3
      go_wp2_with fail
      have hS : (fun wx : World => wx.cell? ⟨4, 0, none⟩ = some (.iface 179 (.pointer (some a4)))) w2.drew := (HE.out.same HS2.out.same.drew).c4
      refine wp_region_V (fun wx : World => wx.cell? ⟨4, 0, none⟩ = some (.iface 179 (.pointer (some a4)))) 99 4 rfl (by kernel_rfl) ?_
      refine tk 0 36 hS ?_
      refine tk 1 37 hS ?_
      refine wpAnyV_one (i := 2) (by kernel_rfl) rfl (fun K hK => ?_)
      go_simp
      have hkz : Same w ((((w2.setCell ⟨w.heap.size, 0, none⟩ (.int .i64 0)).setCell ⟨w.heap.size, 1, none⟩ (.int .i64 0)).setCell ⟨w.heap.size, 2, none⟩ (.int .i64 0)).setCell ⟨w.heap.size, 3, none⟩ (.int .i64 0)) := by
       (iterate 4 refine Kept.setCell ?_ (.inl (Nat.le_refl _)) _)
       exact HS2.out.same
      have hS : (fun wx : World => wx.cell? ⟨4, 0, none⟩ = some (.iface 179 (.pointer (some a4)))) ((((w2.setCell ⟨w.heap.size, 0, none⟩ (.int .i64 0)).setCell ⟨w.heap.size, 1, none⟩ (.int .i64 0)).setCell ⟨w.heap.size, 2, none⟩ (.int .i64 0)).setCell ⟨w.heap.size, 3, none⟩ (.int .i64 0)).drew := (HE.out.same hkz.drew).c4
      refine hK.out _ _ (fun _ => hS) ?_
      clear hK K
      try simp only [Act.put, sA, s0, sS]
      refine wpAnyV_one (i := 3) (by kernel_rfl) rfl (fun K hK => ?_)
      go_simp
      refine hK.out _ _ (fun _ => hS) ?_
      clear hK K
      refine wpAnyV_done (by kernel_rfl) ?_
      try simp only [Act.put, sA, s0, sS]
      have HKZ := hid (hkz.drew)
      clear hkz hS
      go_wp2
      refine bodyPost_ret (v := .tuple #[.agg #[.int .i64 0, .int .i64 0, .int .i64 0, .int .i64 0], .iface 179 (.pointer (some a4))]) (by simp [results, Tryd.results54, go_sem, r0, r1, r2, r3]) rfl ⟨⟨_, rfl, .inr ⟨hG, a4, rfl⟩⟩, HKZ.out⟩
    ·have hG : mGood bs = false := by rw [HG.out]; simp [hf]
     obtain ⟨ae, hae⟩ := errV_no (a0 := a0) (a1 := a1) (a2 := a2) hf
     rw [hae] at k1
     clear hf HG
     go_wp2_with (go_at_call 58; (with_reducible refine k1.mono ?_); rintro ex w1 ⟨rfl, hk⟩; have HS1 := (show Hid (RdS w w1) from HSx.out.on hk); obtain ⟨r0, r1, r2, r3⟩ := HS1.out.res.all4; have fr := HS1.out.res.frozen; clear hk HSx HMx m0 m1 m2 m3 k1)
     have hkz : Same w ((((w1.setCell ⟨w.heap.size, 0, none⟩ (.int .i64 0)).setCell ⟨w.heap.size, 1, none⟩ (.int .i64 0)).setCell ⟨w.heap.size, 2, none⟩ (.int .i64 0)).setCell ⟨w.heap.size, 3, none⟩ (.int .i64 0)) := by
      (iterate 4 refine Kept.setCell ?_ (.inl (Nat.le_refl _)) _)
      exact HS1.out.same
     refine bodyPost_ret (v := .tuple #[.agg #[.int .i64 0, .int .i64 0, .int .i64 0, .int .i64 0], .iface 179 (.pointer (some ae))]) (by simp [results, Tryd.results54, go_sem, r0, r1, r2, r3]) rfl ⟨⟨_, rfl, .inr ⟨hG, ae, rfl⟩⟩, hkz⟩
   | _ => exact absurd h id
  ·refine wp_region_V (fun _ : World => True) 99 15 rfl (by kernel_rfl) ?_
   have HS1 := (show Hid (RdS w (w.alloc (.cells #[.int .i64 0, .int .i64 0, .int .i64 0, .int .i64 0] 28)).drew) from HS0.out.on (Kept.refl _ _).drew)
   obtain ⟨w1, hw1⟩ : ∃ w1, (w.alloc (.cells #[.int .i64 0, .int .i64 0, .int .i64 0, .int .i64 0] 28)).drew = w1 := ⟨_, rfl⟩
   rw [hw1] at HS1 ⊢
   clear hw1 HS0
   have hS : (fun _ : World => True) w1 := trivial
   refine tk 0 11 hS ?_
   refine tk 1 12 hS ?_
   refine tk 3 14 hS ?_
   refine tk 4 15 hS ?_
   refine tk 6 17 hS ?_
   refine tk 7 18 hS ?_
   refine tk 9 20 hS ?_
   refine tk 10 21 hS ?_
   clear hS
   refine wpAnyV_two (i := 2) (j := 13) (by kernel_rfl) rfl rfl (fun K hK => ?_) (fun K hK => ?_)
   ·go_simp
    with_reducible refine (q4 _ HS1.out.same).mono ?_
    rintro ex w2 ⟨rfl, hk⟩
    rw [show getN (takeB bs 4 8) = mS bs from rfl]
    have HS2 := (show Hid (RdS w w2) from HS1.out.on hk)
    clear hk HS1
    refine hK.out _ _ (fun _ => trivial) ?_
    clear hK K
    try simp only [Act.put, sA, s0, sS]
    refine wpAnyV_two (i := 5) (j := 13) (by kernel_rfl) rfl rfl (fun K hK => ?_) (fun K hK => ?_)
    ·go_simp
     with_reducible refine (q12 _ HS2.out.same).mono ?_
     rintro ex w3 ⟨rfl, hk⟩
     rw [show getN (takeB bs 12 4) = mE bs from rfl]
     have HS3 := (show Hid (RdS w w3) from HS2.out.on hk)
     clear hk HS2
     refine hK.out _ _ (fun _ => trivial) ?_
     clear hK K
     try simp only [Act.put, sA, s0, sS]
     refine wpAnyV_two (i := 8) (j := 13) (by kernel_rfl) rfl rfl (fun K hK => ?_) (fun K hK => ?_)
     ·go_simp
      with_reducible refine (q16 _ HS3.out.same).mono ?_
      rintro ex w4 ⟨rfl, hk⟩
      rw [show getN (takeB bs 16 8) = mC bs from rfl]
      have HS4 := (show Hid (RdS w w4) from HS3.out.on hk)
      clear hk HS3
      refine hK.out _ _ (fun _ => trivial) ?_
      clear hK K
      try simp only [Act.put, sA, s0, sS]
      refine wpAnyV_two (i := 11) (j := 13) (by kernel_rfl) rfl rfl (fun K hK => ?_) (fun K hK => ?_)
      ·go_simp
       with_reducible refine (q24 _ HS4.out.same).mono ?_
       rintro ex w5 ⟨rfl, hk⟩
       rw [show getN (takeB bs 24 8) = mL bs from rfl]
       have HS5 := (show Hid (RdS w w5) from HS4.out.on hk)
       clear hk HS4
       refine hK.out _ _ (fun _ => trivial) ?_
       clear hK K
       try simp only [Act.put, sA, s0, sS]
       refine tk 12 23 (S := fun _ : World => True) trivial ?_
       refine wpAnyV_one (i := 13) (by kernel_rfl) rfl (fun K hK => ?_)
       go_simp
       have hz := HS5.out.res.lt
       have HM6 := (show Hid (Blk (w5.alloc (.cells #[.int .i64 0, .int .i64 0, .int .i64 0, .int .i64 0] 28)) w5.heap.size 28 [.int .i64 0, .int .i64 0, .int .i64 0, .int .i64 0]) from Blk.new w5 _ _)
       have HS6 := (show Hid (RdS w (w5.alloc (.cells #[.int .i64 0, .int .i64 0, .int .i64 0, .int .i64 0] 28))) from HS5.out.on ((Kept.refl _ _).alloc _))
       have HZ6 := (show Hid (w.heap.size < w5.heap.size) from hz)
       obtain ⟨w6, hw6⟩ : ∃ wy, w5.alloc (.cells #[.int .i64 0, .int .i64 0, .int .i64 0, .int .i64 0] 28) = wy := ⟨_, rfl⟩
       rw [hw6] at HM6 HS6
       rw [hw6]
       clear hw6 hz HS5
       refine hK.out _ _ (fun _ => trivial) ?_
       clear hK K
       try simp only [Act.put, sA, s0, sS]
       refine wpAnyV_one (i := 14) (by kernel_rfl) rfl (fun K hK => ?_)
       have hM := HM6.out
       obtain ⟨m0, m1, m2, m3⟩ := hM.all4
       have fm := hM.frozen
       go_simp
       refine hK.out _ _ (fun _ => trivial) ?_
       clear hK K
       refine wpAnyV_done (by kernel_rfl) ?_
       try simp only [Act.put, sA, s0, sS]
       have hks : Kept (fun b => b = w5.heap.size) w6 ((((w6.setCell ⟨w5.heap.size, 0, none⟩ (.int .i64 (mS bs))).setCell ⟨w5.heap.size, 1, none⟩ (.int .i64 (mE bs))).setCell ⟨w5.heap.size, 2, none⟩ (.int .i64 (mC bs))).setCell ⟨w5.heap.size, 3, none⟩ (.int .i64 (mL bs))) := by
        (iterate 4 refine Kept.setCell (R := fun b => b = w5.heap.size) ?_ (.inr rfl) _)
        exact Kept.refl _ _
       have hM4 := (((hM.stored 0 (.int .i64 (mS bs))).stored 1 (.int .i64 (mE bs))).stored 2 (.int .i64 (mC bs))).stored 3 (.int .i64 (mL bs))
       have hz := HZ6.out
       exact ⟨w5.heap.size, hz, ⟨HS6.out.res.kept hks (by omega), HS6.out.same.next hks (fun b hb e => by omega)⟩, hM4, rfl⟩
      ·go_simp
       have hz := HS4.out.res.lt
       have HM7 := (show Hid (Blk (w4.alloc (.cells #[.int .i64 0, .int .i64 0, .int .i64 0, .int .i64 0] 28)) w4.heap.size 28 [.int .i64 0, .int .i64 0, .int .i64 0, .int .i64 0]) from Blk.new w4 _ _)
       have HS7 := (show Hid (RdS w (w4.alloc (.cells #[.int .i64 0, .int .i64 0, .int .i64 0, .int .i64 0] 28))) from HS4.out.on ((Kept.refl _ _).alloc _))
       have HZ7 := (show Hid (w.heap.size < w4.heap.size) from hz)
       obtain ⟨w7, hw7⟩ : ∃ wy, w4.alloc (.cells #[.int .i64 0, .int .i64 0, .int .i64 0, .int .i64 0] 28) = wy := ⟨_, rfl⟩
       rw [hw7] at HM7 HS7
       rw [hw7]
       clear hw7 hz HS4
       refine hK.out _ _ (fun _ => trivial) ?_
       clear hK K
       try simp only [Act.put, sA, s0, sS]
       refine wpAnyV_one (i := 11) (by kernel_rfl) rfl (fun K hK => ?_)
       go_simp
       with_reducible refine (q24 _ HS7.out.same).mono ?_
       rintro ex w8 ⟨rfl, hk⟩
       rw [show getN (takeB bs 24 8) = mL bs from rfl]
       have HS8 := (show Hid (RdS w w8) from HS7.out.on hk)
       have HM8 := hid (HM7.out.same hk)
       have HZ8 := HZ7
       clear hk HS7 HM7 HZ7
       refine hK.out _ _ (fun _ => trivial) ?_
       clear hK K
       try simp only [Act.put, sA, s0, sS]
       refine tk 12 23 (S := fun _ : World => True) trivial ?_
       refine wpAnyV_one (i := 14) (by kernel_rfl) rfl (fun K hK => ?_)
       have hM := HM8.out
       obtain ⟨m0, m1, m2, m3⟩ := hM.all4
       have fm := hM.frozen
       go_simp
       refine hK.out _ _ (fun _ => trivial) ?_
       clear hK K
       refine wpAnyV_done (by kernel_rfl) ?_
       try simp only [Act.put, sA, s0, sS]
       have hks : Kept (fun b => b = w4.heap.size) w8 ((((w8.setCell ⟨w4.heap.size, 0, none⟩ (.int .i64 (mS bs))).setCell ⟨w4.heap.size, 1, none⟩ (.int .i64 (mE bs))).setCell ⟨w4.heap.size, 2, none⟩ (.int .i64 (mC bs))).setCell ⟨w4.heap.size, 3, none⟩ (.int .i64 (mL bs))) := by
        (iterate 4 refine Kept.setCell (R := fun b => b = w4.heap.size) ?_ (.inr rfl) _)
        exact Kept.refl _ _
       have hM4 := (((hM.stored 0 (.int .i64 (mS bs))).stored 1 (.int .i64 (mE bs))).stored 2 (.int .i64 (mC bs))).stored 3 (.int .i64 (mL bs))
       have hz := HZ8.out
       exact ⟨w4.heap.size, hz, ⟨HS8.out.res.kept hks (by omega), HS8.out.same.next hks (fun b hb e => by omega)⟩, hM4, rfl⟩
     ·go_simp
      have hz := HS3.out.res.lt
      have HM9 := (show Hid (Blk (w3.alloc (.cells #[.int .i64 0, .int .i64 0, .int .i64 0, .int .i64 0] 28)) w3.heap.size 28 [.int .i64 0, .int .i64 0, .int .i64 0, .int .i64 0]) from Blk.new w3 _ _)
      have HS9 := (show Hid (RdS w (w3.alloc (.cells #[.int .i64 0, .int .i64 0, .int .i64 0, .int .i64 0] 28))) from HS3.out.on ((Kept.refl _ _).alloc _))
      have HZ9 := (show Hid (w.heap.size < w3.heap.size) from hz)
      obtain ⟨w9, hw9⟩ : ∃ wy, w3.alloc (.cells #[.int .i64 0, .int .i64 0, .int .i64 0, .int .i64 0] 28) = wy := ⟨_, rfl⟩
      rw [hw9] at HM9 HS9
      rw [hw9]
      clear hw9 hz HS3
      refine hK.out _ _ (fun _ => trivial) ?_
      clear hK K
      try simp only [Act.put, sA, s0, sS]
      refine wpAnyV_one (i := 8) (by kernel_rfl) rfl (fun K hK => ?_)
      go_simp
      with_reducible refine (q16 _ HS9.out.same).mono ?_
      rintro ex w10 ⟨rfl, hk⟩
      rw [show getN (takeB bs 16 8) = mC bs from rfl]
      have HS10 := (show Hid (RdS w w10) from HS9.out.on hk)
      have HM10 := hid (HM9.out.same hk)
      have HZ10 := HZ9
      clear hk HS9 HM9 HZ9
      refine hK.out _ _ (fun _ => trivial) ?_
      clear hK K
      try simp only [Act.put, sA, s0, sS]
      refine wpAnyV_one (i := 11) (by kernel_rfl) rfl (fun K hK => ?_)
      go_simp
      with_reducible refine (q24 _ HS10.out.same).mono ?_
      rintro ex w11 ⟨rfl, hk⟩
      rw [show getN (takeB bs 24 8) = mL bs from rfl]
      have HS11 := (show Hid (RdS w w11) from HS10.out.on hk)
      have HM11 := hid (HM10.out.same hk)
      have HZ11 := HZ10
      clear hk HS10 HM10 HZ10
      refine hK.out _ _ (fun _ => trivial) ?_
      clear hK K
      try simp only [Act.put, sA, s0, sS]
      refine tk 12 23 (S := fun _ : World => True) trivial ?_
      refine wpAnyV_one (i := 14) (by kernel_rfl) rfl (fun K hK => ?_)
      have hM := HM11.out
      obtain ⟨m0, m1, m2, m3⟩ := hM.all4
      have fm := hM.frozen
      go_simp
      refine hK.out _ _ (fun _ => trivial) ?_
      clear hK K
      refine wpAnyV_done (by kernel_rfl) ?_
      try simp only [Act.put, sA, s0, sS]
      have hks : Kept (fun b => b = w3.heap.size) w11 ((((w11.setCell ⟨w3.heap.size, 0, none⟩ (.int .i64 (mS bs))).setCell ⟨w3.heap.size, 1, none⟩ (.int .i64 (mE bs))).setCell ⟨w3.heap.size, 2, none⟩ (.int .i64 (mC bs))).setCell ⟨w3.heap.size, 3, none⟩ (.int .i64 (mL bs))) := by
       (iterate 4 refine Kept.setCell (R := fun b => b = w3.heap.size) ?_ (.inr rfl) _)
       exact Kept.refl _ _
      have hM4 := (((hM.stored 0 (.int .i64 (mS bs))).stored 1 (.int .i64 (mE bs))).stored 2 (.int .i64 (mC bs))).stored 3 (.int .i64 (mL bs))
      have hz := HZ11.out
      exact ⟨w3.heap.size, hz, ⟨HS11.out.res.kept hks (by omega), HS11.out.same.next hks (fun b hb e => by omega)⟩, hM4, rfl⟩
    ·go_simp
     have hz := HS2.out.res.lt
     have HM12 := (show Hid (Blk (w2.alloc (.cells #[.int .i64 0, .int .i64 0, .int .i64 0, .int .i64 0] 28)) w2.heap.size 28 [.int .i64 0, .int .i64 0, .int .i64 0, .int .i64 0]) from Blk.new w2 _ _)
     have HS12 := (show Hid (RdS w (w2.alloc (.cells #[.int .i64 0, .int .i64 0, .int .i64 0, .int .i64 0] 28))) from HS2.out.on ((Kept.refl _ _).alloc _))
     have HZ12 := (show Hid (w.heap.size < w2.heap.size) from hz)
     obtain ⟨w12, hw12⟩ : ∃ wy, w2.alloc (.cells #[.int .i64 0, .int .i64 0, .int .i64 0, .int .i64 0] 28) = wy := ⟨_, rfl⟩
     rw [hw12] at HM12 HS12
     rw [hw12]
     clear hw12 hz HS2
     refine hK.out _ _ (fun _ => trivial) ?_
     clear hK K
     try simp only [Act.put, sA, s0, sS]
     refine wpAnyV_one (i := 5) (by kernel_rfl) rfl (fun K hK => ?_)
     go_simp
     with_reducible refine (q12 _ HS12.out.same).mono ?_
     rintro ex w13 ⟨rfl, hk⟩
     rw [show getN (takeB bs 12 4) = mE bs from rfl]
     have HS13 := (show Hid (RdS w w13) from HS12.out.on hk)
     have HM13 := hid (HM12.out.same hk)
     have HZ13 := HZ12
     clear hk HS12 HM12 HZ12
     refine hK.out _ _ (fun _ => trivial) ?_
     clear hK K
     try simp only [Act.put, sA, s0, sS]
     refine wpAnyV_one (i := 8) (by kernel_rfl) rfl (fun K hK => ?_)
     go_simp
     with_reducible refine (q16 _ HS13.out.same).mono ?_
     rintro ex w14 ⟨rfl, hk⟩
     rw [show getN (takeB bs 16 8) = mC bs from rfl]
     have HS14 := (show Hid (RdS w w14) from HS13.out.on hk)
     have HM14 := hid (HM13.out.same hk)
     have HZ14 := HZ13
     clear hk HS13 HM13 HZ13
     refine hK.out _ _ (fun _ => trivial) ?_
     clear hK K
     try simp only [Act.put, sA, s0, sS]
     refine wpAnyV_one (i := 11) (by kernel_rfl) rfl (fun K hK => ?_)
     go_simp
     with_reducible refine (q24 _ HS14.out.same).mono ?_
     rintro ex w15 ⟨rfl, hk⟩
     rw [show getN (takeB bs 24 8) = mL bs from rfl]
     have HS15 := (show Hid (RdS w w15) from HS14.out.on hk)
     have HM15 := hid (HM14.out.same hk)
     have HZ15 := HZ14
     clear hk HS14 HM14 HZ14
     refine hK.out _ _ (fun _ => trivial) ?_
     clear hK K
     try simp only [Act.put, sA, s0, sS]
     refine tk 12 23 (S := fun _ : World => True) trivial ?_
     refine wpAnyV_one (i := 14) (by kernel_rfl) rfl (fun K hK => ?_)
     have hM := HM15.out
     obtain ⟨m0, m1, m2, m3⟩ := hM.all4
     have fm := hM.frozen
     go_simp
     refine hK.out _ _ (fun _ => trivial) ?_
     clear hK K
     refine wpAnyV_done (by kernel_rfl) ?_
     try simp only [Act.put, sA, s0, sS]
     have hks : Kept (fun b => b = w2.heap.size) w15 ((((w15.setCell ⟨w2.heap.size, 0, none⟩ (.int .i64 (mS bs))).setCell ⟨w2.heap.size, 1, none⟩ (.int .i64 (mE bs))).setCell ⟨w2.heap.size, 2, none⟩ (.int .i64 (mC bs))).setCell ⟨w2.heap.size, 3, none⟩ (.int .i64 (mL bs))) := by
      (iterate 4 refine Kept.setCell (R := fun b => b = w2.heap.size) ?_ (.inr rfl) _)
      exact Kept.refl _ _
     have hM4 := (((hM.stored 0 (.int .i64 (mS bs))).stored 1 (.int .i64 (mE bs))).stored 2 (.int .i64 (mC bs))).stored 3 (.int .i64 (mL bs))
     have hz := HZ15.out
     exact ⟨w2.heap.size, hz, ⟨HS15.out.res.kept hks (by omega), HS15.out.same.next hks (fun b hb e => by omega)⟩, hM4, rfl⟩
   ·go_simp
    have hz := HS1.out.res.lt
    have HM16 := (show Hid (Blk (w1.alloc (.cells #[.int .i64 0, .int .i64 0, .int .i64 0, .int .i64 0] 28)) w1.heap.size 28 [.int .i64 0, .int .i64 0, .int .i64 0, .int .i64 0]) from Blk.new w1 _ _)
    have HS16 := (show Hid (RdS w (w1.alloc (.cells #[.int .i64 0, .int .i64 0, .int .i64 0, .int .i64 0] 28))) from HS1.out.on ((Kept.refl _ _).alloc _))
    have HZ16 := (show Hid (w.heap.size < w1.heap.size) from hz)
    obtain ⟨w16, hw16⟩ : ∃ wy, w1.alloc (.cells #[.int .i64 0, .int .i64 0, .int .i64 0, .int .i64 0] 28) = wy := ⟨_, rfl⟩
    rw [hw16] at HM16 HS16
    rw [hw16]
    clear hw16 hz HS1
    refine hK.out _ _ (fun _ => trivial) ?_
    clear hK K
    try simp only [Act.put, sA, s0, sS]
    refine wpAnyV_one (i := 2) (by kernel_rfl) rfl (fun K hK => ?_)
    go_simp
    with_reducible refine (q4 _ HS16.out.same).mono ?_
    rintro ex w17 ⟨rfl, hk⟩
    rw [show getN (takeB bs 4 8) = mS bs from rfl]
    have HS17 := (show Hid (RdS w w17) from HS16.out.on hk)
    have HM17 := hid (HM16.out.same hk)
    have HZ17 := HZ16
    clear hk HS16 HM16 HZ16
    refine hK.out _ _ (fun _ => trivial) ?_
    clear hK K
    try simp only [Act.put, sA, s0, sS]
    refine wpAnyV_one (i := 5) (by kernel_rfl) rfl (fun K hK => ?_)
    go_simp
    with_reducible refine (q12 _ HS17.out.same).mono ?_
    rintro ex w18 ⟨rfl, hk⟩
    rw [show getN (takeB bs 12 4) = mE bs from rfl]
    have HS18 := (show Hid (RdS w w18) from HS17.out.on hk)
    have HM18 := hid (HM17.out.same hk)
    have HZ18 := HZ17
    clear hk HS17 HM17 HZ17
    refine hK.out _ _ (fun _ => trivial) ?_
    clear hK K
    try simp only [Act.put, sA, s0, sS]
    refine wpAnyV_one (i := 8) (by kernel_rfl) rfl (fun K hK => ?_)
    go_simp
    with_reducible refine (q16 _ HS18.out.same).mono ?_
    rintro ex w19 ⟨rfl, hk⟩
    rw [show getN (takeB bs 16 8) = mC bs from rfl]
    have HS19 := (show Hid (RdS w w19) from HS18.out.on hk)
    have HM19 := hid (HM18.out.same hk)
    have HZ19 := HZ18
    clear hk HS18 HM18 HZ18
    refine hK.out _ _ (fun _ => trivial) ?_
    clear hK K
    try simp only [Act.put, sA, s0, sS]
    refine wpAnyV_one (i := 11) (by kernel_rfl) rfl (fun K hK => ?_)
    go_simp
    with_reducible refine (q24 _ HS19.out.same).mono ?_
    rintro ex w20 ⟨rfl, hk⟩
    rw [show getN (takeB bs 24 8) = mL bs from rfl]
    have HS20 := (show Hid (RdS w w20) from HS19.out.on hk)
    have HM20 := hid (HM19.out.same hk)
    have HZ20 := HZ19
    clear hk HS19 HM19 HZ19
    refine hK.out _ _ (fun _ => trivial) ?_
    clear hK K
    try simp only [Act.put, sA, s0, sS]
    refine tk 12 23 (S := fun _ : World => True) trivial ?_
    refine wpAnyV_one (i := 14) (by kernel_rfl) rfl (fun K hK => ?_)
    have hM := HM20.out
    obtain ⟨m0, m1, m2, m3⟩ := hM.all4
    have fm := hM.frozen
    go_simp
    refine hK.out _ _ (fun _ => trivial) ?_
    clear hK K
    refine wpAnyV_done (by kernel_rfl) ?_
    try simp only [Act.put, sA, s0, sS]
    have hks : Kept (fun b => b = w1.heap.size) w20 ((((w20.setCell ⟨w1.heap.size, 0, none⟩ (.int .i64 (mS bs))).setCell ⟨w1.heap.size, 1, none⟩ (.int .i64 (mE bs))).setCell ⟨w1.heap.size, 2, none⟩ (.int .i64 (mC bs))).setCell ⟨w1.heap.size, 3, none⟩ (.int .i64 (mL bs))) := by
     (iterate 4 refine Kept.setCell (R := fun b => b = w1.heap.size) ?_ (.inr rfl) _)
     exact Kept.refl _ _
    have hM4 := (((hM.stored 0 (.int .i64 (mS bs))).stored 1 (.int .i64 (mE bs))).stored 2 (.int .i64 (mC bs))).stored 3 (.int .i64 (mL bs))
    have hz := HZ20.out
    exact ⟨w1.heap.size, hz, ⟨HS20.out.res.kept hks (by omega), HS20.out.same.next hks (fun b hb e => by omega)⟩, hM4, rfl⟩
 ·have hl' : ¬ (bs.length : Int) = 512 := by omega
  have hG := mGood_len hl
  go_enter Tryd.func54, Tryd.ntmps54
  go_wp2_with fail
  have hS : (fun wx : World => wx.cell? ⟨3, 0, none⟩ = some (.iface 179 (.pointer (some a3)))) ((w.alloc (.cells #[.int .i64 0, .int .i64 0, .int .i64 0, .int .i64 0] 28)).drew) := (HE.out.same HS0.out.same.drew).c3
  refine wp_region_V (fun wx : World => wx.cell? ⟨3, 0, none⟩ = some (.iface 179 (.pointer (some a3)))) 99 4 rfl (by kernel_rfl) ?_
  refine tk 0 9 hS ?_
  refine tk 1 10 hS ?_
  refine wpAnyV_one (i := 2) (by kernel_rfl) rfl (fun K hK => ?_)
  go_simp
  refine hK.out _ _ (fun _ => hS) ?_
  clear hK K
  try simp only [Act.put, sA, s0, sS]
  refine wpAnyV_one (i := 3) (by kernel_rfl) rfl (fun K hK => ?_)
  go_simp
  refine hK.out _ _ (fun _ => hS) ?_
  clear hK K
  refine wpAnyV_done (by kernel_rfl) ?_
  try simp only [Act.put, sA, s0, sS]
  have hk1 : Same w (w.alloc (.cells #[.int .i64 0, .int .i64 0, .int .i64 0, .int .i64 0] 28)).drew := HS0.out.same.drew
  obtain ⟨r0, r1, r2, r3⟩ := (HS0.out.on (Kept.refl _ _).drew).res.all4
  go_wp2
  refine bodyPost_ret (v := .tuple #[.agg #[.int .i64 0, .int .i64 0, .int .i64 0, .int .i64 0], .iface 179 (.pointer (some a3))]) (by simp [results, Tryd.results54, go_sem, r0, r1, r2, r3]) rfl ⟨⟨_, rfl, .inr ⟨hG, a3, rfl⟩⟩, hk1⟩
theorem implDec_any (v : Value) (bs : List Int) (a0 a1 a2 a3 a4 : Addr) (w : World) (hE : Errs5 w a0 a1 a2 a3 a4) (hB : IsB bs) (hv : Rd .u8 w v bs) :
  Calls Tryd.prog 21 #[v] w fun ex w' => ex = .returned (decV bs) ∧ Same w w' := by
 have hk0 : Same w (w.alloc (.cells #[.bool false, .int .i64 0, .int .i64 0, .int .i64 0, .int .i64 0, .int .i64 0] 30)) := (Kept.refl _ _).alloc _
 have k1 := readMaster_any v bs a0 a1 a2 a3 a4 _ (hE.same hk0) hB (hv.same hk0)
 have HK0 := (show Hid (Same w (w.alloc (.cells #[.bool false, .int .i64 0, .int .i64 0, .int .i64 0, .int .i64 0, .int .i64 0] 30))) from hk0)
 have HB0 := (show Hid (Blk (w.alloc (.cells #[.bool false, .int .i64 0, .int .i64 0, .int .i64 0, .int .i64 0, .int .i64 0] 30)) w.heap.size 30 [.bool false, .int .i64 0, .int .i64 0, .int .i64 0, .int .i64 0, .int .i64 0]) from Blk.new w _ _)
 clear hE hB hv hk0
 go_enter Tryd.func21, Tryd.ntmps21
 go_wp2_with fail
 refine k1.mono ?_
 rintro ex w1 ⟨⟨u, rfl, hR⟩, hk⟩
 have HK1 := hid (HK0.out.trans hk)
 have HB1 := hid (HB0.out.same hk)
 have hz1 := HB1.out.lt
 clear hk HK0 HB0 k1
 rcases hR with ⟨hG, rfl⟩ | ⟨hG, ae, rfl⟩
 ·have HGG := (show Hid (decV bs = resV true 0 (mS bs) (mE bs) (mC bs) (mL bs)) from decV_yes hG)
  clear hG
  go_wp2_with fail
  have hk1 : Same w1 (w1.alloc (.cells #[.int .i64 (mS bs), .int .i64 (mE bs), .int .i64 (mC bs), .int .i64 (mL bs)] 28)).drew := ((Kept.refl _ _).alloc _).drew
  let Y1 : World → Prop := fun wx : World => wx.cell? ⟨w1.heap.size, 0, none⟩ = some (.int .i64 (mS bs)) ∧ wx.cell? ⟨w1.heap.size, 1, none⟩ = some (.int .i64 (mE bs)) ∧ wx.cell? ⟨w1.heap.size, 2, none⟩ = some (.int .i64 (mC bs)) ∧ wx.cell? ⟨w1.heap.size, 3, none⟩ = some (.int .i64 (mL bs))
  have hS : Y1 (w1.alloc (.cells #[.int .i64 (mS bs), .int .i64 (mE bs), .int .i64 (mC bs), .int .i64 (mL bs)] 28)).drew := ((Blk.new w1 #[.int .i64 (mS bs), .int .i64 (mE bs), .int .i64 (mC bs), .int .i64 (mL bs)] 28).same (Kept.refl _ _).drew).all4
  refine wp_region_V Y1 4 5 rfl (by kernel_rfl) ?_
  refine tk 0 10 hS ?_
  refine tk 1 11 hS ?_
  refine tk 2 12 hS ?_
  refine tk 3 13 hS ?_
  refine wpAnyV_one (i := 4) (by kernel_rfl) rfl (fun K hK => ?_)
  have hb := HB1.out.same hk1
  have z0 : (w1.alloc (.cells #[.int .i64 (mS bs), .int .i64 (mE bs), .int .i64 (mC bs), .int .i64 (mL bs)] 28)).drew.cell? ⟨w.heap.size, 0, none⟩ = some (.bool false) := hb.cell 0
  have z1 : (w1.alloc (.cells #[.int .i64 (mS bs), .int .i64 (mE bs), .int .i64 (mC bs), .int .i64 (mL bs)] 28)).drew.cell? ⟨w.heap.size, 1, none⟩ = some (.int .i64 0) := hb.cell 1
  have z2 : (w1.alloc (.cells #[.int .i64 (mS bs), .int .i64 (mE bs), .int .i64 (mC bs), .int .i64 (mL bs)] 28)).drew.cell? ⟨w.heap.size, 2, none⟩ = some (.int .i64 0) := hb.cell 2
  have z3 : (w1.alloc (.cells #[.int .i64 (mS bs), .int .i64 (mE bs), .int .i64 (mC bs), .int .i64 (mL bs)] 28)).drew.cell? ⟨w.heap.size, 3, none⟩ = some (.int .i64 0) := hb.cell 3
  have z4 : (w1.alloc (.cells #[.int .i64 (mS bs), .int .i64 (mE bs), .int .i64 (mC bs), .int .i64 (mL bs)] 28)).drew.cell? ⟨w.heap.size, 4, none⟩ = some (.int .i64 0) := hb.cell 4
  have z5 : (w1.alloc (.cells #[.int .i64 (mS bs), .int .i64 (mE bs), .int .i64 (mC bs), .int .i64 (mL bs)] 28)).drew.cell? ⟨w.heap.size, 5, none⟩ = some (.int .i64 0) := hb.cell 5
  have fz := hb.frozen
  have HK2 := hid (HK1.out.trans hk1)
  obtain ⟨w2, hw2⟩ : ∃ w2, (w1.alloc (.cells #[.int .i64 (mS bs), .int .i64 (mE bs), .int .i64 (mC bs), .int .i64 (mL bs)] 28)).drew = w2 := ⟨_, rfl⟩
  rw [hw2] at z0 z1 z2 z3 z4 z5 fz HK2 ⊢
  clear hS hb hk1 hw2 HB1 HK1
  go_simp
  refine hK.out _ _ (fun h => absurd rfl h) ?_
  clear hK K
  refine wpAnyV_done (by kernel_rfl) ?_
  try simp only [Act.put, sA, s0, sS]
  go_wp2
  refine bodyPost_ret (v := resV true 0 (mS bs) (mE bs) (mC bs) (mL bs)) (by simp [results, Tryd.results21, go_sem, resV, z0, z1, z2, z3, z4, z5]) rfl ⟨by rw [HGG.out], ?_⟩
  (iterate 6 refine Kept.setCell ?_ (.inl (Nat.le_refl _)) _)
  exact HK2.out
 ·have HGG := (show Hid (decV bs = resV false 0 0 0 0 0) from decV_no hG)
  clear hG
  go_wp2_with fail
  have hk1 : Same w1 (w1.alloc (.cells #[.int .i64 0, .int .i64 0, .int .i64 0, .int .i64 0] 28)).drew := ((Kept.refl _ _).alloc _).drew
  let Y2 : World → Prop := fun wx : World => wx.cell? ⟨w1.heap.size, 0, none⟩ = some (.int .i64 0) ∧ wx.cell? ⟨w1.heap.size, 1, none⟩ = some (.int .i64 0) ∧ wx.cell? ⟨w1.heap.size, 2, none⟩ = some (.int .i64 0) ∧ wx.cell? ⟨w1.heap.size, 3, none⟩ = some (.int .i64 0)
  have hS : Y2 (w1.alloc (.cells #[.int .i64 0, .int .i64 0, .int .i64 0, .int .i64 0] 28)).drew := ((Blk.new w1 #[.int .i64 0, .int .i64 0, .int .i64 0, .int .i64 0] 28).same (Kept.refl _ _).drew).all4
  refine wp_region_V Y2 4 5 rfl (by kernel_rfl) ?_
  refine tk 0 10 hS ?_
  refine tk 1 11 hS ?_
  refine tk 2 12 hS ?_
  refine tk 3 13 hS ?_
  refine wpAnyV_one (i := 4) (by kernel_rfl) rfl (fun K hK => ?_)
  have hb := HB1.out.same hk1
  have z0 : (w1.alloc (.cells #[.int .i64 0, .int .i64 0, .int .i64 0, .int .i64 0] 28)).drew.cell? ⟨w.heap.size, 0, none⟩ = some (.bool false) := hb.cell 0
  have z1 : (w1.alloc (.cells #[.int .i64 0, .int .i64 0, .int .i64 0, .int .i64 0] 28)).drew.cell? ⟨w.heap.size, 1, none⟩ = some (.int .i64 0) := hb.cell 1
  have z2 : (w1.alloc (.cells #[.int .i64 0, .int .i64 0, .int .i64 0, .int .i64 0] 28)).drew.cell? ⟨w.heap.size, 2, none⟩ = some (.int .i64 0) := hb.cell 2
  have z3 : (w1.alloc (.cells #[.int .i64 0, .int .i64 0, .int .i64 0, .int .i64 0] 28)).drew.cell? ⟨w.heap.size, 3, none⟩ = some (.int .i64 0) := hb.cell 3
  have z4 : (w1.alloc (.cells #[.int .i64 0, .int .i64 0, .int .i64 0, .int .i64 0] 28)).drew.cell? ⟨w.heap.size, 4, none⟩ = some (.int .i64 0) := hb.cell 4
  have z5 : (w1.alloc (.cells #[.int .i64 0, .int .i64 0, .int .i64 0, .int .i64 0] 28)).drew.cell? ⟨w.heap.size, 5, none⟩ = some (.int .i64 0) := hb.cell 5
  have fz := hb.frozen
  have HK2 := hid (HK1.out.trans hk1)
  obtain ⟨w2, hw2⟩ : ∃ w2, (w1.alloc (.cells #[.int .i64 0, .int .i64 0, .int .i64 0, .int .i64 0] 28)).drew = w2 := ⟨_, rfl⟩
  rw [hw2] at z0 z1 z2 z3 z4 z5 fz HK2 ⊢
  clear hS hb hk1 hw2 HB1 HK1
  go_simp
  refine hK.out _ _ (fun h => absurd rfl h) ?_
  clear hK K
  refine wpAnyV_done (by kernel_rfl) ?_
  try simp only [Act.put, sA, s0, sS]
  go_wp2
  refine bodyPost_ret (v := resV false 0 0 0 0 0) (by simp [results, Tryd.results21, go_sem, resV, z0, z1, z2, z3, z4, z5]) rfl ⟨by rw [HGG.out], ?_⟩
  (iterate 6 refine Kept.setCell ?_ (.inl (Nat.le_refl _)) _)
  exact HK2.out
theorem Tryd.infoSW : (Tryd.prog.info? 70).map (fun i => (i.zero, i.size, i.bytes)) = some (some (.agg #[.int .i64 0, .slice none 0 0]), 2, 32) := by kernel_rfl
def Says (e : Ending) (P : Prop) : Prop := ∃ B : Bool, e = .returned (.bool B) ∧ (B = true ↔ P)
theorem says_true {P : Prop} (h : P) : Says (.returned (.bool true)) P := ⟨true, rfl, fun _ => h, fun _ => rfl⟩
theorem says_false {P : Prop} (h : ¬ P) : Says (.returned (.bool false)) P := ⟨false, rfl, fun h => by simp at h, fun hp => absurd hp h⟩
def validP (n : Nat) (p : Int × List Int) : Prop := 0 ≤ p.1 ∧ p.1 < n ∧ p.2.length = 512
def validHead (len m : Nat) : Prop := len % 512 = 0 ∧ 1 ≤ len / 512 ∧ len / 512 ≤ 1024 ∧ m ≤ 8192
def Valid (len : Nat) (ds : List (Int × List Int)) : Prop := validHead len ds.length ∧ ∀ p ∈ ds, validP (len / 512) p
theorem valid_no_at {len : Nat} {ps : List PW} {k : Nat} (h : k < ps.length) (hp : ¬ validP (len / 512) (ps[k].sec, ps[k].bs)) : ¬ Valid len (dataP ps) :=
 fun hv => hp (hv.2 _ (List.mem_map.2 ⟨ps[k], List.getElem_mem h, rfl⟩))
theorem valid_no_head {len : Nat} {ps : List PW} (hp : ¬ validHead len ps.length) : ¬ Valid len (dataP ps) :=
 fun hv => hp (by have := hv.1; rwa [dataP_length] at this)
theorem valid_yes {len : Nat} {ps : List PW} (hh : validHead len ps.length) (h : ∀ k (hk : k < ps.length), validP (len / 512) (ps[k].sec, ps[k].bs)) : Valid len (dataP ps) := by
 refine ⟨by rw [dataP_length]; exact hh, fun p hp => ?_⟩
 obtain ⟨q, hq, rfl⟩ := List.mem_map.1 hp
 obtain ⟨k, hk, rfl⟩ := List.getElem_of_mem hq
 exact h k hk
theorem l1Sectors_any (a : Option Addr) (n c : Nat) (a2 : Option Addr) (n2 c2 : Nat) (w : World) (hn : n ≤ maxLen) :
  Calls Tryd.prog 70 #[.agg #[.slice a n c, .slice a2 n2 c2]] w fun e w' => e = .returned (.int .i64 (n / 512 : Nat)) ∧ w' = w.alloc (.cells #[.slice a n c, .slice a2 n2 c2] 25) := by
 unfold maxLen at hn
 go_enter Tryd.func70, Tryd.ntmps70
 go_wp2
 go_ret
 exact ⟨ret_int (by omega), rfl⟩
theorem countSectors_any (a : Option Addr) (n c : Nat) (a2 : Option Addr) (n2 c2 : Nat) (w : World) (hn : n ≤ maxLen) :
  Calls Tryd.prog 67 #[.agg #[.slice a n c, .slice a2 n2 c2]] w fun e w' => e = .returned (.int .i64 (n / 512 : Nat)) ∧ w' = w.alloc (.cells #[.slice a n c, .slice a2 n2 c2] 25) := by
 unfold maxLen at hn
 go_enter Tryd.func67, Tryd.ntmps67
 go_wp2
 go_ret
 exact ⟨ret_int (by omega), rfl⟩
theorem specValid_head (a : Option Addr) (n c : Nat) (a2 : Option Addr) (n2 c2 : Nat) (w : World) (hn : n ≤ maxLen) (hn2 : n2 ≤ maxLen) (h : ¬ validHead n n2) :
  Calls Tryd.prog 69 #[.agg #[.slice a n c, .slice a2 n2 c2]] w fun e w' => e = .returned (.bool false) ∧ Same w w' := by
 have hm := hn
 have hm2 := hn2
 unfold maxLen at hn hn2
 by_cases h1 : n % 512 = 0
 ·have t1 : ((n : Int) % 512 != 0) = false := by simp; omega
  by_cases h2 : n / 512 < 1
  ·have t2 : (n : Int) / 512 < 1 := by omega
   go_enter Tryd.func69, Tryd.ntmps69
   go_wp2_with (go_at_call 70; refine (l1Sectors_any _ _ _ _ _ _ _ hm).mono ?_; rintro e w' ⟨rfl, rfl⟩)
   go_ret
   exact ⟨rfl, ((Kept.refl _ _).alloc _).alloc _⟩
  ·have t2 : ¬ (n : Int) / 512 < 1 := by omega
   by_cases h3 : 1024 < n / 512
   ·have t3 : 1024 < (n : Int) / 512 := by omega
    go_enter Tryd.func69, Tryd.ntmps69
    go_wp2_with (go_at_call 70; refine (l1Sectors_any _ _ _ _ _ _ _ hm).mono ?_; rintro e w' ⟨rfl, rfl⟩)
    go_ret
    exact ⟨rfl, ((Kept.refl _ _).alloc _).alloc _⟩
   ·have t3 : ¬ 1024 < (n : Int) / 512 := by omega
    have h4 : 8192 < n2 := by unfold validHead at h; omega
    have t4 : 8192 < (n2 : Int) := by omega
    clear h
    go_enter Tryd.func69, Tryd.ntmps69
    go_wp2_with (go_at_call 70; refine (l1Sectors_any _ _ _ _ _ _ _ hm).mono ?_; rintro e w' ⟨rfl, rfl⟩)
    go_ret
    exact ⟨rfl, ((Kept.refl _ _).alloc _).alloc _⟩
 ·have t1 : ((n : Int) % 512 != 0) = true := by simp; omega
  go_enter Tryd.func69, Tryd.ntmps69
  go_wp2_with (go_at_call 70; refine (l1Sectors_any _ _ _ _ _ _ _ hm).mono ?_; rintro e w' ⟨rfl, rfl⟩)
  go_ret
  exact ⟨rfl, ((Kept.refl _ _).alloc _).alloc _⟩
theorem specValid_loop (a : Option Addr) (n c : Nat) (v : Value) (ps : List PW) (w : World) (hn : n ≤ maxLen) (hp : RdP w v ps) (h : validHead n ps.length) :
  Calls Tryd.prog 69 #[.agg #[.slice a n c, v]] w fun e w' => Says e (Valid n (dataP ps)) ∧ Same w w' := by
 have hm := hn
 have hn2 := hp.len
 unfold maxLen at hn hn2
 obtain ⟨h1, h2, h3, h4⟩ := id h
 have t1 : ((n : Int) % 512 != 0) = false := by simp; omega
 have t2 : ¬ (n : Int) / 512 < 1 := by omega
 have t3 : ¬ 1024 < (n : Int) / 512 := by omega
 have t4 : ¬ 8192 < (ps.length : Int) := by omega
 have HH : Hid (validHead n ps.length) := h
 clear h h1 h2 h3 h4
 rcases hp.row with ⟨rfl, a2, c2, rfl⟩ | ⟨b, off, c2, rfl, hc⟩
 ·have HV : Hid (Valid n (dataP [])) := valid_yes HH.out (fun k hk => by simp at hk)
  clear hp hn2 t4
  go_enter Tryd.func69, Tryd.ntmps69
  go_wp2_with (go_at_call 70; refine (l1Sectors_any _ _ _ _ _ _ _ hm).mono ?_; rintro e w' ⟨rfl, rfl⟩)
  refine wp_loop_rounds 1 ?_
  rw [rounds_succ]
  go_wp2
  go_ret
  exact ⟨says_true HV.out, ((Kept.refl _ _).alloc _).alloc _⟩
 ·have HP : Hid (RdP w (.slice (some ⟨b, off, none⟩) ps.length c2) ps) := hp
  have HC : Hid (∀ i (h : i < ps.length), w.cell? ⟨b, off + i * 2, none⟩ = some (.int .i64 ps[i].sec) ∧ w.cell? ⟨b, off + i * 2 + 1, none⟩ = some ps[i].v) := hc
  clear hp hc
  generalize hl : ps.length = len at hn2 t4 HP HH ⊢
  have HL : Hid (ps.length = len) := hl
  clear hl
  go_enter Tryd.func69, Tryd.ntmps69
  go_wp2_with (go_at_call 70; refine (l1Sectors_any _ _ _ _ _ _ _ hm).mono ?_; rintro e w' ⟨rfl, rfl⟩)
  go_loop [4] (fun i => ∃ k : Nat, k ≤ len ∧ i = .int .i64 k ∧ Hid (∀ j (hj : j < ps.length), j < k → validP (n / 512) (ps[j].sec, ps[j].bs))) (fun i => len - (intOf i).toNat)
  case atStart => exact ⟨0, Nat.zero_le _, rfl, fun j _ h => by omega⟩
  case round =>
   obtain ⟨k, hk, rfl, HV⟩ := hrel
   by_cases hlt : k < len
   ·have hlp : k < ps.length := by rw [HL.out]; exact hlt
    obtain ⟨a1, c1, e1⟩ := (HP.out.data _ (List.getElem_mem hlp)).form
    have hm1 := (HP.out.data _ (List.getElem_mem hlp)).1
    unfold maxLen at hm1
    have hbw : b < w.heap.size := World.block_lt_of_cell? w ⟨b, off + k * 2, none⟩ (HC.out k hlp).1
    have q1 := (HC.out k hlp).1
    have q2 := (HC.out k hlp).2
    rw [e1] at q2
    clear e1
    have HN : Hid (¬ validP (n / 512) (ps[k].sec, ps[k].bs) → ¬ Valid n (dataP ps)) := fun h => valid_no_at hlp h
    have HE : Hid (validP (n / 512) (ps[k].sec, ps[k].bs) ↔ 0 ≤ ps[k].sec ∧ ps[k].sec < (n / 512 : Nat) ∧ ps[k].bs.length = 512) := Iff.rfl
    generalize hsec : ps[k].sec = sec at q1 HN HE
    generalize hbl : ps[k].bs.length = bl at q2 hm1 HE
    have HS : Hid (ps[k].sec = sec) := hsec
    clear hsec hbl
    by_cases s1 : sec < 0
    ·go_wp2
     go_ret
     exact ⟨says_false (HN.out (fun hv => by have := HE.out.1 hv; omega)), ((Kept.refl _ _).alloc _).alloc _⟩
    ·by_cases s2 : (n : Int) / 512 ≤ sec
     ·go_wp2
      go_ret
      exact ⟨says_false (HN.out (fun hv => by have := HE.out.1 hv; omega)), ((Kept.refl _ _).alloc _).alloc _⟩
     ·by_cases s3 : bl = 512
      ·have s4 : ((bl : Int) != 512) = false := by simp; omega
       go_wp2
       go_round
       case rel =>
        refine ⟨k + 1, by omega, by go_num, fun j hj hjk => ?_⟩
        by_cases e : j = k
        ·subst e
         rw [HS.out]
         exact HE.out.2 ⟨by omega, by omega, s3⟩
        ·exact HV.out j hj (by omega)
       case measure => simp [intOf]; omega
      ·have s4 : ((bl : Int) != 512) = true := by simp; omega
       go_wp2
       go_ret
       exact ⟨says_false (HN.out (fun hv => by have := HE.out.1 hv; omega)), ((Kept.refl _ _).alloc _).alloc _⟩
   ·go_wp2
    go_ret
    obtain rfl : k = len := by omega
    have h2 := HL.out
    have hv := valid_yes (ps := ps) (by rw [h2]; exact HH.out) (fun j hj => HV.out j hj (by omega))
    exact ⟨says_true hv, ((Kept.refl _ _).alloc _).alloc _⟩
theorem implValid_head (a : Option Addr) (n c : Nat) (a2 : Option Addr) (n2 c2 : Nat) (w : World) (hn : n ≤ maxLen) (hn2 : n2 ≤ maxLen) (h : ¬ validHead n n2) :
  Calls Tryd.prog 44 #[.agg #[.slice a n c, .slice a2 n2 c2]] w fun e w' => e = .returned (.bool false) ∧ Same w w' := by
 have hm := hn
 unfold maxLen at hn hn2
 by_cases h2 : n / 512 < 1
 ·have t2 : (n : Int) / 512 < 1 := by omega
  go_enter Tryd.func44, Tryd.ntmps44
  go_wp2_with (go_at_call 67; refine (countSectors_any _ _ _ _ _ _ _ hm).mono ?_; rintro e w' ⟨rfl, rfl⟩)
  go_ret
  exact ⟨rfl, ((Kept.refl _ _).alloc _).alloc _⟩
 ·have t2 : ¬ (n : Int) / 512 < 1 := by omega
  by_cases h3 : 1024 < n / 512
  ·have t3 : 1024 < (n : Int) / 512 := by omega
   go_enter Tryd.func44, Tryd.ntmps44
   go_wp2_with (go_at_call 67; refine (countSectors_any _ _ _ _ _ _ _ hm).mono ?_; rintro e w' ⟨rfl, rfl⟩)
   go_ret
   exact ⟨rfl, ((Kept.refl _ _).alloc _).alloc _⟩
  ·have t3 : ¬ 1024 < (n : Int) / 512 := by omega
   by_cases h1 : n % 512 = 0
   ·have t1 : ((n : Int) % 512 != 0) = false := by simp; omega
    have h4 : 8192 < n2 := by unfold validHead at h; omega
    have t4 : 8192 < (n2 : Int) := by omega
    clear h
    go_enter Tryd.func44, Tryd.ntmps44
    go_wp2_with (go_at_call 67; refine (countSectors_any _ _ _ _ _ _ _ hm).mono ?_; rintro e w' ⟨rfl, rfl⟩)
    go_ret
    exact ⟨rfl, ((Kept.refl _ _).alloc _).alloc _⟩
   ·have t1 : ((n : Int) % 512 != 0) = true := by simp; omega
    go_enter Tryd.func44, Tryd.ntmps44
    go_wp2_with (go_at_call 67; refine (countSectors_any _ _ _ _ _ _ _ hm).mono ?_; rintro e w' ⟨rfl, rfl⟩)
    go_ret
    exact ⟨rfl, ((Kept.refl _ _).alloc _).alloc _⟩
theorem implValid_loop (a : Option Addr) (n c : Nat) (v : Value) (ps : List PW) (w : World) (hn : n ≤ maxLen) (hp : RdP w v ps) (h : validHead n ps.length) :
  Calls Tryd.prog 44 #[.agg #[.slice a n c, v]] w fun e w' => Says e (Valid n (dataP ps)) ∧ Same w w' := by
 have hm := hn
 have hn2 := hp.len
 unfold maxLen at hn hn2
 obtain ⟨h1, h2, h3, h4⟩ := id h
 have t1 : ((n : Int) % 512 != 0) = false := by simp; omega
 have t2 : ¬ (n : Int) / 512 < 1 := by omega
 have t3 : ¬ 1024 < (n : Int) / 512 := by omega
 have t4 : ¬ 8192 < (ps.length : Int) := by omega
 have HH : Hid (validHead n ps.length) := h
 clear h h1 h2 h3 h4
 rcases hp.row with ⟨rfl, a2, c2, rfl⟩ | ⟨b, off, c2, rfl, hc⟩
 ·have HV : Hid (Valid n (dataP [])) := valid_yes HH.out (fun k hk => by simp at hk)
  clear hp hn2 t4
  go_enter Tryd.func44, Tryd.ntmps44
  go_wp2_with (go_at_call 67; refine (countSectors_any _ _ _ _ _ _ _ hm).mono ?_; rintro e w' ⟨rfl, rfl⟩)
  refine wp_loop_rounds 1 ?_
  rw [rounds_succ]
  go_wp2
  go_ret
  exact ⟨says_true HV.out, ((Kept.refl _ _).alloc _).alloc _⟩
 ·have HP : Hid (RdP w (.slice (some ⟨b, off, none⟩) ps.length c2) ps) := hp
  have HC : Hid (∀ i (h : i < ps.length), w.cell? ⟨b, off + i * 2, none⟩ = some (.int .i64 ps[i].sec) ∧ w.cell? ⟨b, off + i * 2 + 1, none⟩ = some ps[i].v) := hc
  clear hp hc
  generalize hl : ps.length = len at hn2 t4 HP HH ⊢
  have HL : Hid (ps.length = len) := hl
  clear hl
  go_enter Tryd.func44, Tryd.ntmps44
  go_wp2_with (go_at_call 67; refine (countSectors_any _ _ _ _ _ _ _ hm).mono ?_; rintro e w' ⟨rfl, rfl⟩)
  go_loopw [28] (fun i wr => ∃ k : Nat, k ≤ len ∧ i = .int .i64 k ∧ Hid (∀ j (hj : j < ps.length), j < k → validP (n / 512) (ps[j].sec, ps[j].bs)) ∧ Hid (Same w wr)) (fun i _ => len - (intOf i).toNat)
  case atStart => exact ⟨0, Nat.zero_le _, rfl, fun j _ h => by omega, ((Kept.refl _ _).alloc _).alloc _⟩
  case round =>
   obtain ⟨k, hk, rfl, HV, HK⟩ := hrel
   by_cases hlt : k < len
   ·have hlp : k < ps.length := by rw [HL.out]; exact hlt
    obtain ⟨a1, c1, e1⟩ := (HP.out.data _ (List.getElem_mem hlp)).form
    have hm1 := (HP.out.data _ (List.getElem_mem hlp)).1
    unfold maxLen at hm1
    have q1 := HK.out.cellOf (HC.out k hlp).1 id
    have q2 := HK.out.cellOf (HC.out k hlp).2 id
    rw [e1] at q2
    clear e1
    have HN : Hid (¬ validP (n / 512) (ps[k].sec, ps[k].bs) → ¬ Valid n (dataP ps)) := fun h => valid_no_at hlp h
    have HE : Hid (validP (n / 512) (ps[k].sec, ps[k].bs) ↔ 0 ≤ ps[k].sec ∧ ps[k].sec < (n / 512 : Nat) ∧ ps[k].bs.length = 512) := Iff.rfl
    generalize hsec : ps[k].sec = sec at q1 HN HE
    generalize hbl : ps[k].bs.length = bl at q2 hm1 HE
    have HS : Hid (ps[k].sec = sec) := hsec
    clear hsec hbl
    by_cases s1 : sec < 0
    ·go_wp2
     go_ret
     exact ⟨says_false (HN.out (fun hv => by have := HE.out.1 hv; omega)), HK.out.alloc _⟩
    ·by_cases s2 : (n : Int) / 512 ≤ sec
     ·go_wp2
      go_ret
      exact ⟨says_false (HN.out (fun hv => by have := HE.out.1 hv; omega)), HK.out.alloc _⟩
     ·by_cases s3 : bl = 512
      ·have s4 : ((bl : Int) != 512) = false := by simp; omega
       go_wp2
       go_roundw
       case rel =>
        refine ⟨k + 1, by omega, by go_num, fun j hj hjk => ?_, HK.out.alloc _⟩
        by_cases e : j = k
        ·subst e
         rw [HS.out]
         exact HE.out.2 ⟨by omega, by omega, s3⟩
        ·exact HV.out j hj (by omega)
       case measure => simp [intOf]; omega
      ·have s4 : ((bl : Int) != 512) = true := by simp; omega
       go_wp2
       go_ret
       exact ⟨says_false (HN.out (fun hv => by have := HE.out.1 hv; omega)), HK.out.alloc _⟩
   ·go_wp2
    go_ret
    obtain rfl : k = len := by omega
    have h2 := HL.out
    have hv := valid_yes (ps := ps) (by rw [h2]; exact HH.out) (fun j hj => HV.out j hj (by omega))
    exact ⟨says_true hv, HK.out⟩
theorem specValid_any (dv pv : Value) (dur : List Int) (ps : List PW) (w : World) (hp : RdD w dv pv dur ps) :
  Calls Tryd.prog 69 #[.agg #[dv, pv]] w fun e w' => Says e (Valid dur.length (dataP ps)) ∧ Same w w' := by
 obtain ⟨a1, c1, rfl⟩ := hp.dur.form
 by_cases h : validHead dur.length ps.length
 ·exact specValid_loop a1 dur.length c1 pv ps w hp.dur.1 hp.pend h
 ·obtain ⟨a2, c2, rfl⟩ := hp.pend.form
  exact (specValid_head a1 _ c1 a2 _ c2 w hp.dur.1 hp.pend.len h).mono fun e w' ⟨he, hk⟩ => ⟨by rw [he]; exact says_false (valid_no_head h), hk⟩
theorem implValid_any (dv pv : Value) (dur : List Int) (ps : List PW) (w : World) (hp : RdD w dv pv dur ps) :
  Calls Tryd.prog 44 #[.agg #[dv, pv]] w fun e w' => Says e (Valid dur.length (dataP ps)) ∧ Same w w' := by
 obtain ⟨a1, c1, rfl⟩ := hp.dur.form
 by_cases h : validHead dur.length ps.length
 ·exact implValid_loop a1 dur.length c1 pv ps w hp.dur.1 hp.pend h
 ·obtain ⟨a2, c2, rfl⟩ := hp.pend.form
  exact (implValid_head a1 _ c1 a2 _ c2 w hp.dur.1 hp.pend.len h).mono fun e w' ⟨he, hk⟩ => ⟨by rw [he]; exact says_false (valid_no_head h), hk⟩
end Go.Proofs.YtnkollbhicmdhaaDoor
