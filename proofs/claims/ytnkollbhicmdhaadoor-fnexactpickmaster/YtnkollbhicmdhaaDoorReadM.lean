import Derived.Test.YtnkollbhicmdhaaDoorG05
namespace Go.Proofs.YtnkollbhicmdhaaDoor
set_option maxRecDepth 100000
set_option maxHeartbeats 8000000
open Go.RowKit
set_option linter.unusedVariables false
set_option linter.unusedSimpArgs false
structure Errs5 (w : World) (a0 a1 a2 a3 a4 : Addr) : Prop where
  errs : Errs w a0 a1 a2
  c3 : w.cell? ⟨3, 0, none⟩ = some (.iface 179 (.pointer (some a3)))
  c4 : w.cell? ⟨4, 0, none⟩ = some (.iface 179 (.pointer (some a4)))
theorem Errs5.same {w w' : World} {a0 a1 a2 a3 a4 : Addr} (h : Errs5 w a0 a1 a2 a3 a4) (hk : Same w w') : Errs5 w' a0 a1 a2 a3 a4 := ⟨h.errs.same hk, hk.cellOf h.c3 id, hk.cellOf h.c4 id⟩
theorem cell_lt {w : World} {p : Addr} {v : Value} (h : w.cell? p = some v) : p.block < w.heap.size := World.block_lt_of_cell? _ _ h
theorem run_arrayS (w : World) (ad : Option Addr) (c : Nat) : (Instr.arrayAt 94 (.slice ad 512 c)).run Tryd.prog w = .ok (.pointer ad) w := by
  simp [Instr.arrayAt, run_underlying Tryd.underlying94]
theorem run_neq_secs (w : World) (xs ys : List Int) (hx : xs.length = 512) (hy : ys.length = 512) : (binOp .neq 94 (.agg (vals .u8 xs).toArray) (.agg (vals .u8 ys).toArray)).run Tryd.prog w = .ok (.bool (xs != ys)) w := by
  rw [run_neq_struct, run_equalIn_ints w 9998 94 5 512 Tryd.underlying94 Tryd.underlying5 size_byte xs ys hx hy]
  rfl
def ReadR (bs : List Int) (v : Value) : Prop :=
  (mGood bs = true ∧ v = .tuple #[.agg #[.int .i64 (mS bs), .int .i64 (mE bs), .int .i64 (mC bs), .int .i64 (mL bs)], .nilIface]) ∨ (mGood bs = false ∧ ∃ a : Addr, v = .tuple #[.agg #[.int .i64 0, .int .i64 0, .int .i64 0, .int .i64 0], .iface 179 (.pointer (some a))])
theorem getAt {w : World} {b off c : Nat} {bs : List Int} (hB : IsB bs) (hl : bs.length = 512) (hv : Rd .u8 w (.slice (some ⟨b, off, none⟩) bs.length c) bs) (x y : Nat) (hxy : x + y ≤ 512) (hc : c ≠ x) (wx : World) (hk : Same w wx) :
    Calls Tryd.prog 77 #[.slice (some ⟨b, off + x, none⟩) y (c - x)] wx fun e w' => e = .returned (.int .i64 (getN (takeB bs x y))) ∧ Same wx w' := by
  have h := hv.cut x y (by omega)
  rw [if_neg hc] at h
  have h2 := implGet_any _ _ wx (isB_take (isB_drop hB x) y) (by simp; omega) (h.same hk)
  rw [takeB_in bs x y (by omega)]
  exact h2
theorem mGood_len {bs : List Int} (h : bs.length ≠ 512) : mGood bs = false := by
  unfold mGood
  simp only [Bool.and_eq_false_iff, decide_eq_false_iff_not]
  by_cases hf : mF (mS bs) (mE bs) (mC bs) (mL bs) = 0
  · refine .inr fun he => h ?_
    rw [← he, encM_yes hf, mB_length]
  · exact .inl hf
structure RdS (w wx : World) : Prop where
  res : Blk wx w.heap.size 28 [.int .i64 0, .int .i64 0, .int .i64 0, .int .i64 0]
  same : Same w wx
theorem RdS.on {w wx wy : World} (h : RdS w wx) (hk : Same wx wy) : RdS w wy := ⟨h.res.same hk, h.same.trans hk⟩
theorem readMaster_any (v : Value) (bs : List Int) (a0 a1 a2 a3 a4 : Addr) (w : World) (hE : Errs5 w a0 a1 a2 a3 a4) (hB : IsB bs) (hv : Rd .u8 w v bs) :
    Calls Tryd.prog 54 #[v] w fun ex w' => (∃ u, ex = .returned u ∧ ReadR bs u) ∧ Same w w' := by
  have HE := (show Hid (Errs5 w a0 a1 a2 a3 a4) from hE)
  have hlt3 := cell_lt hE.c3
  have hlt4 := cell_lt hE.c4
  dsimp only at hlt3 hlt4
  clear hE
  obtain ⟨a, c, rfl⟩ := hv.form
  have hm := hv.1
  unfold maxLen at hm
  have HV := (show Hid (Rd .u8 w (.slice a bs.length c) bs) from hv)
  clear hv
  have HS0 := (show Hid (RdS w (w.alloc (.cells #[.int .i64 0, .int .i64 0, .int .i64 0, .int .i64 0] 28))) from ⟨Blk.new w _ _, (Kept.refl _ _).alloc _⟩)
  by_cases hl : bs.length = 512
  · obtain ⟨b, off, rfl, hle⟩ := rd_some HV.out (by omega)
    rw [hl] at hle
    have hl' : (bs.length : Int) = 512 := by omega
    have q4 := fun wx hk => getAt hB hl HV.out 4 8 (by decide) (by omega) wx hk
    have q12 := fun wx hk => getAt hB hl HV.out 12 4 (by decide) (by omega) wx hk
    have q16 := fun wx hk => getAt hB hl HV.out 16 8 (by decide) (by omega) wx hk
    have q24 := fun wx hk => getAt hB hl HV.out 24 8 (by decide) (by omega) wx hk
    have p12 : (12 : Int) ≤ (c : Int) := by omega
    have p16 : (16 : Int) ≤ (c : Int) := by omega
    have p24 : (24 : Int) ≤ (c : Int) := by omega
    have p32 : (32 : Int) ≤ (c : Int) := by omega
    have n4 : ¬ c = 4 := by omega
    have n12 : ¬ c = 12 := by omega
    have n16 : ¬ c = 16 := by omega
    have n24 : ¬ c = 24 := by omega
    have HRG := (show Hid (w.rangeAt b off (vals .u8 bs)) from rd_range HV.out (by omega))
    have HL := (show Hid (bs.length = 512) from hl)
    rw [hl] at HV
    clear hl'
    go_enter Tryd.func54, Tryd.ntmps54
    rw [hl]
    clear hl hm
    go_wp2_with fail
    refine Code.wp_mono (Q := fun ex a' wx => match ex with | .normal => ∃ B : Nat, w.heap.size < B ∧ RdS w wx ∧ Blk wx B 28 [.int .i64 (mS bs), .int .i64 (mE bs), .int .i64 (mC bs), .int .i64 (mL bs)] ∧ a' = { tmps := #[.slice (some ⟨b, off, none⟩) 512 c, undef, .pointer (some ⟨w.heap.size, 0, none⟩), .nilIface, .pointer (some ⟨B, 0, none⟩), undef, .slice (some ⟨b, off, none⟩) 512 c, .int .i64 512, .bool false, undef, undef, .slice (some ⟨b, off, none⟩) 512 c, .slice (some ⟨b, off + 4, none⟩) 8 (c - 4), .int .i64 (mS bs), .slice (some ⟨b, off, none⟩) 512 c, .slice (some ⟨b, off + 12, none⟩) 4 (c - 12), .int .i64 (mE bs), .slice (some ⟨b, off, none⟩) 512 c, .slice (some ⟨b, off + 16, none⟩) 8 (c - 16), .int .i64 (mC bs), .slice (some ⟨b, off, none⟩) 512 c, .slice (some ⟨b, off + 24, none⟩) 8 (c - 24), .int .i64 (mL bs), .agg #[.int .i64 (mS bs), .int .i64 (mE bs), .int .i64 (mC bs), .int .i64 (mL bs)], undef, undef, undef, undef, undef, undef, undef, undef, undef, undef, undef, undef, undef, undef, undef], defers := [] } | _ => False) ?_ ?_
    · intro ex a' wx h
      cases ex with
      | normal =>
        obtain ⟨B, hB0, hS, hM, rfl⟩ := h
        dsimp only
        clear q4 q12 q16 q24 n4 n12 n16 n24 p12 p16 p24 p32 HS0
        have HSx := (show Hid (RdS w wx) from hS)
        obtain ⟨m0, m1, m2, m3⟩ := hM.all4
        have HMx := (show Hid (Blk wx B 28 [.int .i64 (mS bs), .int .i64 (mE bs), .int .i64 (mC bs), .int .i64 (mL bs)]) from hM)
        clear hS hM
        have HG := (show Hid (mGood bs = (decide (mF (mS bs) (mE bs) (mC bs) (mL bs) = 0) && decide (encM (mS bs) (mE bs) (mC bs) (mL bs) = bs))) from rfl)
        have k1 := wrongMaster_any (mS bs) (mE bs) (mC bs) (mL bs) a0 a1 a2 wx (HE.out.same HSx.out.same).errs
        by_cases hf : mF (mS bs) (mE bs) (mC bs) (mL bs) = 0
        · have k2 := fun wy => masterSector_any (mS bs) (mE bs) (mC bs) (mL bs) wy hf
          have HEM := (show Hid (encM (mS bs) (mE bs) (mC bs) (mL bs) = mB (mS bs) (mE bs) (mC bs) (mL bs)) from encM_yes hf)
          rw [hf, show errV a0 a1 a2 0 = .nilIface from rfl] at k1
          have HF := (show Hid (mF (mS bs) (mE bs) (mC bs) (mL bs) = 0) from hf)
          clear hf
          have hne := fun wy => run_neq_secs wy (mB (mS bs) (mE bs) (mC bs) (mL bs)) bs (mB_length _ _ _ _) HL.out
          have hI : (Tryd.prog.info? 94).map (·.size) = some (vals .u8 bs).length := by rw [vals_length, HL.out]; exact sec_info
          obtain ⟨el, hel⟩ : ∃ el : Array Value, (vals .u8 (mB (mS bs) (mE bs) (mC bs) (mL bs))).toArray = el := ⟨_, rfl⟩
          obtain ⟨rl, hrl⟩ : ∃ rl : List Value, vals .u8 bs = rl := ⟨_, rfl⟩
          rw [hel] at k2 hne
          rw [hrl] at hne hI HRG
          clear hel hrl
          go_wp2_with (go_at_call 58; (with_reducible refine k1.mono ?_); rintro ex w1 ⟨rfl, hk⟩; have HS1 := (show Hid (RdS w w1) from HSx.out.on hk); have HM1 := (show Hid (Blk w1 B 28 [.int .i64 (mS bs), .int .i64 (mE bs), .int .i64 (mC bs), .int .i64 (mL bs)]) from HMx.out.same hk); clear hk HSx HMx m0 m1 m2 m3 k1)
          have hSx : ∀ wy, Same w1 wy → (fun wz : World => (wz.cell? ⟨B, 0, none⟩ = some (.int .i64 (mS bs)) ∧ wz.cell? ⟨B, 1, none⟩ = some (.int .i64 (mE bs)) ∧ wz.cell? ⟨B, 2, none⟩ = some (.int .i64 (mC bs)) ∧ wz.cell? ⟨B, 3, none⟩ = some (.int .i64 (mL bs))) ∧ wz.rangeAt b off rl) wy := fun wy hk => ⟨(HM1.out.same hk).all4, Kept.ranges (HS1.out.same.trans hk) HRG.out⟩
          have hS := hSx _ (Kept.refl _ _).drew
          refine wp_region_V (fun wz : World => (wz.cell? ⟨B, 0, none⟩ = some (.int .i64 (mS bs)) ∧ wz.cell? ⟨B, 1, none⟩ = some (.int .i64 (mE bs)) ∧ wz.cell? ⟨B, 2, none⟩ = some (.int .i64 (mC bs)) ∧ wz.cell? ⟨B, 3, none⟩ = some (.int .i64 (mL bs))) ∧ wz.rangeAt b off rl) 99 6 rfl (by kernel_rfl) ?_
          refine tk 0 30 hS ?_
          refine tk 2 32 hS ?_
          have hap := fun wy => run_arrayS wy (some ⟨b, off, none⟩) c
          refine tk 3 33 hS ?_
          refine wpAnyV_take (i := 4) (v := .agg rl.toArray) (some 34) rfl rfl (by kernel_rfl) (by kernel_rfl) (by kernel_rfl) (by kernel_rfl) (fun _ _ _ h => h) (yieldsIf_load_mid (by rfl) 94 _ rfl b off rfl rl _ (fun _ h => h.2) Tryd.underlying94 rfl hI) hS ?_
          try simp only [Act.put, sA, s0, sS]
          refine wpAnyV_one (i := 1) (by kernel_rfl) rfl (fun K hK => ?_)
          go_simp
          with_reducible refine (k2 _).mono ?_
          rintro ex w2 ⟨rfl, hk⟩
          have hS := hSx _ ((Kept.refl _ _).drew.trans hk)
          have HS2 := (show Hid (RdS w w2) from HS1.out.on ((Kept.refl _ _).drew.trans hk))
          have HM2 := (show Hid (Blk w2 B 28 [.int .i64 (mS bs), .int .i64 (mE bs), .int .i64 (mC bs), .int .i64 (mL bs)]) from HM1.out.same ((Kept.refl _ _).drew.trans hk))
          clear hk hSx HS1 HM1
          refine hK.out _ _ (fun _ => hS) ?_
          clear hK K
          try simp only [Act.put, sA, s0, sS]
          refine tk 5 35 hS ?_
          refine wpAnyV_done (by kernel_rfl) ?_
          try simp only [Act.put, sA, s0, sS]
          clear hS hne k2 hap
          obtain ⟨m0, m1, m2, m3⟩ := HM2.out.all4
          obtain ⟨r0, r1, r2, r3⟩ := HS2.out.res.all4
          have fr := HS2.out.res.frozen
          by_cases hq : mB (mS bs) (mE bs) (mC bs) (mL bs) = bs
          · rw [show (mB (mS bs) (mE bs) (mC bs) (mL bs) != bs) = false from by simp [hq]]
            have hG : mGood bs = true := by rw [HG.out]; simp [HF.out, HEM.out, hq]
            have hkz : Same w ((((w2.setCell ⟨w.heap.size, 0, none⟩ (.int .i64 (mS bs))).setCell ⟨w.heap.size, 1, none⟩ (.int .i64 (mE bs))).setCell ⟨w.heap.size, 2, none⟩ (.int .i64 (mC bs))).setCell ⟨w.heap.size, 3, none⟩ (.int .i64 (mL bs))) := by
              (iterate 4 refine Kept.setCell ?_ (.inl (Nat.le_refl _)) _)
              exact HS2.out.same
            have HKZ := (show Hid (Same w _) from hkz)
            clear hkz hq HG HEM HF
            go_wp2
            refine bodyPost_ret (v := .tuple #[.agg #[.int .i64 (mS bs), .int .i64 (mE bs), .int .i64 (mC bs), .int .i64 (mL bs)], .nilIface]) (by simp [results, Tryd.results54, go_sem, r0, r1, r2, r3]) rfl ⟨⟨_, rfl, .inl ⟨hG, rfl⟩⟩, HKZ.out⟩
          · rw [show (mB (mS bs) (mE bs) (mC bs) (mL bs) != bs) = true from by simp [hq]]
            have hG : mGood bs = false := by rw [HG.out]; simp [HEM.out, hq]
            clear hq HG HEM HF m0 m1 m2 m3
            go_wp2_with fail
            have hS : (fun wx : World => wx.cell? ⟨4, 0, none⟩ = some (.iface 179 (.pointer (some a4)))) w2.drew := (HE.out.same HS2.out.same.drew).c4
            refine wp_region_V (fun wx : World => wx.cell? ⟨4, 0, none⟩ = some (.iface 179 (.pointer (some a4)))) 99 4 rfl (by kernel_rfl) ?_
            refine tk 0 36 hS ?_
            refine tk 1 37 hS ?_
            refine wpAnyV_one (i := 2) (by kernel_rfl) rfl (fun K hK => ?_)
            go_simp
            have hkz : Same w ((((w2.setCell ⟨w.heap.size, 0, none⟩ (.int .i64 0)).setCell ⟨w.heap.size, 1, none⟩ (.int .i64 0)).setCell ⟨w.heap.size, 2, none⟩ (.int .i64 0)).setCell ⟨w.heap.size, 3, none⟩ (.int .i64 0)) := by
              (iterate 4 refine Kept.setCell ?_ (.inl (Nat.le_refl _)) _)
              exact HS2.out.same
            have hS : (fun wx : World => wx.cell? ⟨4, 0, none⟩ = some (.iface 179 (.pointer (some a4)))) ((((w2.setCell ⟨w.heap.size, 0, none⟩ (.int .i64 0)).setCell ⟨w.heap.size, 1, none⟩ (.int .i64 0)).setCell ⟨w.heap.size, 2, none⟩ (.int .i64 0)).setCell ⟨w.heap.size, 3, none⟩ (.int .i64 0)).drew := (HE.out.same hkz.drew).c4
            refine hK.out _ _ (fun _ => hS) ?_
            clear hK K
            try simp only [Act.put, sA, s0, sS]
            refine wpAnyV_one (i := 3) (by kernel_rfl) rfl (fun K hK => ?_)
            go_simp
            refine hK.out _ _ (fun _ => hS) ?_
            clear hK K
            refine wpAnyV_done (by kernel_rfl) ?_
            try simp only [Act.put, sA, s0, sS]
            have HKZ := hid (hkz.drew)
            clear hkz hS
            go_wp2
            refine bodyPost_ret (v := .tuple #[.agg #[.int .i64 0, .int .i64 0, .int .i64 0, .int .i64 0], .iface 179 (.pointer (some a4))]) (by simp [results, Tryd.results54, go_sem, r0, r1, r2, r3]) rfl ⟨⟨_, rfl, .inr ⟨hG, a4, rfl⟩⟩, HKZ.out⟩
        · have hG : mGood bs = false := by rw [HG.out]; simp [hf]
          obtain ⟨ae, hae⟩ := errV_no (a0 := a0) (a1 := a1) (a2 := a2) hf
          rw [hae] at k1
          clear hf HG
          go_wp2_with (go_at_call 58; (with_reducible refine k1.mono ?_); rintro ex w1 ⟨rfl, hk⟩; have HS1 := (show Hid (RdS w w1) from HSx.out.on hk); obtain ⟨r0, r1, r2, r3⟩ := HS1.out.res.all4; have fr := HS1.out.res.frozen; clear hk HSx HMx m0 m1 m2 m3 k1)
          have hkz : Same w ((((w1.setCell ⟨w.heap.size, 0, none⟩ (.int .i64 0)).setCell ⟨w.heap.size, 1, none⟩ (.int .i64 0)).setCell ⟨w.heap.size, 2, none⟩ (.int .i64 0)).setCell ⟨w.heap.size, 3, none⟩ (.int .i64 0)) := by
            (iterate 4 refine Kept.setCell ?_ (.inl (Nat.le_refl _)) _)
            exact HS1.out.same
          refine bodyPost_ret (v := .tuple #[.agg #[.int .i64 0, .int .i64 0, .int .i64 0, .int .i64 0], .iface 179 (.pointer (some ae))]) (by simp [results, Tryd.results54, go_sem, r0, r1, r2, r3]) rfl ⟨⟨_, rfl, .inr ⟨hG, ae, rfl⟩⟩, hkz⟩
      | _ => exact absurd h id
    · refine wp_region_V (fun _ : World => True) 99 15 rfl (by kernel_rfl) ?_
      have HS1 := (show Hid (RdS w (w.alloc (.cells #[.int .i64 0, .int .i64 0, .int .i64 0, .int .i64 0] 28)).drew) from HS0.out.on (Kept.refl _ _).drew)
      obtain ⟨w1, hw1⟩ : ∃ w1, (w.alloc (.cells #[.int .i64 0, .int .i64 0, .int .i64 0, .int .i64 0] 28)).drew = w1 := ⟨_, rfl⟩
      rw [hw1] at HS1 ⊢
      clear hw1 HS0
      have hS : (fun _ : World => True) w1 := trivial
      refine tk 0 11 hS ?_
      refine tk 1 12 hS ?_
      refine tk 3 14 hS ?_
      refine tk 4 15 hS ?_
      refine tk 6 17 hS ?_
      refine tk 7 18 hS ?_
      refine tk 9 20 hS ?_
      refine tk 10 21 hS ?_
      clear hS
      refine wpAnyV_two (i := 2) (j := 13) (by kernel_rfl) rfl rfl (fun K hK => ?_) (fun K hK => ?_)
      · go_simp
        with_reducible refine (q4 _ HS1.out.same).mono ?_
        rintro ex w2 ⟨rfl, hk⟩
        rw [show getN (takeB bs 4 8) = mS bs from rfl]
        have HS2 := (show Hid (RdS w w2) from HS1.out.on hk)
        clear hk HS1
        refine hK.out _ _ (fun _ => trivial) ?_
        clear hK K
        try simp only [Act.put, sA, s0, sS]
        refine wpAnyV_two (i := 5) (j := 13) (by kernel_rfl) rfl rfl (fun K hK => ?_) (fun K hK => ?_)
        · go_simp
          with_reducible refine (q12 _ HS2.out.same).mono ?_
          rintro ex w3 ⟨rfl, hk⟩
          rw [show getN (takeB bs 12 4) = mE bs from rfl]
          have HS3 := (show Hid (RdS w w3) from HS2.out.on hk)
          clear hk HS2
          refine hK.out _ _ (fun _ => trivial) ?_
          clear hK K
          try simp only [Act.put, sA, s0, sS]
          refine wpAnyV_two (i := 8) (j := 13) (by kernel_rfl) rfl rfl (fun K hK => ?_) (fun K hK => ?_)
          · go_simp
            with_reducible refine (q16 _ HS3.out.same).mono ?_
            rintro ex w4 ⟨rfl, hk⟩
            rw [show getN (takeB bs 16 8) = mC bs from rfl]
            have HS4 := (show Hid (RdS w w4) from HS3.out.on hk)
            clear hk HS3
            refine hK.out _ _ (fun _ => trivial) ?_
            clear hK K
            try simp only [Act.put, sA, s0, sS]
            refine wpAnyV_two (i := 11) (j := 13) (by kernel_rfl) rfl rfl (fun K hK => ?_) (fun K hK => ?_)
            · go_simp
              with_reducible refine (q24 _ HS4.out.same).mono ?_
              rintro ex w5 ⟨rfl, hk⟩
              rw [show getN (takeB bs 24 8) = mL bs from rfl]
              have HS5 := (show Hid (RdS w w5) from HS4.out.on hk)
              clear hk HS4
              refine hK.out _ _ (fun _ => trivial) ?_
              clear hK K
              try simp only [Act.put, sA, s0, sS]
              refine tk 12 23 (S := fun _ : World => True) trivial ?_
              refine wpAnyV_one (i := 13) (by kernel_rfl) rfl (fun K hK => ?_)
              go_simp
              have hz := HS5.out.res.lt
              have HM6 := (show Hid (Blk (w5.alloc (.cells #[.int .i64 0, .int .i64 0, .int .i64 0, .int .i64 0] 28)) w5.heap.size 28 [.int .i64 0, .int .i64 0, .int .i64 0, .int .i64 0]) from Blk.new w5 _ _)
              have HS6 := (show Hid (RdS w (w5.alloc (.cells #[.int .i64 0, .int .i64 0, .int .i64 0, .int .i64 0] 28))) from HS5.out.on ((Kept.refl _ _).alloc _))
              have HZ6 := (show Hid (w.heap.size < w5.heap.size) from hz)
              obtain ⟨w6, hw6⟩ : ∃ wy, w5.alloc (.cells #[.int .i64 0, .int .i64 0, .int .i64 0, .int .i64 0] 28) = wy := ⟨_, rfl⟩
              rw [hw6] at HM6 HS6
              rw [hw6]
              clear hw6 hz HS5
              refine hK.out _ _ (fun _ => trivial) ?_
              clear hK K
              try simp only [Act.put, sA, s0, sS]
              refine wpAnyV_one (i := 14) (by kernel_rfl) rfl (fun K hK => ?_)
              have hM := HM6.out
              obtain ⟨m0, m1, m2, m3⟩ := hM.all4
              have fm := hM.frozen
              go_simp
              refine hK.out _ _ (fun _ => trivial) ?_
              clear hK K
              refine wpAnyV_done (by kernel_rfl) ?_
              try simp only [Act.put, sA, s0, sS]
              have hks : Kept (fun b => b = w5.heap.size) w6 ((((w6.setCell ⟨w5.heap.size, 0, none⟩ (.int .i64 (mS bs))).setCell ⟨w5.heap.size, 1, none⟩ (.int .i64 (mE bs))).setCell ⟨w5.heap.size, 2, none⟩ (.int .i64 (mC bs))).setCell ⟨w5.heap.size, 3, none⟩ (.int .i64 (mL bs))) := by
                (iterate 4 refine Kept.setCell (R := fun b => b = w5.heap.size) ?_ (.inr rfl) _)
                exact Kept.refl _ _
              have hM4 := (((hM.stored 0 (.int .i64 (mS bs))).stored 1 (.int .i64 (mE bs))).stored 2 (.int .i64 (mC bs))).stored 3 (.int .i64 (mL bs))
              have hz := HZ6.out
              exact ⟨w5.heap.size, hz, ⟨HS6.out.res.kept hks (by omega), HS6.out.same.next hks (fun b hb e => by omega)⟩, hM4, rfl⟩
            · go_simp
              have hz := HS4.out.res.lt
              have HM7 := (show Hid (Blk (w4.alloc (.cells #[.int .i64 0, .int .i64 0, .int .i64 0, .int .i64 0] 28)) w4.heap.size 28 [.int .i64 0, .int .i64 0, .int .i64 0, .int .i64 0]) from Blk.new w4 _ _)
              have HS7 := (show Hid (RdS w (w4.alloc (.cells #[.int .i64 0, .int .i64 0, .int .i64 0, .int .i64 0] 28))) from HS4.out.on ((Kept.refl _ _).alloc _))
              have HZ7 := (show Hid (w.heap.size < w4.heap.size) from hz)
              obtain ⟨w7, hw7⟩ : ∃ wy, w4.alloc (.cells #[.int .i64 0, .int .i64 0, .int .i64 0, .int .i64 0] 28) = wy := ⟨_, rfl⟩
              rw [hw7] at HM7 HS7
              rw [hw7]
              clear hw7 hz HS4
              refine hK.out _ _ (fun _ => trivial) ?_
              clear hK K
              try simp only [Act.put, sA, s0, sS]
              refine wpAnyV_one (i := 11) (by kernel_rfl) rfl (fun K hK => ?_)
              go_simp
              with_reducible refine (q24 _ HS7.out.same).mono ?_
              rintro ex w8 ⟨rfl, hk⟩
              rw [show getN (takeB bs 24 8) = mL bs from rfl]
              have HS8 := (show Hid (RdS w w8) from HS7.out.on hk)
              have HM8 := hid (HM7.out.same hk)
              have HZ8 := HZ7
              clear hk HS7 HM7 HZ7
              refine hK.out _ _ (fun _ => trivial) ?_
              clear hK K
              try simp only [Act.put, sA, s0, sS]
              refine tk 12 23 (S := fun _ : World => True) trivial ?_
              refine wpAnyV_one (i := 14) (by kernel_rfl) rfl (fun K hK => ?_)
              have hM := HM8.out
              obtain ⟨m0, m1, m2, m3⟩ := hM.all4
              have fm := hM.frozen
              go_simp
              refine hK.out _ _ (fun _ => trivial) ?_
              clear hK K
              refine wpAnyV_done (by kernel_rfl) ?_
              try simp only [Act.put, sA, s0, sS]
              have hks : Kept (fun b => b = w4.heap.size) w8 ((((w8.setCell ⟨w4.heap.size, 0, none⟩ (.int .i64 (mS bs))).setCell ⟨w4.heap.size, 1, none⟩ (.int .i64 (mE bs))).setCell ⟨w4.heap.size, 2, none⟩ (.int .i64 (mC bs))).setCell ⟨w4.heap.size, 3, none⟩ (.int .i64 (mL bs))) := by
                (iterate 4 refine Kept.setCell (R := fun b => b = w4.heap.size) ?_ (.inr rfl) _)
                exact Kept.refl _ _
              have hM4 := (((hM.stored 0 (.int .i64 (mS bs))).stored 1 (.int .i64 (mE bs))).stored 2 (.int .i64 (mC bs))).stored 3 (.int .i64 (mL bs))
              have hz := HZ8.out
              exact ⟨w4.heap.size, hz, ⟨HS8.out.res.kept hks (by omega), HS8.out.same.next hks (fun b hb e => by omega)⟩, hM4, rfl⟩
          · go_simp
            have hz := HS3.out.res.lt
            have HM9 := (show Hid (Blk (w3.alloc (.cells #[.int .i64 0, .int .i64 0, .int .i64 0, .int .i64 0] 28)) w3.heap.size 28 [.int .i64 0, .int .i64 0, .int .i64 0, .int .i64 0]) from Blk.new w3 _ _)
            have HS9 := (show Hid (RdS w (w3.alloc (.cells #[.int .i64 0, .int .i64 0, .int .i64 0, .int .i64 0] 28))) from HS3.out.on ((Kept.refl _ _).alloc _))
            have HZ9 := (show Hid (w.heap.size < w3.heap.size) from hz)
            obtain ⟨w9, hw9⟩ : ∃ wy, w3.alloc (.cells #[.int .i64 0, .int .i64 0, .int .i64 0, .int .i64 0] 28) = wy := ⟨_, rfl⟩
            rw [hw9] at HM9 HS9
            rw [hw9]
            clear hw9 hz HS3
            refine hK.out _ _ (fun _ => trivial) ?_
            clear hK K
            try simp only [Act.put, sA, s0, sS]
            refine wpAnyV_one (i := 8) (by kernel_rfl) rfl (fun K hK => ?_)
            go_simp
            with_reducible refine (q16 _ HS9.out.same).mono ?_
            rintro ex w10 ⟨rfl, hk⟩
            rw [show getN (takeB bs 16 8) = mC bs from rfl]
            have HS10 := (show Hid (RdS w w10) from HS9.out.on hk)
            have HM10 := hid (HM9.out.same hk)
            have HZ10 := HZ9
            clear hk HS9 HM9 HZ9
            refine hK.out _ _ (fun _ => trivial) ?_
            clear hK K
            try simp only [Act.put, sA, s0, sS]
            refine wpAnyV_one (i := 11) (by kernel_rfl) rfl (fun K hK => ?_)
            go_simp
            with_reducible refine (q24 _ HS10.out.same).mono ?_
            rintro ex w11 ⟨rfl, hk⟩
            rw [show getN (takeB bs 24 8) = mL bs from rfl]
            have HS11 := (show Hid (RdS w w11) from HS10.out.on hk)
            have HM11 := hid (HM10.out.same hk)
            have HZ11 := HZ10
            clear hk HS10 HM10 HZ10
            refine hK.out _ _ (fun _ => trivial) ?_
            clear hK K
            try simp only [Act.put, sA, s0, sS]
            refine tk 12 23 (S := fun _ : World => True) trivial ?_
            refine wpAnyV_one (i := 14) (by kernel_rfl) rfl (fun K hK => ?_)
            have hM := HM11.out
            obtain ⟨m0, m1, m2, m3⟩ := hM.all4
            have fm := hM.frozen
            go_simp
            refine hK.out _ _ (fun _ => trivial) ?_
            clear hK K
            refine wpAnyV_done (by kernel_rfl) ?_
            try simp only [Act.put, sA, s0, sS]
            have hks : Kept (fun b => b = w3.heap.size) w11 ((((w11.setCell ⟨w3.heap.size, 0, none⟩ (.int .i64 (mS bs))).setCell ⟨w3.heap.size, 1, none⟩ (.int .i64 (mE bs))).setCell ⟨w3.heap.size, 2, none⟩ (.int .i64 (mC bs))).setCell ⟨w3.heap.size, 3, none⟩ (.int .i64 (mL bs))) := by
              (iterate 4 refine Kept.setCell (R := fun b => b = w3.heap.size) ?_ (.inr rfl) _)
              exact Kept.refl _ _
            have hM4 := (((hM.stored 0 (.int .i64 (mS bs))).stored 1 (.int .i64 (mE bs))).stored 2 (.int .i64 (mC bs))).stored 3 (.int .i64 (mL bs))
            have hz := HZ11.out
            exact ⟨w3.heap.size, hz, ⟨HS11.out.res.kept hks (by omega), HS11.out.same.next hks (fun b hb e => by omega)⟩, hM4, rfl⟩
        · go_simp
          have hz := HS2.out.res.lt
          have HM12 := (show Hid (Blk (w2.alloc (.cells #[.int .i64 0, .int .i64 0, .int .i64 0, .int .i64 0] 28)) w2.heap.size 28 [.int .i64 0, .int .i64 0, .int .i64 0, .int .i64 0]) from Blk.new w2 _ _)
          have HS12 := (show Hid (RdS w (w2.alloc (.cells #[.int .i64 0, .int .i64 0, .int .i64 0, .int .i64 0] 28))) from HS2.out.on ((Kept.refl _ _).alloc _))
          have HZ12 := (show Hid (w.heap.size < w2.heap.size) from hz)
          obtain ⟨w12, hw12⟩ : ∃ wy, w2.alloc (.cells #[.int .i64 0, .int .i64 0, .int .i64 0, .int .i64 0] 28) = wy := ⟨_, rfl⟩
          rw [hw12] at HM12 HS12
          rw [hw12]
          clear hw12 hz HS2
          refine hK.out _ _ (fun _ => trivial) ?_
          clear hK K
          try simp only [Act.put, sA, s0, sS]
          refine wpAnyV_one (i := 5) (by kernel_rfl) rfl (fun K hK => ?_)
          go_simp
          with_reducible refine (q12 _ HS12.out.same).mono ?_
          rintro ex w13 ⟨rfl, hk⟩
          rw [show getN (takeB bs 12 4) = mE bs from rfl]
          have HS13 := (show Hid (RdS w w13) from HS12.out.on hk)
          have HM13 := hid (HM12.out.same hk)
          have HZ13 := HZ12
          clear hk HS12 HM12 HZ12
          refine hK.out _ _ (fun _ => trivial) ?_
          clear hK K
          try simp only [Act.put, sA, s0, sS]
          refine wpAnyV_one (i := 8) (by kernel_rfl) rfl (fun K hK => ?_)
          go_simp
          with_reducible refine (q16 _ HS13.out.same).mono ?_
          rintro ex w14 ⟨rfl, hk⟩
          rw [show getN (takeB bs 16 8) = mC bs from rfl]
          have HS14 := (show Hid (RdS w w14) from HS13.out.on hk)
          have HM14 := hid (HM13.out.same hk)
          have HZ14 := HZ13
          clear hk HS13 HM13 HZ13
          refine hK.out _ _ (fun _ => trivial) ?_
          clear hK K
          try simp only [Act.put, sA, s0, sS]
          refine wpAnyV_one (i := 11) (by kernel_rfl) rfl (fun K hK => ?_)
          go_simp
          with_reducible refine (q24 _ HS14.out.same).mono ?_
          rintro ex w15 ⟨rfl, hk⟩
          rw [show getN (takeB bs 24 8) = mL bs from rfl]
          have HS15 := (show Hid (RdS w w15) from HS14.out.on hk)
          have HM15 := hid (HM14.out.same hk)
          have HZ15 := HZ14
          clear hk HS14 HM14 HZ14
          refine hK.out _ _ (fun _ => trivial) ?_
          clear hK K
          try simp only [Act.put, sA, s0, sS]
          refine tk 12 23 (S := fun _ : World => True) trivial ?_
          refine wpAnyV_one (i := 14) (by kernel_rfl) rfl (fun K hK => ?_)
          have hM := HM15.out
          obtain ⟨m0, m1, m2, m3⟩ := hM.all4
          have fm := hM.frozen
          go_simp
          refine hK.out _ _ (fun _ => trivial) ?_
          clear hK K
          refine wpAnyV_done (by kernel_rfl) ?_
          try simp only [Act.put, sA, s0, sS]
          have hks : Kept (fun b => b = w2.heap.size) w15 ((((w15.setCell ⟨w2.heap.size, 0, none⟩ (.int .i64 (mS bs))).setCell ⟨w2.heap.size, 1, none⟩ (.int .i64 (mE bs))).setCell ⟨w2.heap.size, 2, none⟩ (.int .i64 (mC bs))).setCell ⟨w2.heap.size, 3, none⟩ (.int .i64 (mL bs))) := by
            (iterate 4 refine Kept.setCell (R := fun b => b = w2.heap.size) ?_ (.inr rfl) _)
            exact Kept.refl _ _
          have hM4 := (((hM.stored 0 (.int .i64 (mS bs))).stored 1 (.int .i64 (mE bs))).stored 2 (.int .i64 (mC bs))).stored 3 (.int .i64 (mL bs))
          have hz := HZ15.out
          exact ⟨w2.heap.size, hz, ⟨HS15.out.res.kept hks (by omega), HS15.out.same.next hks (fun b hb e => by omega)⟩, hM4, rfl⟩
      · go_simp
        have hz := HS1.out.res.lt
        have HM16 := (show Hid (Blk (w1.alloc (.cells #[.int .i64 0, .int .i64 0, .int .i64 0, .int .i64 0] 28)) w1.heap.size 28 [.int .i64 0, .int .i64 0, .int .i64 0, .int .i64 0]) from Blk.new w1 _ _)
        have HS16 := (show Hid (RdS w (w1.alloc (.cells #[.int .i64 0, .int .i64 0, .int .i64 0, .int .i64 0] 28))) from HS1.out.on ((Kept.refl _ _).alloc _))
        have HZ16 := (show Hid (w.heap.size < w1.heap.size) from hz)
        obtain ⟨w16, hw16⟩ : ∃ wy, w1.alloc (.cells #[.int .i64 0, .int .i64 0, .int .i64 0, .int .i64 0] 28) = wy := ⟨_, rfl⟩
        rw [hw16] at HM16 HS16
        rw [hw16]
        clear hw16 hz HS1
        refine hK.out _ _ (fun _ => trivial) ?_
        clear hK K
        try simp only [Act.put, sA, s0, sS]
        refine wpAnyV_one (i := 2) (by kernel_rfl) rfl (fun K hK => ?_)
        go_simp
        with_reducible refine (q4 _ HS16.out.same).mono ?_
        rintro ex w17 ⟨rfl, hk⟩
        rw [show getN (takeB bs 4 8) = mS bs from rfl]
        have HS17 := (show Hid (RdS w w17) from HS16.out.on hk)
        have HM17 := hid (HM16.out.same hk)
        have HZ17 := HZ16
        clear hk HS16 HM16 HZ16
        refine hK.out _ _ (fun _ => trivial) ?_
        clear hK K
        try simp only [Act.put, sA, s0, sS]
        refine wpAnyV_one (i := 5) (by kernel_rfl) rfl (fun K hK => ?_)
        go_simp
        with_reducible refine (q12 _ HS17.out.same).mono ?_
        rintro ex w18 ⟨rfl, hk⟩
        rw [show getN (takeB bs 12 4) = mE bs from rfl]
        have HS18 := (show Hid (RdS w w18) from HS17.out.on hk)
        have HM18 := hid (HM17.out.same hk)
        have HZ18 := HZ17
        clear hk HS17 HM17 HZ17
        refine hK.out _ _ (fun _ => trivial) ?_
        clear hK K
        try simp only [Act.put, sA, s0, sS]
        refine wpAnyV_one (i := 8) (by kernel_rfl) rfl (fun K hK => ?_)
        go_simp
        with_reducible refine (q16 _ HS18.out.same).mono ?_
        rintro ex w19 ⟨rfl, hk⟩
        rw [show getN (takeB bs 16 8) = mC bs from rfl]
        have HS19 := (show Hid (RdS w w19) from HS18.out.on hk)
        have HM19 := hid (HM18.out.same hk)
        have HZ19 := HZ18
        clear hk HS18 HM18 HZ18
        refine hK.out _ _ (fun _ => trivial) ?_
        clear hK K
        try simp only [Act.put, sA, s0, sS]
        refine wpAnyV_one (i := 11) (by kernel_rfl) rfl (fun K hK => ?_)
        go_simp
        with_reducible refine (q24 _ HS19.out.same).mono ?_
        rintro ex w20 ⟨rfl, hk⟩
        rw [show getN (takeB bs 24 8) = mL bs from rfl]
        have HS20 := (show Hid (RdS w w20) from HS19.out.on hk)
        have HM20 := hid (HM19.out.same hk)
        have HZ20 := HZ19
        clear hk HS19 HM19 HZ19
        refine hK.out _ _ (fun _ => trivial) ?_
        clear hK K
        try simp only [Act.put, sA, s0, sS]
        refine tk 12 23 (S := fun _ : World => True) trivial ?_
        refine wpAnyV_one (i := 14) (by kernel_rfl) rfl (fun K hK => ?_)
        have hM := HM20.out
        obtain ⟨m0, m1, m2, m3⟩ := hM.all4
        have fm := hM.frozen
        go_simp
        refine hK.out _ _ (fun _ => trivial) ?_
        clear hK K
        refine wpAnyV_done (by kernel_rfl) ?_
        try simp only [Act.put, sA, s0, sS]
        have hks : Kept (fun b => b = w1.heap.size) w20 ((((w20.setCell ⟨w1.heap.size, 0, none⟩ (.int .i64 (mS bs))).setCell ⟨w1.heap.size, 1, none⟩ (.int .i64 (mE bs))).setCell ⟨w1.heap.size, 2, none⟩ (.int .i64 (mC bs))).setCell ⟨w1.heap.size, 3, none⟩ (.int .i64 (mL bs))) := by
          (iterate 4 refine Kept.setCell (R := fun b => b = w1.heap.size) ?_ (.inr rfl) _)
          exact Kept.refl _ _
        have hM4 := (((hM.stored 0 (.int .i64 (mS bs))).stored 1 (.int .i64 (mE bs))).stored 2 (.int .i64 (mC bs))).stored 3 (.int .i64 (mL bs))
        have hz := HZ20.out
        exact ⟨w1.heap.size, hz, ⟨HS20.out.res.kept hks (by omega), HS20.out.same.next hks (fun b hb e => by omega)⟩, hM4, rfl⟩
  · have hl' : ¬ (bs.length : Int) = 512 := by omega
    have hG := mGood_len hl
    go_enter Tryd.func54, Tryd.ntmps54
    go_wp2_with fail
    have hS : (fun wx : World => wx.cell? ⟨3, 0, none⟩ = some (.iface 179 (.pointer (some a3)))) ((w.alloc (.cells #[.int .i64 0, .int .i64 0, .int .i64 0, .int .i64 0] 28)).drew) := (HE.out.same HS0.out.same.drew).c3
    refine wp_region_V (fun wx : World => wx.cell? ⟨3, 0, none⟩ = some (.iface 179 (.pointer (some a3)))) 99 4 rfl (by kernel_rfl) ?_
    refine tk 0 9 hS ?_
    refine tk 1 10 hS ?_
    refine wpAnyV_one (i := 2) (by kernel_rfl) rfl (fun K hK => ?_)
    go_simp
    refine hK.out _ _ (fun _ => hS) ?_
    clear hK K
    try simp only [Act.put, sA, s0, sS]
    refine wpAnyV_one (i := 3) (by kernel_rfl) rfl (fun K hK => ?_)
    go_simp
    refine hK.out _ _ (fun _ => hS) ?_
    clear hK K
    refine wpAnyV_done (by kernel_rfl) ?_
    try simp only [Act.put, sA, s0, sS]
    have hk1 : Same w (w.alloc (.cells #[.int .i64 0, .int .i64 0, .int .i64 0, .int .i64 0] 28)).drew := HS0.out.same.drew
    obtain ⟨r0, r1, r2, r3⟩ := (HS0.out.on (Kept.refl _ _).drew).res.all4
    go_wp2
    refine bodyPost_ret (v := .tuple #[.agg #[.int .i64 0, .int .i64 0, .int .i64 0, .int .i64 0], .iface 179 (.pointer (some a3))]) (by simp [results, Tryd.results54, go_sem, r0, r1, r2, r3]) rfl ⟨⟨_, rfl, .inr ⟨hG, a3, rfl⟩⟩, hk1⟩
theorem implDec_any (v : Value) (bs : List Int) (a0 a1 a2 a3 a4 : Addr) (w : World) (hE : Errs5 w a0 a1 a2 a3 a4) (hB : IsB bs) (hv : Rd .u8 w v bs) :
    Calls Tryd.prog 21 #[v] w fun ex w' => ex = .returned (decV bs) ∧ Same w w' := by
  have hk0 : Same w (w.alloc (.cells #[.bool false, .int .i64 0, .int .i64 0, .int .i64 0, .int .i64 0, .int .i64 0] 30)) := (Kept.refl _ _).alloc _
  have k1 := readMaster_any v bs a0 a1 a2 a3 a4 _ (hE.same hk0) hB (hv.same hk0)
  have HK0 := (show Hid (Same w (w.alloc (.cells #[.bool false, .int .i64 0, .int .i64 0, .int .i64 0, .int .i64 0, .int .i64 0] 30))) from hk0)
  have HB0 := (show Hid (Blk (w.alloc (.cells #[.bool false, .int .i64 0, .int .i64 0, .int .i64 0, .int .i64 0, .int .i64 0] 30)) w.heap.size 30 [.bool false, .int .i64 0, .int .i64 0, .int .i64 0, .int .i64 0, .int .i64 0]) from Blk.new w _ _)
  clear hE hB hv hk0
  go_enter Tryd.func21, Tryd.ntmps21
  go_wp2_with fail
  refine k1.mono ?_
  rintro ex w1 ⟨⟨u, rfl, hR⟩, hk⟩
  have HK1 := (show Hid (Same w w1) from HK0.out.trans hk)
  have HB1 := hid (HB0.out.same hk)
  have hz1 := HB1.out.lt
  clear hk HK0 HB0 k1
  rcases hR with ⟨hG, rfl⟩ | ⟨hG, ae, rfl⟩
  · have HGG := (show Hid (decV bs = resV true 0 (mS bs) (mE bs) (mC bs) (mL bs)) from decV_yes hG)
    clear hG
    go_wp2_with fail
    have hk1 : Same w1 (w1.alloc (.cells #[.int .i64 (mS bs), .int .i64 (mE bs), .int .i64 (mC bs), .int .i64 (mL bs)] 28)).drew := ((Kept.refl _ _).alloc _).drew
    have hS : (fun wx : World => wx.cell? ⟨w1.heap.size, 0, none⟩ = some (.int .i64 (mS bs)) ∧ wx.cell? ⟨w1.heap.size, 1, none⟩ = some (.int .i64 (mE bs)) ∧ wx.cell? ⟨w1.heap.size, 2, none⟩ = some (.int .i64 (mC bs)) ∧ wx.cell? ⟨w1.heap.size, 3, none⟩ = some (.int .i64 (mL bs))) (w1.alloc (.cells #[.int .i64 (mS bs), .int .i64 (mE bs), .int .i64 (mC bs), .int .i64 (mL bs)] 28)).drew := ((Blk.new w1 #[.int .i64 (mS bs), .int .i64 (mE bs), .int .i64 (mC bs), .int .i64 (mL bs)] 28).same (Kept.refl _ _).drew).all4
    refine wp_region_V (fun wx : World => wx.cell? ⟨w1.heap.size, 0, none⟩ = some (.int .i64 (mS bs)) ∧ wx.cell? ⟨w1.heap.size, 1, none⟩ = some (.int .i64 (mE bs)) ∧ wx.cell? ⟨w1.heap.size, 2, none⟩ = some (.int .i64 (mC bs)) ∧ wx.cell? ⟨w1.heap.size, 3, none⟩ = some (.int .i64 (mL bs))) 4 5 rfl (by kernel_rfl) ?_
    refine tk 0 10 hS ?_
    refine tk 1 11 hS ?_
    refine tk 2 12 hS ?_
    refine tk 3 13 hS ?_
    refine wpAnyV_one (i := 4) (by kernel_rfl) rfl (fun K hK => ?_)
    have hb := HB1.out.same hk1
    have z0 : (w1.alloc (.cells #[.int .i64 (mS bs), .int .i64 (mE bs), .int .i64 (mC bs), .int .i64 (mL bs)] 28)).drew.cell? ⟨w.heap.size, 0, none⟩ = some (.bool false) := hb.cell 0
    have z1 : (w1.alloc (.cells #[.int .i64 (mS bs), .int .i64 (mE bs), .int .i64 (mC bs), .int .i64 (mL bs)] 28)).drew.cell? ⟨w.heap.size, 1, none⟩ = some (.int .i64 0) := hb.cell 1
    have z2 : (w1.alloc (.cells #[.int .i64 (mS bs), .int .i64 (mE bs), .int .i64 (mC bs), .int .i64 (mL bs)] 28)).drew.cell? ⟨w.heap.size, 2, none⟩ = some (.int .i64 0) := hb.cell 2
    have z3 : (w1.alloc (.cells #[.int .i64 (mS bs), .int .i64 (mE bs), .int .i64 (mC bs), .int .i64 (mL bs)] 28)).drew.cell? ⟨w.heap.size, 3, none⟩ = some (.int .i64 0) := hb.cell 3
    have z4 : (w1.alloc (.cells #[.int .i64 (mS bs), .int .i64 (mE bs), .int .i64 (mC bs), .int .i64 (mL bs)] 28)).drew.cell? ⟨w.heap.size, 4, none⟩ = some (.int .i64 0) := hb.cell 4
    have z5 : (w1.alloc (.cells #[.int .i64 (mS bs), .int .i64 (mE bs), .int .i64 (mC bs), .int .i64 (mL bs)] 28)).drew.cell? ⟨w.heap.size, 5, none⟩ = some (.int .i64 0) := hb.cell 5
    have fz := hb.frozen
    have HK2 := hid (HK1.out.trans hk1)
    obtain ⟨w2, hw2⟩ : ∃ w2, (w1.alloc (.cells #[.int .i64 (mS bs), .int .i64 (mE bs), .int .i64 (mC bs), .int .i64 (mL bs)] 28)).drew = w2 := ⟨_, rfl⟩
    rw [hw2] at z0 z1 z2 z3 z4 z5 fz HK2 ⊢
    clear hS hb hk1 hw2 HB1 HK1
    go_simp
    refine hK.out _ _ (fun h => absurd rfl h) ?_
    clear hK K
    refine wpAnyV_done (by kernel_rfl) ?_
    try simp only [Act.put, sA, s0, sS]
    go_wp2
    refine bodyPost_ret (v := resV true 0 (mS bs) (mE bs) (mC bs) (mL bs)) (by simp [results, Tryd.results21, go_sem, resV, z0, z1, z2, z3, z4, z5]) rfl ⟨by rw [HGG.out], ?_⟩
    (iterate 6 refine Kept.setCell ?_ (.inl (Nat.le_refl _)) _)
    exact HK2.out
  · have HGG := (show Hid (decV bs = resV false 0 0 0 0 0) from decV_no hG)
    clear hG
    go_wp2_with fail
    have hk1 : Same w1 (w1.alloc (.cells #[.int .i64 0, .int .i64 0, .int .i64 0, .int .i64 0] 28)).drew := ((Kept.refl _ _).alloc _).drew
    have hS : (fun wx : World => wx.cell? ⟨w1.heap.size, 0, none⟩ = some (.int .i64 0) ∧ wx.cell? ⟨w1.heap.size, 1, none⟩ = some (.int .i64 0) ∧ wx.cell? ⟨w1.heap.size, 2, none⟩ = some (.int .i64 0) ∧ wx.cell? ⟨w1.heap.size, 3, none⟩ = some (.int .i64 0)) (w1.alloc (.cells #[.int .i64 0, .int .i64 0, .int .i64 0, .int .i64 0] 28)).drew := ((Blk.new w1 #[.int .i64 0, .int .i64 0, .int .i64 0, .int .i64 0] 28).same (Kept.refl _ _).drew).all4
    refine wp_region_V (fun wx : World => wx.cell? ⟨w1.heap.size, 0, none⟩ = some (.int .i64 0) ∧ wx.cell? ⟨w1.heap.size, 1, none⟩ = some (.int .i64 0) ∧ wx.cell? ⟨w1.heap.size, 2, none⟩ = some (.int .i64 0) ∧ wx.cell? ⟨w1.heap.size, 3, none⟩ = some (.int .i64 0)) 4 5 rfl (by kernel_rfl) ?_
    refine tk 0 10 hS ?_
    refine tk 1 11 hS ?_
    refine tk 2 12 hS ?_
    refine tk 3 13 hS ?_
    refine wpAnyV_one (i := 4) (by kernel_rfl) rfl (fun K hK => ?_)
    have hb := HB1.out.same hk1
    have z0 : (w1.alloc (.cells #[.int .i64 0, .int .i64 0, .int .i64 0, .int .i64 0] 28)).drew.cell? ⟨w.heap.size, 0, none⟩ = some (.bool false) := hb.cell 0
    have z1 : (w1.alloc (.cells #[.int .i64 0, .int .i64 0, .int .i64 0, .int .i64 0] 28)).drew.cell? ⟨w.heap.size, 1, none⟩ = some (.int .i64 0) := hb.cell 1
    have z2 : (w1.alloc (.cells #[.int .i64 0, .int .i64 0, .int .i64 0, .int .i64 0] 28)).drew.cell? ⟨w.heap.size, 2, none⟩ = some (.int .i64 0) := hb.cell 2
    have z3 : (w1.alloc (.cells #[.int .i64 0, .int .i64 0, .int .i64 0, .int .i64 0] 28)).drew.cell? ⟨w.heap.size, 3, none⟩ = some (.int .i64 0) := hb.cell 3
    have z4 : (w1.alloc (.cells #[.int .i64 0, .int .i64 0, .int .i64 0, .int .i64 0] 28)).drew.cell? ⟨w.heap.size, 4, none⟩ = some (.int .i64 0) := hb.cell 4
    have z5 : (w1.alloc (.cells #[.int .i64 0, .int .i64 0, .int .i64 0, .int .i64 0] 28)).drew.cell? ⟨w.heap.size, 5, none⟩ = some (.int .i64 0) := hb.cell 5
    have fz := hb.frozen
    have HK2 := hid (HK1.out.trans hk1)
    obtain ⟨w2, hw2⟩ : ∃ w2, (w1.alloc (.cells #[.int .i64 0, .int .i64 0, .int .i64 0, .int .i64 0] 28)).drew = w2 := ⟨_, rfl⟩
    rw [hw2] at z0 z1 z2 z3 z4 z5 fz HK2 ⊢
    clear hS hb hk1 hw2 HB1 HK1
    go_simp
    refine hK.out _ _ (fun h => absurd rfl h) ?_
    clear hK K
    refine wpAnyV_done (by kernel_rfl) ?_
    try simp only [Act.put, sA, s0, sS]
    go_wp2
    refine bodyPost_ret (v := resV false 0 0 0 0 0) (by simp [results, Tryd.results21, go_sem, resV, z0, z1, z2, z3, z4, z5]) rfl ⟨by rw [HGG.out], ?_⟩
    (iterate 6 refine Kept.setCell ?_ (.inl (Nat.le_refl _)) _)
    exact HK2.out
end Go.Proofs.YtnkollbhicmdhaaDoor
