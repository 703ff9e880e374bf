/-
  (*impl.platter).sync.
-/
import Derived.Test.YtoibckbgiiggfaiOpenDisk
namespace Go.Proofs.Ytoibckbgiiggfai
open Go.RowKit
set_option linter.unusedSimpArgs false

theorem zero93 : ∀ w, (zeroValue 93).run Try.prog w = .ok (.agg zeros93) w := by
  obtain ⟨i0, hi, hz0, hz1, hz2⟩ := info_parts Try.info93
  intro w
  simp [zeroValue, typeInfo, hi, hz0]

set_option maxRecDepth 100000 in
set_option maxHeartbeats 4000000 in
theorem sync_any (B : Nat) (dv pv : Value) (dur : List Int) (ds : List (Int × List Int)) (w : World) (hp : Plat w B dv pv dur ds) (hval : Valid dur.length ds) :
    Calls Try.prog 56 #[.pointer (some ⟨B, 0, none⟩)] w fun e w' => e = .returned (.tuple #[]) ∧ Plat w' B dv (.slice none 0 0) (settleN (fun _ => true) dur ds ds.length) [] ∧ Kept (fun b => b = B ∨ dv.ownBlock = some b) w w' := by
  obtain ⟨gd, cd, rfl⟩ : ∃ gd cd, dv = .slice (some ⟨gd, 0, none⟩) (dur.length / 512) cd := by
    rcases hp.dur.2 with ⟨_, h⟩ | ⟨g, cap, _, h, _⟩
    · have := hval.1.2.1; omega
    · exact ⟨g, cap, h⟩
  obtain ⟨aq, cq, rfl⟩ : ∃ aq cq, pv = .slice aq ds.length cq := by
    rcases hp.pend.2 with ⟨rfl, h⟩ | ⟨g, cap, _, h, _⟩
    · exact ⟨none, 0, by rw [h]⟩
    · exact ⟨_, _, h⟩
  have HP : Hid (Plat w B (.slice (some ⟨gd, 0, none⟩) (dur.length / 512) cd) (.slice aq ds.length cq) dur ds) := hp
  have HV : Hid (Valid dur.length ds) := hval
  have hdl : ds.length ≤ 8192 := hval.1.2.2.2
  have hdn : dur.length / 512 ≤ 1024 := hval.1.2.2.1
  obtain ⟨n, hn⟩ : ∃ n, dur.length / 512 = n := ⟨_, rfl⟩
  rw [hn] at HP hdn ⊢
  have HN : Hid (dur.length = n * 512) := by have := hval.1.1; unfold Hid; omega
  have hbd : gd ≠ B := fun e => HP.out.a1 (by rw [e]; rfl)
  clear hp hval hn
  have hz93 := zero93
  obtain ⟨p1, p2, p3, p4⟩ := HP.out.box
  go_enter Try.func56, Try.ntmps56
  go_wp2
  go_loopw [9] (fun i wr => ∃ (k : Nat), k ≤ ds.length ∧ i = .int .i64 k ∧ Hid (wr.ownsRow 0 91 512 (.slice (some ⟨gd, 0, none⟩) n cd) n (vals .u8 (settleN (fun _ => true) dur ds k))) ∧ Hid (Kept (fun b => b = gd) w wr)) (fun i _ => ds.length - (intOf i).toNat)
  case atStart => exact ⟨0, Nat.zero_le _, rfl, (by have h := HP.out.dur; rw [show dur.length / 512 = n from by have := HN.out; omega] at h; exact h), Kept.refl _ _⟩
  case round =>
    obtain ⟨k, hk, rfl, HRr, HKr⟩ := hrel
    by_cases hlt : k < ds.length
    · obtain ⟨gq, rfl⟩ : ∃ gq, aq = some ⟨gq, 0, none⟩ := by
        rcases HP.out.pend.2 with ⟨h, h0⟩ | ⟨g, cap, _, h, _⟩
        · omega
        · simp only [Value.slice.injEq] at h; exact ⟨g, h.1⟩
      have hgq : gq ≠ gd := fun e => HP.out.a3 gd rfl (by rw [e]; rfl)
      obtain ⟨v1, v2, v3⟩ := HV.out.2 ds[k] (List.getElem_mem hlt)
      have hpr := HKr.out.owns HP.out.pend (fun b hb => by have e : b = gq := (Option.some.inj hb).symm; show ¬ b = gd; omega)
      have hplen : (penCells ds).length = ds.length * 513 := penCells_length ds (fun p hp => (HV.out.2 p hp).2.2)
      have hrange : wr.rangeAt gq (k * 513) (Value.int .i64 ds[k].1 :: vals .u8 ds[k].2) := by
        have h := owns_range hpr (k * 513) 513 (by rw [hplen]; omega)
        rw [penCells_at ds (fun p hp => (HV.out.2 p hp).2.2) k hlt] at h
        have e : (Value.int .i64 ds[k].1 :: (vals .u8 ds[k].2 ++ penCells (ds.drop (k + 1)))).take 513 = Value.int .i64 ds[k].1 :: vals .u8 ds[k].2 := by
          rw [List.take_succ_cons, List.take_append_of_le_length (by rw [vals_length, v3]; exact Nat.le_refl _), List.take_of_length_le (by rw [vals_length, v3]; exact Nat.le_refl _)]
        rw [e] at h
        exact h
      have HRG := (show Hid (wr.rangeAt gq (k * 513) (Value.int .i64 ds[k].1 :: vals .u8 ds[k].2)) from hrange)
      have hcl : (vals .u8 ds[k].2).length = 512 := by rw [vals_length]; exact v3
      have HCL : Hid ((Value.int .i64 ds[k].1 :: vals .u8 ds[k].2).length = 513) := by unfold Hid; rw [List.length_cons, hcl]
      have HI93 : Hid ((Try.prog.info? 93).map (·.size) = some (Value.int .i64 ds[k].1 :: vals .u8 ds[k].2).length) := by
        obtain ⟨i0, hi, hz0, hz1, hz2⟩ := info_parts Try.info93
        unfold Hid; rw [HCL.out, hi]; simp [hz1]
      obtain ⟨cs, hcs⟩ : ∃ cs, cs = Value.int .i64 ds[k].1 :: vals .u8 ds[k].2 := ⟨_, rfl⟩
      rw [← hcs] at HRG HCL HI93
      have HCS : Hid (cs = Value.int .i64 ds[k].1 :: vals .u8 ds[k].2) := hcs
      have HONE : Hid (∀ u ∈ cs, u.oneCell' = true) := fun u hu => by
        rw [hcs] at hu
        rcases List.mem_cons.1 hu with rfl | hu
        · rfl
        · exact vals_one u hu
      have hzs : zeros93.size = 513 := by kernel_rfl
      have HTH : Hid ((wr.alloc (.cells zeros93 93)).there wr.heap.size 0 cs.toArray.size) := fun j hj => by
        rw [List.size_toArray, HCL.out] at hj
        refine ⟨?_, ?_⟩
        · rw [cell_of_row _ wr.heap.size (0 + j) zeros93 93 (0, 0) (heap_alloc_new wr _)]
          simp [hzs, hj]
        · exact frozen_of_row _ _ _ zeros93 93 (heap_alloc_new wr _)
      have HI93' : Hid ((Try.prog.info? 93).map (·.size) = some cs.toArray.size) := by rw [List.size_toArray]; exact HI93
      obtain ⟨wb, hwb⟩ : ∃ wb, wb = (wr.alloc (.cells zeros93 93)).setCells wr.heap.size 0 cs := ⟨_, rfl⟩
      have HRB : Hid (wb.rangeAt wr.heap.size 0 cs) := by rw [hwb]; exact World.rangeAt_setCells_same _ _ _ _ (by have h := HTH.out; rwa [List.size_toArray] at h)
      have HKB : Hid (Same wr wb) := by
        obtain ⟨_, hgr⟩ := owns_setCells (base := 0) (e := 93) (size := 513) (g := wr.heap.size) (n := 1) (cap := 1) cs 0 (wr.alloc (.cells zeros93 93)) zeros93.toList (World.ownsRow_lit wr zeros93 1 (Nat.zero_le _) (by unfold maxLen; omega) (by rw [hzs])) (by rw [HCL.out, Array.length_toList, hzs]; exact Nat.le_refl _)
        rw [hwb]
        exact ((Kept.refl _ _).alloc _).grown hgr (fun k e => .inl (by have : wr.heap.size = k := Option.some.inj e; omega))
      have HWB : Hid (wb = (wr.alloc (.cells zeros93 93)).setCells wr.heap.size 0 cs) := hwb
      clear hcs hwb
      have hki : (k : Int) < (ds.length : Int) := by omega
      have hk0 : (0 : Int) ≤ (k : Int) := by omega
      clear hpr hplen hrange p1 p2 p3 p4
      have hst : ∀ k, k ≤ ds.length → (settleN (fun _ => true) dur ds k).length = dur.length := fun k hk => settleN_length _ _ _ HV.out k hk
      obtain ⟨sn, hsn⟩ : ∃ sn : Nat, ds[k].1 = sn := ⟨ds[k].1.toNat, by omega⟩
      have hnn := HN.out
      have hsn1 : sn < n := by have := v2; omega
      have x1 := ((HP.out.box.kept HKr.out (by show ¬ B = gd; omega)).same HKB.out).1
      have x2 := ((HP.out.box.kept HKr.out (by show ¬ B = gd; omega)).same HKB.out).2.1
      have y1 : wb.cell? ⟨wr.heap.size, 0, none⟩ = some (.int .i64 (sn : Int)) := by have h := HRB.out 0 (.int .i64 ds[k].1) (by rw [HCS.out]; rfl); rw [hsn] at h; exact h
      have RG : Hid (wb.drew.rangeAt wr.heap.size 1 (vals .u8 ds[k].2)) := fun j v hj => by
        have h := HRB.out (j + 1) v (by rw [HCS.out, List.getElem?_cons_succ]; exact hj)
        show wb.cell? _ = _
        rw [← h]
        congr 2
        omega
      have HI91 : Hid ((Try.prog.info? 91).map (·.size) = some (vals .u8 ds[k].2).length) := by
        obtain ⟨j0, hj, hy0, hy1, hy2⟩ := info_parts Try.info91
        unfold Hid; rw [hcl, hj]; simp [hy1]
      have HID : Hid ((Try.prog.info? 91).map (·.size) = some (vals .u8 ds[k].2).toArray.size) := by rw [List.size_toArray]; exact HI91
      have HOD := (show Hid (wb.drew.ownsRow 0 91 512 (.slice (some ⟨gd, 0, none⟩) n cd) n (vals .u8 (settleN (fun _ => true) dur ds k))) from (HKB.out.owns HRr.out (fun _ _ => id)).drew)
      have HFD : Hid (sn * 512 + 512 ≤ (vals .u8 (settleN (fun _ => true) dur ds k)).length) := by unfold Hid; rw [vals_length, hst k (by omega)]; omega
      have HTD : Hid (wb.drew.there gd (sn * 512) (vals .u8 ds[k].2).toArray.size) := by rw [List.size_toArray, hcl]; exact owns_there HOD.out (sn * 512) 512 HFD.out
      have HST : Hid (vals .u8 (settleN (fun _ => true) dur ds (k + 1)) = lay (vals .u8 (settleN (fun _ => true) dur ds k)) (sn * 512) (vals .u8 ds[k].2)) := by
        unfold Hid
        have e : ds.getD k (0, []) = ds[k] := by simp [List.getD, hlt]
        rw [settleN, if_pos rfl, e, hsn, Int.toNat_natCast]
        simp [vals, putAt, lay]
      have g1 : (sn : Int) < (n : Int) := by omega
      have g2 : (0 : Int) ≤ (sn : Int) := by omega
      have HSN : Hid (ds[k].1 = sn) := hsn
      have HCL2 : Hid ((vals .u8 ds[k].2).length = 512) := hcl
      clear hst hnn hsn v1 v2 v3 hcl hzs
      go_wp2_with (first | (refine wpList_load_mid rfl 93 _ rfl gq (k * 513) rfl cs _ HRG.out Try.underlying93 rfl HI93.out ?_) | (refine wpList_store_mid rfl 93 _ _ rfl wr.heap.size 0 cs.toArray rfl rfl HTH.out HI93'.out (all_oneCell_toArray HONE.out) ?_; rw [List.toList_toArray, ← HWB.out]))
      have hS : (fun w' => w'.cell? ⟨B, 0, none⟩ = some (.slice (some ⟨gd, 0, none⟩) n cd) ∧ w'.cell? ⟨wr.heap.size, 0, none⟩ = some (.int .i64 (sn : Int)) ∧ w'.rangeAt wr.heap.size 1 (vals .u8 ds[k].2)) wb.drew := by exact ⟨x1, y1, RG.out⟩
      refine wp_region_V (fun w' => w'.cell? ⟨B, 0, none⟩ = some (.slice (some ⟨gd, 0, none⟩) n cd) ∧ w'.cell? ⟨wr.heap.size, 0, none⟩ = some (.int .i64 (sn : Int)) ∧ w'.rangeAt wr.heap.size 1 (vals .u8 ds[k].2)) 9 10 rfl (by kernel_rfl) ?_
      refine wpAnyV_take (i := 0) (v := ?vq1101) (some 13) rfl rfl (by kernel_rfl) (by kernel_rfl) (by kernel_rfl) (by kernel_rfl) (fun _ _ _ h => h) (Or.inl ⟨by rfl, ?hyq1101⟩) hS ?_
      case hyq1101 => (intro w hSw; (try dsimp only at hSw); go_simp; (try with_reducible rfl))
      try simp only [Act.put, List.setIfInBounds_toArray, List.set_cons_zero, List.set_cons_succ]
      refine wpAnyV_take (i := 1) (v := ?vq1102) (some 14) rfl rfl (by kernel_rfl) (by kernel_rfl) (by kernel_rfl) (by kernel_rfl) (fun _ _ _ h => h) (Or.inl ⟨by rfl, ?hyq1102⟩) hS ?_
      case hyq1102 => (intro w hSw; (try dsimp only at hSw); go_simp; (try with_reducible rfl))
      try simp only [Act.put, List.setIfInBounds_toArray, List.set_cons_zero, List.set_cons_succ]
      refine wpAnyV_take (i := 2) (v := ?vq1103) (some 15) rfl rfl (by kernel_rfl) (by kernel_rfl) (by kernel_rfl) (by kernel_rfl) (fun _ _ _ h => h) (Or.inl ⟨by rfl, ?hyq1103⟩) hS ?_
      case hyq1103 => (intro w hSw; (try dsimp only at hSw); go_simp; (try with_reducible rfl))
      try simp only [Act.put, List.setIfInBounds_toArray, List.set_cons_zero, List.set_cons_succ]
      refine wpAnyV_take (i := 3) (v := ?vq1104) (some 16) rfl rfl (by kernel_rfl) (by kernel_rfl) (by kernel_rfl) (by kernel_rfl) (fun _ _ _ h => h) (Or.inl ⟨by rfl, ?hyq1104⟩) hS ?_
      case hyq1104 => (intro w hSw; (try dsimp only at hSw); go_simp; (try with_reducible rfl))
      try simp only [Act.put, List.setIfInBounds_toArray, List.set_cons_zero, List.set_cons_succ]
      refine wpAnyV_take (i := 4) (v := ?vq1105) (some 17) rfl rfl (by kernel_rfl) (by kernel_rfl) (by kernel_rfl) (by kernel_rfl) (fun _ _ _ h => h) (Or.inl ⟨by rfl, ?hyq1105⟩) hS ?_
      case hyq1105 => (intro w hSw; (try dsimp only at hSw); go_simp; (try with_reducible rfl))
      try simp only [Act.put, List.setIfInBounds_toArray, List.set_cons_zero, List.set_cons_succ]
      refine wpAnyV_take (i := 5) (v := ?vq1106) (some 18) rfl rfl (by kernel_rfl) (by kernel_rfl) (by kernel_rfl) (by kernel_rfl) (fun _ _ _ h => h) (Or.inl ⟨by rfl, ?hyq1106⟩) hS ?_
      case hyq1106 => (intro w hSw; (try dsimp only at hSw); go_simp; (try with_reducible rfl))
      try simp only [Act.put, List.setIfInBounds_toArray, List.set_cons_zero, List.set_cons_succ]
      refine wpAnyV_take (i := 6) (v := ?vq1107) (some 19) rfl rfl (by kernel_rfl) (by kernel_rfl) (by kernel_rfl) (by kernel_rfl) (fun _ _ _ h => h) (Or.inl ⟨by rfl, ?hyq1107⟩) hS ?_
      case hyq1107 => (intro w hSw; (try dsimp only at hSw); go_simp; (try with_reducible rfl))
      try simp only [Act.put, List.setIfInBounds_toArray, List.set_cons_zero, List.set_cons_succ]
      refine wpAnyV_take (i := 7) (v := .agg (vals .u8 ds[k].2).toArray) (some 20) rfl rfl (by kernel_rfl) (by kernel_rfl) (by kernel_rfl) (by kernel_rfl) (fun _ _ _ h => h) (yieldsIf_load_mid (by rfl) _ _ rfl _ _ rfl _ _ (fun w hSw => by (try dsimp only at hSw); exact hSw.2.2) Try.underlying91 rfl HI91.out) hS ?_
      try simp only [Act.put, List.setIfInBounds_toArray, List.set_cons_zero, List.set_cons_succ]
      refine wpAnyV_take (i := 8) (v := ?vq1108) (some 21) rfl rfl (by kernel_rfl) (by kernel_rfl) (by kernel_rfl) (by kernel_rfl) (fun _ _ _ h => h) (Or.inl ⟨by rfl, ?hyq1108⟩) hS ?_
      case hyq1108 => (intro w hSw; (try dsimp only at hSw); go_simp; (try with_reducible rfl))
      try simp only [Act.put, List.setIfInBounds_toArray, List.set_cons_zero, List.set_cons_succ]
      refine wpAnyV_one (i := 9) (by kernel_rfl) rfl (fun K hK => ?_)
      rw [if_pos (by rfl)]
      refine wp_store_mid _ _ _ rfl gd (sn * 512) (vals .u8 ds[k].2).toArray rfl rfl HTD.out HID.out (all_oneCell_toArray (fun v hv => vals_one v hv)) ?_
      simp only [List.getElem_toArray, List.getElem_cons_succ, List.getElem_cons_zero, List.toList_toArray]
      refine hK.out _ _ (fun h => absurd rfl h) ?_
      clear hK K
      refine wpAnyV_done (by kernel_rfl) ?_
      try simp only [Act.put, List.setIfInBounds_toArray, List.set_cons_zero, List.set_cons_succ]
      obtain ⟨q1, q2⟩ := owns_setCells (vals .u8 ds[k].2) (sn * 512) wb.drew _ HOD.out (by rw [HCL2.out]; exact HFD.out)
      rw [← HST.out] at q1
      have HR2 := (show Hid (World.ownsRow _ 0 91 512 (.slice (some ⟨gd, 0, none⟩) n cd) n (vals .u8 (settleN (fun _ => true) dur ds (k + 1)))) from q1)
      have HK2 := (show Hid (Kept (fun b => b = gd) w _) from (HKr.out.trans ((HKB.out.mono (fun _ _ h => h.elim)).drew)).trans (Kept.of_grown q2 (fun k e => (Option.some.inj e).symm)))
      generalize wb.drew.setCells gd (sn * 512) (vals .u8 ds[k].2) = wn at *
      clear q1 q2 hS x1 x2 y1
      go_wp2
      go_roundw
      case rel => exact ⟨k + 1, by omega, by go_num, HR2, HK2⟩
      case measure => simp [intOf]; omega
    · obtain rfl : k = ds.length := by omega
      have HX := (show Hid (FBox wr B (.slice (some ⟨gd, 0, none⟩) n cd) (.slice aq ds.length cq)) from HP.out.box.kept HKr.out (by show ¬ B = gd; omega))
      clear p1 p2 p3 p4
      obtain ⟨p1, p2, p3, p4⟩ := HX.out
      go_wp2
      go_end0
      have hl := settleN_length (fun _ => true) dur ds HV.out ds.length (Nat.le_refl _)
      have hk2 : Kept (fun b => b = B) wr (wr.setCell ⟨B, 1, none⟩ (.slice none 0 0)) := Kept.setCell (Kept.refl (fun b => b = B) wr) (p := ⟨B, 1, none⟩) (.inr rfl) _
      refine ⟨rfl, ⟨HX.out.set1 _, ?_, World.ownsRow_nil _ _ _ _, HP.out.a1, by simp [Value.ownBlock], fun b _ hb => by simp [Value.ownBlock] at hb⟩, ?_⟩
      · rw [hl, show dur.length / 512 = n from by have := HN.out; omega]
        exact hk2.owns HRr.out (fun b hb => by have e : b = gd := (Option.some.inj hb).symm; show ¬ b = B; omega)
      · exact (HKr.out.mono (fun b _ e => .inr (by rw [e]; rfl))).trans (hk2.mono (fun b _ e => .inl e))
end Go.Proofs.Ytoibckbgiiggfai
