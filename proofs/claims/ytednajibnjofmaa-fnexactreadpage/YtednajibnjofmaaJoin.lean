/-
  impl.joinPage: eight sectors joined to a page.
-/
import Derived.Test.YtednajibnjofmaaSeen
import Derived.Test.YtednajibnjofmaaCopyM
import Derived.Test.YtednajibnjofmaaJoinD
namespace Go.Proofs.Ytednajibnjofmaa
set_option maxRecDepth 100000
set_option maxHeartbeats 4000000
open Go.RowKit
set_option linter.unusedVariables false
set_option linter.unusedSimpArgs false

theorem lay_join (A C : List Int) (m : Nat) (h : C.length ≤ m) : lay (vals .u8 (A ++ List.replicate m 0)) A.length (vals .u8 C) = vals .u8 ((A ++ C) ++ List.replicate (m - C.length) 0) := by
  unfold lay
  simp only [vals, List.length_map, List.map_append, List.map_replicate]
  rw [List.take_append_of_le_length (by simp), List.take_of_length_le (by simp), List.drop_append, List.drop_eq_nil_of_le (by simp), List.drop_replicate]
  simp
theorem join_any (G n : Nat) (us : List Value) (F : Nat) (S : Nat → List Int) (w : World) (hG : Blk w G 22 us) (hF : F + 8 ≤ n) (hm : n ≤ 1024) (hS8 : ∀ i, i < 8 → (S i).length = 512) (hR : ∀ i, i < 8 → ∃ u, us[F + i]? = some u ∧ Rd .u8 w u (S i)) :
    Calls Try.prog 29 #[.slice (some ⟨G, 0, none⟩) n n, .int .i64 (F : Int)] w fun e w' => e = .returned (.agg (vals .u8 (joinS S 8)).toArray) ∧ Same w w' := by
  have HG := hid hG
  have HS8 := hid hS8
  have HR := hid hR
  have hGl := hG.lt
  have hj : (Try.prog.info? 5).map (·.size) = some 1 := by kernel_rfl
  have hz8 : Try.zeroCells52.toList = vals .u8 (List.replicate 4096 0) := by kernel_rfl
  clear hG hS8 hR
  go_enter Try.func29, Try.ntmps29
  go_wp2_with fail
  obtain ⟨w1, hw1⟩ : ∃ w1, ((w.alloc (.cells Try.zeroCells52 52)).alloc (.cells Try.zeroCells52 52)) = w1 := ⟨_, rfl⟩
  have HB1 := (show Hid (Blk w1 w.heap.size 52 (vals .u8 (List.replicate 4096 0))) from by
    rw [← hw1, ← hz8]
    exact (Blk.new w Try.zeroCells52 52).alloc _)
  have HB2 := (show Hid (Blk w1 (w.heap.size + 1) 52 (vals .u8 (List.replicate 4096 0))) from by
    rw [← hw1, ← hz8]
    have h := Blk.new (w.alloc (.cells Try.zeroCells52 52)) Try.zeroCells52 52
    rw [World.size_alloc] at h
    exact h)
  have HK1 := (show Hid (Same w w1) from by rw [← hw1]; exact ((Kept.refl _ _).alloc _).alloc _)
  rw [hw1]
  clear hw1 hz8
  go_loopw [7] (fun i wr => ∃ (k : Nat), k ≤ 8 ∧ i = .int .i64 (k : Int) ∧ Hid (Blk wr w.heap.size 52 (vals .u8 (List.replicate 4096 0))) ∧ Hid (Blk wr (w.heap.size + 1) 52 (vals .u8 (joinS S k ++ List.replicate (4096 - k * 512) 0))) ∧ Hid (Same w wr)) (fun i _ => 8 - (intOf i).toNat)
  case atStart => exact ⟨0, Nat.zero_le _, rfl, HB1, HB2, HK1⟩
  case round =>
    obtain ⟨k, hk, rfl, HA, HB, HK⟩ := hrel
    clear HB1 HB2 HK1
    by_cases hlt : k < 8
    case pos =>
      obtain ⟨u, hu, hr⟩ := HR.out k hlt
      have hl8 := HS8.out k hlt
      have hlj := joinS_length S k (fun i hi => HS8.out i (by omega))
      obtain ⟨bu, ou, cu, rfl, hcu⟩ : ∃ b off c, u = .slice (some ⟨b, off, none⟩) 512 c ∧ ∀ i, i < 512 → w.cell? ⟨b, off + i, none⟩ = some (.int .u8 ((S k).getD i 0)) := by
        rcases hr.2 with ⟨h, _⟩ | ⟨b, off, c, e, hl, hc⟩
        · rw [h] at hl8; simp at hl8
        · rw [hl8] at e hc
          exact ⟨b, off, c, e, hc⟩
      have hcG := (HG.out.same HK.out).cell (F + k)
      rw [hu] at hcG
      have e1 : ((k : Int) * 512).toNat = k * 512 := by omega
      have e2 : ((F : Int) + (k : Int)).toNat = F + k := by omega
      have g1 : (k : Int) * 512 ≤ 4096 := by omega
      have g2 : 0 ≤ (k : Int) * 512 := by omega
      have g3 : 0 ≤ (F : Int) + (k : Int) := by omega
      have g4 : (F : Int) + (k : Int) < (n : Int) := by omega
      have q1 : IntKind.i64.wrap ((k : Int) * 512) = (k : Int) * 512 := by rw [IntKind.wrap_i64]; omega
      have q2 : IntKind.i64.wrap ((F : Int) + (k : Int)) = (F : Int) + (k : Int) := by rw [IntKind.wrap_i64]; omega
      have hne : ¬ 4096 = k * 512 := by omega
      have HCU := hid hcu
      have HL8 := hid hl8
      have HLJ := hid hlj
      have hzk := HK.out.size
      clear hu hr hcu hl8 hlj
      go_wp2_with fail
      have hS : (fun wx : World => wx.cell? ⟨G, F + k, none⟩ = some (.slice (some ⟨bu, ou, none⟩) 512 cu)) wr.drew := hcG
      refine wp_region_V (fun wx : World => wx.cell? ⟨G, F + k, none⟩ = some (.slice (some ⟨bu, ou, none⟩) 512 cu)) 99 10 rfl (by kernel_rfl) ?_
      refine tk 0 10 hS ?_
      refine tk 1 11 hS ?_
      refine tkV 2 12 (.slice (some ⟨w.heap.size + 1, k * 512, none⟩) (4096 - k * 512) (4096 - k * 512)) hS ?_
      refine tk 3 13 hS ?_
      refine tk 4 14 hS ?_
      refine tk 5 15 hS ?_
      refine tk 6 16 hS ?_
      refine tkV 7 17 (.pointer (some ⟨G, F + k, none⟩)) hS ?_
      refine tk 8 18 hS ?_
      refine wpAnyV_one (i := 9) (by kernel_rfl) rfl (fun K hK => ?_)
      refine step_copy_m (m := 1) (c := 512) (e := 52) (xs := vals .u8 (joinS S k ++ List.replicate (4096 - k * 512) 0)) (by rfl) (.tmp 12) (.tmp 18) 22 (by rfl) Try.underlying22 hj (vals .u8 (S k)) HB.out.drew (by rfl) (by rfl) (Nat.min_eq_left (by omega)) (by rw [vals_length, HL8.out]) (news_of (fun i hi => by rw [HL8.out] at hi; exact HK.out.drew.cellOf (HCU.out i hi) id)) (by rw [vals_length, vals_length, List.length_append, List.length_replicate, HL8.out, HLJ.out]; omega) vals_one ?_
      have HB5 := hid (Blk.setCells (vals .u8 (S k)) (k * 512) HB.out.drew (by rw [vals_length, vals_length, List.length_append, List.length_replicate, HL8.out, HLJ.out]; omega))
      rw [← HLJ.out, lay_join _ _ _ (by rw [HL8.out, HLJ.out]; omega), ← joinS_succ, HL8.out, HLJ.out] at HB5
      have HA5 := (show Hid (Blk (wr.drew.setCells (w.heap.size + 1) (k * 512) (vals .u8 (S k))) w.heap.size 52 (vals .u8 (List.replicate 4096 0))) from HA.out.drew.kept (Kept.setCells (R := fun b => b = w.heap.size + 1) (.inr rfl) _ _ (Kept.refl _ _)) (by omega))
      have HK5 := (show Hid (Same w (wr.drew.setCells (w.heap.size + 1) (k * 512) (vals .u8 (S k)))) from Kept.setCells (.inl (by omega)) _ _ HK.out.drew)
      refine hK.out _ _ (fun _ => (Kept.setCells (R := fun b => b = w.heap.size + 1) (.inr rfl) _ _ (Kept.refl _ _)).cellOf (hS : wr.drew.cell? _ = _) (by dsimp only; omega)) ?_
      clear hK K
      try simp only [Act.put, sA, s0, sS]
      refine wpAnyV_done (by kernel_rfl) ?_
      generalize wr.drew.setCells (w.heap.size + 1) (k * 512) (vals .u8 (S k)) = w5 at HB5 HA5 HK5 ⊢
      go_wp2
      go_roundw
      case rel => exact ⟨k + 1, by omega, by go_num, HA5, by unfold Hid; rw [show 4096 - (k + 1) * 512 = 4096 - k * 512 - 512 from by omega]; exact HB5.out, HK5⟩
      case measure => simp [intOf]; omega
    obtain rfl : k = 8 := by omega
    have hlj := joinS_length S 8 (fun i hi => HS8.out i hi)
    have hzk := HK.out.size
    have HB8 := HB.out
    rw [show 4096 - 8 * 512 = 0 from rfl, List.replicate_zero, List.append_nil] at HB8
    obtain ⟨ds, hds⟩ : ∃ ds : List Value, vals .u8 (joinS S 8) = ds := ⟨_, rfl⟩
    have HDS := hid hds
    have hone : ∀ v ∈ ds, v.oneCell' = true := by rw [← hds]; exact vals_one
    have hsl : ds.length = 4096 := by rw [← hds, vals_length, hlj]
    rw [hds] at HB8
    have HRG := (show Hid (wr.rangeAt (w.heap.size + 1) 0 ds) from HB8.rangeAll)
    have HTH := (show Hid (wr.there w.heap.size 0 ds.toArray.size) from HA.out.there 0 _ (by rw [vals_length, List.length_replicate, List.size_toArray, hsl]; omega))
    have hb5 := HA.out.setCells ds 0 (by rw [vals_length, List.length_replicate, hsl]; omega)
    rw [lay_all _ _ (by rw [vals_length, List.length_replicate, hsl])] at hb5
    have HRG2 := (show Hid ((wr.setCells w.heap.size 0 ds).rangeAt w.heap.size 0 ds) from hb5.rangeAll)
    have HI := (show Hid ((Try.prog.info? 52).map (·.size) = some ds.length) from (by rw [hsl]; exact (by kernel_rfl : (Try.prog.info? 52).map (·.size) = some 4096) : (Try.prog.info? 52).map (·.size) = some ds.length))
    have HI2 := (show Hid ((Try.prog.info? 52).map (·.size) = some ds.toArray.size) from by rw [List.size_toArray]; exact HI.out)
    have HONE := (show Hid (ds.toArray.all (·.oneCell') = true) from all_oneCell_toArray hone)
    have HK4 := (show Hid (Same w (wr.setCells w.heap.size 0 ds)) from Kept.setCells (.inl (Nat.le_refl _)) ds 0 HK.out)
    clear hds hone hsl hb5 HB8
    go_wp2_with (first | (refine wpList_load_mid rfl 52 _ rfl (w.heap.size + 1) 0 rfl ds _ HRG.out Try.underlying52 rfl HI.out ?_) | (refine wpList_store_mid rfl 52 _ _ rfl w.heap.size 0 ds.toArray rfl rfl HTH.out HI2.out HONE.out ?_))
    have hlv := run_loadVar_mid (P := Try.prog) _ w.heap.size 0 52 ds _ HRG2.out Try.underlying52 rfl HI.out
    refine bodyPost_ret (v := .agg ds.toArray) ?_ rfl ?_
    · simp [results, Try.results29, asAddr, hlv, Act.put]
    · rw [HDS.out]
      exact ⟨rfl, HK4.out⟩
end Go.Proofs.Ytednajibnjofmaa
