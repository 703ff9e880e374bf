/-
  Pages as arrays: sealed, list.
-/
import Derived.Test.YtednajibnjofmaaSumMath
import Derived.Test.YtednajibnjofmaaBlkBig
namespace Go.Proofs.Ytednajibnjofmaa
set_option maxRecDepth 100000
set_option maxHeartbeats 4000000
open Go.RowKit
set_option linter.unusedVariables false
set_option linter.unusedSimpArgs false

def sealB (bs : List Int) : List Int := lows (crcOn 0 (bs.drop 4)) 4 ++ bs.drop 4
theorem sealB_length (bs : List Int) (h : 4 ≤ bs.length) : (sealB bs).length = bs.length := by simp [sealB, lows_length]; omega
theorem lay_seal (bs : List Int) (h : 4 ≤ bs.length) : lay (vals .u8 bs) 0 (vals .u8 (lows (crcOn 0 (bs.drop 4)) 4)) = vals .u8 (sealB bs) := by
  unfold lay sealB
  have e : (vals .u8 (lows (crcOn 0 (bs.drop 4)) 4)).length = 4 := by rw [vals_length, lows_length]
  rw [e]
  simp [vals]
/-- Bytes within a block, read as a slice. -/
theorem Blk.rd {w : World} {B : Nat} {e : TypeId} {bs : List Int} (h : Blk w B e (vals .u8 bs)) (o n c : Nat) (hn : o + n ≤ bs.length) (hc : n ≤ c) (hm : bs.length ≤ maxLen) : Rd .u8 w (.slice (some ⟨B, o, none⟩) n c) ((bs.drop o).take n) := by
  have hl : ((bs.drop o).take n).length = n := by simp; omega
  refine ⟨by omega, .inr ⟨B, o, c, by rw [hl], by omega, fun i hi => ?_⟩⟩
  rw [h.cell, vals_at _ _ _ (by omega)]
  simp [List.getD, List.getElem?_take, show i < n by omega]

theorem sealed_any (bs : List Int) (w : World) (hB : IsB bs) (hl : bs.length = 4096) :
    Calls Try.prog 56 #[.agg (vals .u8 bs).toArray] w fun e w' => e = .returned (.agg (vals .u8 (sealB bs)).toArray) ∧ Same w w' := by
  obtain ⟨cs, hcs⟩ : ∃ cs : Array Value, (vals .u8 bs).toArray = cs := ⟨_, rfl⟩
  have hsz : cs.size = 4096 := by rw [← hcs]; simp [vals, hl]
  have HCS := (show Hid ((vals .u8 bs).toArray = cs) from hcs)
  have HB := (show Hid (IsB bs) from hB)
  have HL := (show Hid (bs.length = 4096) from hl)
  have hsum := crcOn_le 0 (bs.drop 4) (by decide) (by decide) (fun y hy => hB y (List.mem_of_mem_drop hy))
  rw [hcs]
  clear hcs hB hl
  go_enter Try.func56, Try.ntmps56
  go_wp2_with fail
  obtain ⟨w1, hw1⟩ : ∃ w1, ((w.alloc (.cells cs 52)).alloc (.cells Try.zeroCells52 52)) = w1 := ⟨_, rfl⟩
  have HB1 := (show Hid (Blk w1 w.heap.size 52 (vals .u8 bs)) from by
    rw [← hw1]
    have h := Blk.new w cs 52
    rw [← HCS.out] at h ⊢
    exact h.alloc _)
  have HB2 := (show Hid (Blk w1 (w.heap.size + 1) 52 Try.zeroCells52.toList) from by
    rw [← hw1]
    have h := Blk.new (w.alloc (.cells cs 52)) Try.zeroCells52 52
    rw [World.size_alloc] at h
    exact h)
  have HK1 := (show Hid (Same w w1) from by rw [← hw1]; exact ((Kept.refl _ _).alloc _).alloc _)
  have hsz1 : w1.heap.size = w.heap.size + 2 := by rw [← hw1]; simp
  rw [hw1]
  clear hw1
  have hS : (fun _ : World => True) w1.drew := by trivial
  refine wp_region_V (fun _ : World => True) 99 4 rfl (by kernel_rfl) ?_
  refine tk 0 3 hS ?_
  refine tk 1 4 hS ?_
  refine wpAnyV_one (i := 2) (by kernel_rfl) rfl (fun K hK => ?_)
  go_simp
  have hR : ∀ wx, Same w1 wx → Rd .u8 wx (.slice (some ⟨w.heap.size, 4, none⟩) 4092 4092) (bs.drop 4) := fun wx hx => by
    have h := (HB1.out.same hx).rd 4 4092 4092 (by rw [HL.out]; decide) (Nat.le_refl _) (by rw [HL.out]; decide)
    rwa [List.take_of_length_le (by rw [List.length_drop, HL.out]; decide)] at h
  have hc := implCrc_any (.slice (some ⟨w.heap.size, 4, none⟩) 4092 4092) (bs.drop 4) w1.drew (fun y hy => HB.out y (List.mem_of_mem_drop hy)) (by rw [List.length_drop, HL.out]; decide) (hR _ (Kept.refl _ _).drew)
  with_reducible refine hc.mono ?_
  clear hc hR
  rintro e w2 ⟨rfl, hkk⟩
  have HK2 := (show Hid (Same w1 w2) from (Kept.refl _ _).drew.trans hkk)
  clear hkk
  refine hK.out _ _ (fun _ => trivial) ?_
  clear hK K
  try simp only [Act.put, sA, s0, sS]
  refine wpAnyV_one (i := 3) (by kernel_rfl) rfl (fun K hK => ?_)
  go_simp
  have hc := writeNumber_any w.heap.size 0 4 4096 52 (vals .u8 bs) (crcOn 0 (bs.drop 4)) w2 (HB1.out.same HK2.out) (by rw [vals_length, HL.out]; decide) hsum.1 (by omega) (by decide)
  with_reducible refine hc.mono ?_
  clear hc
  rintro e w3 ⟨rfl, hb3, hk3⟩
  rw [lay_seal bs (by rw [HL.out]; decide)] at hb3
  have hsl : (vals .u8 (sealB bs)).length = 4096 := by rw [vals_length, sealB_length _ (by rw [HL.out]; decide), HL.out]
  obtain ⟨ds, hds⟩ : ∃ ds : List Value, vals .u8 (sealB bs) = ds := ⟨_, rfl⟩
  have HDS := (show Hid (vals .u8 (sealB bs) = ds) from hds)
  have hone : ∀ v ∈ ds, v.oneCell' = true := by rw [← hds]; exact vals_one
  rw [hds] at hb3 hsl
  have hb4 := (HB2.out.same HK2.out).kept hk3 (by omega)
  have hzl : Try.zeroCells52.toList.length = 4096 := by rw [Array.length_toList]; exact Try.zeroCells52_size
  have HRG := (show Hid (w3.rangeAt w.heap.size 0 ds) from hb3.rangeAll)
  have HTH := (show Hid (w3.there (w.heap.size + 1) 0 ds.toArray.size) from hb4.there 0 _ (by simp; omega))
  have hb5 := hb4.setCells ds 0 (by omega)
  rw [lay_all _ _ (by omega)] at hb5
  have HRG2 := (show Hid ((w3.setCells (w.heap.size + 1) 0 ds).rangeAt (w.heap.size + 1) 0 ds) from hb5.rangeAll)
  have HI := (show Hid ((Try.prog.info? 52).map (·.size) = some ds.length) from (by rw [hsl]; exact (by kernel_rfl : (Try.prog.info? 52).map (·.size) = some 4096) : (Try.prog.info? 52).map (·.size) = some ds.length))
  have HI2 := (show Hid ((Try.prog.info? 52).map (·.size) = some ds.toArray.size) from by rw [List.size_toArray]; exact HI.out)
  have HONE := (show Hid (ds.toArray.all (·.oneCell') = true) from all_oneCell_toArray hone)
  have HK4 := (show Hid (Same w (w3.setCells (w.heap.size + 1) 0 ds)) from Kept.setCells (.inl (by omega)) ds 0 ((HK1.out.trans HK2.out).next hk3 (fun i hi e => by omega)))
  clear hds hk3 hb3 hb4 hb5 hzl hone hsl
  refine hK.out _ _ (fun _ => trivial) ?_
  clear hK K
  refine wpAnyV_done (by kernel_rfl) ?_
  try simp only [Act.put, sA, s0, sS]
  go_wp2_with (first | (refine wpList_load_mid rfl 52 _ rfl w.heap.size 0 rfl ds _ HRG.out Try.underlying52 rfl HI.out ?_) | (refine wpList_store_mid rfl 52 _ _ rfl (w.heap.size + 1) 0 ds.toArray rfl rfl HTH.out HI2.out HONE.out ?_))
  have hlv := run_loadVar_mid (P := Try.prog) _ (w.heap.size + 1) 0 52 ds _ HRG2.out Try.underlying52 rfl HI.out
  refine bodyPost_ret (v := .agg ds.toArray) ?_ rfl ?_
  · simp [results, Try.results56, asAddr, hlv]
  · rw [HDS.out]
    exact ⟨rfl, HK4.out⟩

/-- The array's bytes as a list of their own. -/
theorem list_any (bs : List Int) (w : World) (hl : bs.length = 4096) :
    Calls Try.prog 31 #[.agg (vals .u8 bs).toArray] w fun e w' => e = .returned (.slice (some ⟨w.heap.size, 0, none⟩) 4096 4096) ∧ Blk w' w.heap.size 52 (vals .u8 bs) ∧ Same w w' := by
  obtain ⟨cs, hcs⟩ : ∃ cs : Array Value, (vals .u8 bs).toArray = cs := ⟨_, rfl⟩
  have hsz : cs.size = 4096 := by rw [← hcs]; simp [vals, hl]
  have HCS := (show Hid ((vals .u8 bs).toArray = cs) from hcs)
  rw [hcs]
  clear hcs hl
  go_enter Try.func31, Try.ntmps31
  go_wp2
  go_ret
  refine ⟨rfl, ?_, (Kept.refl _ _).alloc _⟩
  have h := Blk.new w cs 52
  rw [← HCS.out] at h ⊢
  exact h
end Go.Proofs.Ytednajibnjofmaa
