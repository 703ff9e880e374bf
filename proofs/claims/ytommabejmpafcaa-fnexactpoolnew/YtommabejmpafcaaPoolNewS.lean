/-
  spec.PoolNew.
-/
import Derived.Test.YtommabejmpafcaaPoolCopy
import Derived.Test.YtommabejmpafcaaL4In
namespace Go.Proofs.Ytommabejmpafcaa
set_option maxRecDepth 100000
set_option maxHeartbeats 4000000
open Go.RowKit
set_option linter.unusedVariables false
set_option linter.unusedSimpArgs false

def eF : EFrame := ⟨-1, .slice none 0 0, [], 0, false, 0, false⟩
def newP (frames : Int) : Int × List (Int × List Int × Int × Bool × Int × Bool) := if inB frames 1 16 = false then (0, []) else (0, List.replicate frames.toNat (-1, [], 0, false, 0, false))
theorem newP_small {frames hd : Int} {qs : List EFrame} (h : (hd, datFrameS qs) = newP frames) : SmallF (datFrameS qs) := by
  unfold newP at h
  cases h1 : inB frames 1 16 with
  | false =>
    rw [h1, if_pos rfl] at h
    simp only [Prod.mk.injEq] at h
    rw [h.2]; exact ⟨by simp, fun x hx => by simp at hx⟩
  | true =>
    rw [h1, if_neg (by simp)] at h
    simp only [Prod.mk.injEq] at h
    rw [h.2]
    simp [inB] at h1
    refine ⟨by rw [List.length_replicate]; omega, fun x hx => ?_⟩
    rw [List.eq_of_mem_replicate hx]
    simp
theorem dat_eF (n : Nat) : datFrameS (List.replicate n eF) = List.replicate n (-1, [], 0, false, 0, false) := by
  unfold datFrameS
  rw [List.map_replicate]
  rfl

theorem specPoolNew_any (frames : Int) (w : World) :
    Calls Try.prog 25 #[.int .i64 frames] w fun e w' => ∃ a n c hd qs, e = .returned (.agg #[.slice a n c, .int .i64 hd]) ∧ (hd, datFrameS qs) = newP frames ∧ (∀ b, footR kFrame (.slice a n c) qs b → w.heap.size ≤ b) ∧ OwnR kFrame 0 36 5 w' (.slice a n c) qs ∧ Same w w' := by
  obtain ⟨i0, hi, hz0, hz1, hz2⟩ := info_parts Try.infoRFrame
  have kin := l4In_any frames 1 16
  have HB0 := (show Hid (Blk (w.alloc (.cells #[.slice none 0 0, .int .i64 0] 25)) w.heap.size 25 [.slice none 0 0, .int .i64 0]) from Blk.newL w [.slice none 0 0, .int .i64 0] 25)
  have HK0 := (show Hid (Same w (w.alloc (.cells #[.slice none 0 0, .int .i64 0] 25))) from (Kept.refl _ _).alloc _)
  cases h1 : inB frames 1 16 with
  | false =>
    have HT : Hid (newP frames = (0, [])) := if_pos h1
    rw [h1] at kin
    go_enter Try.func25, Try.ntmps25
    go_wp2_with fail
    refine (kin _).mono ?_
    rintro e w1 ⟨rfl, hk1⟩
    have HK1 := (show Hid (Same w w1) from HK0.out.trans hk1)
    obtain ⟨z0, z1⟩ := (HB0.out.same hk1).all2
    have fz := (HB0.out.same hk1).frozen
    have lz := (HB0.out.same hk1).lt
    go_wp2
    refine bodyPost_ret (v := .agg #[.slice none 0 0, .int .i64 0]) (by simp [results, Try.results25, go_sem, z0, z1]) rfl ⟨none, 0, 0, 0, [], rfl, ?_, fun b hb => absurd hb (footR_nil b), OwnR.nil _ _ _ _ _, ?_⟩
    · rw [HT.out]; rfl
    · (iterate 2 refine Kept.setCell ?_ (.inl (Nat.le_refl _)) _)
      exact HK1.out
  | true =>
    rw [h1] at kin
    have hfr : 1 ≤ frames ∧ frames ≤ 16 := by simpa [inB] using h1
    obtain ⟨n, rfl⟩ : ∃ n : Nat, frames = (n : Int) := ⟨frames.toNat, by omega⟩
    have HT : Hid (newP (n : Int) = (0, datFrameS (List.replicate n eF))) := by
      unfold Hid newP
      rw [if_neg (by rw [h1]; simp), dat_eF, Int.toNat_natCast]
    have hn16 : n ≤ 16 := by omega
    clear h1 hfr
    go_enter Try.func25, Try.ntmps25
    go_wp2_with fail
    refine (kin _).mono ?_
    rintro e w1 ⟨rfl, hk1⟩
    have HK1 := (show Hid (Same w w1) from HK0.out.trans hk1)
    have HB1 := (show Hid (Blk w1 w.heap.size 25 [.slice none 0 0, .int .i64 0]) from HB0.out.same hk1)
    have HX1 := (show Hid (Blk (w1.alloc (.cells #[.slice none 0 0, .int .i64 0] 25)) w1.heap.size 25 [.slice none 0 0, .int .i64 0]) from Blk.newL w1 [.slice none 0 0, .int .i64 0] 25)
    have hw1 : w.heap.size < w1.heap.size := HB1.out.lt
    clear hk1
    go_wp2_with fail
    go_loopw [4] (fun i wr => ∃ (k : Nat) (aa : Option Addr) (na ca : Nat), k ≤ n ∧ i = .int .i64 k ∧ Hid (Blk wr w1.heap.size 25 [.slice aa na ca, .int .i64 0]) ∧ Hid (∀ b, footR kFrame (.slice aa na ca) (List.replicate k eF) b → w1.heap.size < b) ∧ Hid (OwnR kFrame 0 36 5 wr (.slice aa na ca) (List.replicate k eF)) ∧ Hid (Blk wr w.heap.size 25 [.slice none 0 0, .int .i64 0]) ∧ Hid (Same w wr)) (fun i _ => n - (intOf i).toNat)
    case atStart => exact ⟨0, none, 0, 0, Nat.zero_le _, rfl, HX1, fun b hb => absurd hb (footR_nil b), OwnR.nil _ _ _ _ _, HB1.out.alloc _, HK1.out.alloc _⟩
    case round =>
      obtain ⟨k, aa, na, ca, hk, rfl, HX, HFP, HOP, HZ, HK⟩ := hrel
      by_cases hlt : k < n
      · obtain ⟨x0, x1⟩ := HX.out.all2
        have fx := HX.out.frozen
        have hxl := HX.out.lt
        have hki : (k : Int) < (n : Int) := by omega
        have HOP4 := (show Hid (OwnR kFrame 0 36 5 (wr.alloc (.cells #[.int .i64 (-1), .slice none 0 0, .int .i64 0, .bool false, .int .i64 0, .bool false] 36)) (.slice aa na ca) (List.replicate k eF)) from HOP.out.same ((Kept.refl _ _).alloc _))
        have HN5 := (show Hid (Blk (wr.alloc (.cells #[.int .i64 (-1), .slice none 0 0, .int .i64 0, .bool false, .int .i64 0, .bool false] 36)) wr.heap.size 36 [.int .i64 (-1), .slice none 0 0, .int .i64 0, .bool false, .int .i64 0, .bool false]) from Blk.newL wr [.int .i64 (-1), .slice none 0 0, .int .i64 0, .bool false, .int .i64 0, .bool false] 36)
        have HKO := (show Hid ((wr.alloc (.cells #[.int .i64 (-1), .slice none 0 0, .int .i64 0, .bool false, .int .i64 0, .bool false] 36)).ownsRow 0 36 6 (.slice aa na ca) k (kFrame.all (List.replicate k eF))) from by have h := HOP4.out.row; rw [List.length_replicate] at h; exact h)
        have HXA := (show Hid (Blk (wr.alloc (.cells #[.int .i64 (-1), .slice none 0 0, .int .i64 0, .bool false, .int .i64 0, .bool false] 36)) w1.heap.size 25 [.slice aa na ca, .int .i64 0]) from HX.out.alloc _)
        go_wp2_with (at_builtin; go_loud (refine wpList_append_lies _ rfl (.tmp 16) (.tmp 18) 23 rfl 0 36 i0 _ 6 64 Try.underlying23 hi hz0 hz1 hz2 rfl (by omega) (.slice aa na ca) k (kFrame.all (List.replicate k eF)) rfl (by exact HKO.out) ⟨wr.heap.size, 0, none⟩ 1 1 [.int .i64 (-1), .slice none 0 0, .int .i64 0, .bool false, .int .i64 0, .bool false] rfl rfl (World.news_of_block (cs := #[.int .i64 (-1), .slice none 0 0, .int .i64 0, .bool false, .int .i64 0, .bool false]) (t := 36) (fr := (0, 0)) (by exact HN5.out)) (by simp [Value.oneCell']) (by omega) (by unfold maxLen; omega) (by omega) (Nat.zero_le _) (wr.heap.size + 1) (by simp) ?_); intro g5 cap5 w3 hown5 hgrow5 hat5 hlt5; have HX6 := (show Hid (Blk w3 w1.heap.size 25 [.slice aa na ca, .int .i64 0]) from HXA.out.kept (Kept.of_grown hgrow5 (fun k e => e)) (fun e => absurd (HFP.out _ (.inl e)) (by omega))); have HOWN5 := (show Hid (w3.ownsRow 0 36 6 (.slice (some ⟨g5, 0, none⟩) (k + 1) cap5) (k + 1) (kFrame.all (List.replicate k eF) ++ [.int .i64 (-1), .slice none 0 0, .int .i64 0, .bool false, .int .i64 0, .bool false])) from hown5); have HG5 := hid hgrow5; have HAT5 : Hid ((Value.slice aa na ca).ownBlock = some g5 ∨ g5 = wr.heap.size + 1) := hat5; have z0 := HX6.out.all2.1; have fz3 := HX6.out.frozen; have lz3 := HX6.out.lt; clear hown5 hgrow5 hat5)
        have hsnoc := OwnR.snoc (K := kFrame) eF HOP4.out (Own.nil _ _ _ _) (fun b hb hf => by simp [kFrame, eF, Value.ownBlock] at hb) HG5.out HOWN5.out (by simp) (by rw [World.size_alloc]; exact HAT5.out)
        rw [← List.replicate_succ'] at hsnoc
        have HN : Hid (∀ b, footR kFrame (.slice (some ⟨g5, 0, none⟩) (k + 1) cap5) (List.replicate (k + 1) eF) b → w1.heap.size < b) := fun b hb => by
          rw [List.replicate_succ'] at hb
          rcases footR_snoc (v := .slice aa na ca) b hb with rfl | hb | hb
          · rcases HAT5.out with h | h
            · exact HFP.out _ (.inl h)
            · omega
          · exact HFP.out b hb
          · simp [kFrame, eF, Value.ownBlock] at hb
        have hkg : Kept (fun b => (Value.slice aa na ca).ownBlock = some b) (wr.alloc (.cells #[.int .i64 (-1), .slice none 0 0, .int .i64 0, .bool false, .int .i64 0, .bool false] 36)) w3 := Kept.of_grown HG5.out (fun k e => e)
        have HST := (show Hid (Kept (fun b => b = w1.heap.size) w3 (w3.setCell ⟨w1.heap.size, 0, none⟩ (.slice (some ⟨g5, 0, none⟩) (k + 1) cap5))) from Kept.setCell (R := fun b => b = w1.heap.size) (Kept.refl _ _) (p := ⟨w1.heap.size, 0, none⟩) (.inr rfl) _)
        have HO6 := (show Hid (OwnR kFrame 0 36 5 (w3.setCell ⟨w1.heap.size, 0, none⟩ (.slice (some ⟨g5, 0, none⟩) (k + 1) cap5)) (.slice (some ⟨g5, 0, none⟩) (k + 1) cap5) (List.replicate (k + 1) eF)) from hsnoc.kept HST.out (fun b hb e => by have := HN.out b hb; omega))
        have HX7 := (show Hid (Blk (w3.setCell ⟨w1.heap.size, 0, none⟩ (.slice (some ⟨g5, 0, none⟩) (k + 1) cap5)) w1.heap.size 25 [.slice (some ⟨g5, 0, none⟩) (k + 1) cap5, .int .i64 0]) from HX6.out.stored 0 _)
        have HZ7 := (show Hid (Blk (w3.setCell ⟨w1.heap.size, 0, none⟩ (.slice (some ⟨g5, 0, none⟩) (k + 1) cap5)) w.heap.size 25 [.slice none 0 0, .int .i64 0]) from ((HZ.out.alloc _).kept hkg (fun e => by have := HFP.out _ (.inl e); omega)).kept HST.out (by intro e; omega))
        have HK7 := (show Hid (Same w (w3.setCell ⟨w1.heap.size, 0, none⟩ (.slice (some ⟨g5, 0, none⟩) (k + 1) cap5))) from ((HK.out.alloc _).next hkg (fun i hi e => by have := HFP.out i (.inl e); omega)).next HST.out (fun i hi e => by omega))
        clear hsnoc hkg
        go_wp2
        go_roundw
        case rel => exact ⟨k + 1, some ⟨g5, 0, none⟩, k + 1, cap5, by omega, by go_num, HX7, HN, HO6, HZ7, HK7⟩
        case measure => simp [intOf]; omega
      · obtain rfl : n = k := by omega
        obtain ⟨x0, x1⟩ := HX.out.all2
        obtain ⟨z0, z1⟩ := HZ.out.all2
        have fz := HZ.out.frozen
        have lz := HZ.out.lt
        go_wp2
        refine bodyPost_ret (v := .agg #[.slice aa na ca, .int .i64 0]) (by simp [results, Try.results25, go_sem, z0, z1]) rfl ⟨aa, na, ca, 0, List.replicate n eF, rfl, by rw [HT.out], fun b hb => by have := HFP.out b hb; omega, ?_, ?_⟩
        · refine HOP.out.kept (R := fun b => b = w.heap.size) ?_ (fun b hb e => by have := HFP.out b hb; omega)
          (iterate 2 refine Kept.setCell (R := fun b => b = w.heap.size) ?_ (.inr rfl) _)
          exact Kept.refl _ _
        · (iterate 2 refine Kept.setCell ?_ (.inl (Nat.le_refl _)) _)
          exact HK.out
end Go.Proofs.Ytommabejmpafcaa
