import Derived.Test.YtjendhajichhkaaG01
import Derived.Test.YtjendhajichhkaaG00
import Derived.Test.YtjendhajichhkaaRows
import Derived.Deep.DeepCutAuto
import Derived.WalkKit
import Derived.ProofKit
import Derived.OpenShut
import Derived.ShutString
import Derived.ChangeOld
import Derived.Below
import Derived.Lib.SmallJoins
import Derived.Deep.Slices
import Derived.Deep.SlicePairs
namespace Go.Proofs.Ytjendhajichhkaa
set_option maxRecDepth 100000
set_option maxHeartbeats 4000000
open Go.RowKit
set_option linter.unusedVariables false
set_option linter.unusedSimpArgs false
def eF : EFrame := ⟨-1, .slice none 0 0, [], 0, false, 0, false⟩
def newP (frames : Int) : Int × List (Int × List Int × Int × Bool × Int × Bool) := if inB frames 1 16 = false then (0, []) else (0, List.replicate frames.toNat (-1, [], 0, false, 0, false))
theorem newP_small {frames hd : Int} {qs : List EFrame} (h : (hd, datFrameS qs) = newP frames) : SmallF (datFrameS qs) := by
  unfold newP at h
  cases h1 : inB frames 1 16 with
  | false =>
    rw [h1, if_pos rfl] at h
    simp only [Prod.mk.injEq] at h
    rw [h.2]; exact ⟨by simp, fun x hx => by simp at hx⟩
  | true =>
    rw [h1, if_neg (by simp)] at h
    simp only [Prod.mk.injEq] at h
    rw [h.2]
    simp [inB] at h1
    refine ⟨by rw [List.length_replicate]; omega, fun x hx => ?_⟩
    rw [List.eq_of_mem_replicate hx]
    simp
theorem dat_eF (n : Nat) : datFrameS (List.replicate n eF) = List.replicate n (-1, [], 0, false, 0, false) := by
  unfold datFrameS
  rw [List.map_replicate]
  rfl
theorem specPoolNew_any (frames : Int) (w : World) :
    Calls Try.prog 4 #[.int .i64 frames] w fun e w' => ∃ a n c hd qs, e = .returned (.agg #[.slice a n c, .int .i64 hd]) ∧ (hd, datFrameS qs) = newP frames ∧ (∀ b, footR kFrame (.slice a n c) qs b → w.heap.size ≤ b) ∧ OwnR kFrame 0 32 5 w' (.slice a n c) qs ∧ Same w w' := by
  obtain ⟨i0, hi, hz0, hz1, hz2⟩ := info_parts Try.infoRFrame
  have kin := l4In_any frames 1 16
  have HB0 := (show Hid (Blk (w.alloc (.cells #[.slice none 0 0, .int .i64 0] 24)) w.heap.size 24 [.slice none 0 0, .int .i64 0]) from Blk.newL w [.slice none 0 0, .int .i64 0] 24)
  have HK0 := hid (sameA w [.slice none 0 0, .int .i64 0] 24)
  cases h1 : inB frames 1 16 with
  | false =>
    have HT : Hid (newP frames = (0, [])) := if_pos h1
    rw [h1] at kin
    go_enter Try.func4, Try.ntmps4
    go_wp2_with fail
    refine (kin _).mono ?_
    rintro e w1 ⟨rfl, hk1⟩
    have HK1 := (show Hid (Same w w1) from HK0.out.trans hk1)
    obtain ⟨z0, z1⟩ := (HB0.out.same hk1).all2
    have fz := (HB0.out.same hk1).frozen
    have lz := (HB0.out.same hk1).lt
    go_wp2
    refine bodyPost_ret (v := .agg #[.slice none 0 0, .int .i64 0]) (by simp [results, Try.results4, go_sem, z0, z1]) rfl ⟨none, 0, 0, 0, [], rfl, ?_, fun b hb => absurd hb (footR_nil b), OwnR.nil _ _ _ _ _, ?_⟩
    · rw [HT.out]; rfl
    · (iterate 2 refine Kept.setCell ?_ (.inl (Nat.le_refl _)) _)
      exact HK1.out
  | true =>
    rw [h1] at kin
    have hfr : 1 ≤ frames ∧ frames ≤ 16 := by simpa [inB] using h1
    obtain ⟨n, rfl⟩ : ∃ n : Nat, frames = (n : Int) := ⟨frames.toNat, by omega⟩
    have HT : Hid (newP (n : Int) = (0, datFrameS (List.replicate n eF))) := by
      unfold Hid newP
      rw [if_neg (by rw [h1]; simp), dat_eF, Int.toNat_natCast]
    have hn16 : n ≤ 16 := by omega
    clear h1 hfr
    go_enter Try.func4, Try.ntmps4
    go_wp2_with fail
    refine (kin _).mono ?_
    rintro e w1 ⟨rfl, hk1⟩
    have HK1 := (show Hid (Same w w1) from HK0.out.trans hk1)
    have HB1 := hid (HB0.out.same hk1)
    have HX1 := (show Hid (Blk (w1.alloc (.cells #[.slice none 0 0, .int .i64 0] 24)) w1.heap.size 24 [.slice none 0 0, .int .i64 0]) from Blk.newL w1 [.slice none 0 0, .int .i64 0] 24)
    have hw1 : w.heap.size < w1.heap.size := HB1.out.lt
    clear hk1
    go_wp2_with fail
    go_loopw [4] (fun i wr => ∃ (k : Nat) (aa : Option Addr) (na ca : Nat), k ≤ n ∧ i = .int .i64 k ∧ Hid (Blk wr w1.heap.size 24 [.slice aa na ca, .int .i64 0]) ∧ Hid (∀ b, footR kFrame (.slice aa na ca) (List.replicate k eF) b → w1.heap.size < b) ∧ Hid (OwnR kFrame 0 32 5 wr (.slice aa na ca) (List.replicate k eF)) ∧ Hid (Blk wr w.heap.size 24 [.slice none 0 0, .int .i64 0]) ∧ Hid (Same w wr)) (fun i _ => n - (intOf i).toNat)
    case atStart => exact ⟨0, none, 0, 0, Nat.zero_le _, rfl, HX1, fun b hb => absurd hb (footR_nil b), OwnR.nil _ _ _ _ _, HB1.out.alloc _, HK1.out.alloc _⟩
    case round =>
      obtain ⟨k, aa, na, ca, hk, rfl, HX, HFP, HOP, HZ, HK⟩ := hrel
      by_cases hlt : k < n
      · obtain ⟨x0, x1⟩ := HX.out.all2
        have fx := HX.out.frozen
        have hxl := HX.out.lt
        have hki : (k : Int) < (n : Int) := by omega
        have HOP4 := (show Hid (OwnR kFrame 0 32 5 (wr.alloc (.cells #[.int .i64 (-1), .slice none 0 0, .int .i64 0, .bool false, .int .i64 0, .bool false] 32)) (.slice aa na ca) (List.replicate k eF)) from HOP.out.same ((Kept.refl _ _).alloc _))
        have HN5 := (show Hid (Blk (wr.alloc (.cells #[.int .i64 (-1), .slice none 0 0, .int .i64 0, .bool false, .int .i64 0, .bool false] 32)) wr.heap.size 32 [.int .i64 (-1), .slice none 0 0, .int .i64 0, .bool false, .int .i64 0, .bool false]) from Blk.newL wr [.int .i64 (-1), .slice none 0 0, .int .i64 0, .bool false, .int .i64 0, .bool false] 32)
        have HKO := (show Hid ((wr.alloc (.cells #[.int .i64 (-1), .slice none 0 0, .int .i64 0, .bool false, .int .i64 0, .bool false] 32)).ownsRow 0 32 6 (.slice aa na ca) k (kFrame.all (List.replicate k eF))) from by have h := HOP4.out.row; rw [List.length_replicate] at h; exact h)
        have HXA := (show Hid (Blk (wr.alloc (.cells #[.int .i64 (-1), .slice none 0 0, .int .i64 0, .bool false, .int .i64 0, .bool false] 32)) w1.heap.size 24 [.slice aa na ca, .int .i64 0]) from HX.out.alloc _)
        go_wp2_with (at_builtin; go_loud (refine wpList_append_lies _ rfl (.tmp 16) (.tmp 18) 22 rfl 0 32 i0 _ 6 64 Try.underlying22 hi hz0 hz1 hz2 rfl (by omega) (.slice aa na ca) k (kFrame.all (List.replicate k eF)) rfl (by exact HKO.out) ⟨wr.heap.size, 0, none⟩ 1 1 [.int .i64 (-1), .slice none 0 0, .int .i64 0, .bool false, .int .i64 0, .bool false] rfl rfl (World.news_of_block (cs := #[.int .i64 (-1), .slice none 0 0, .int .i64 0, .bool false, .int .i64 0, .bool false]) (t := 32) (fr := (0, 0)) (by exact HN5.out)) (by simp [Value.oneCell']) (by omega) (by unfold maxLen; omega) (by omega) (Nat.zero_le _) (wr.heap.size + 1) (by simp) ?_); intro g5 cap5 w3 hown5 hgrow5 hat5 hlt5; have HX6 := (show Hid (Blk w3 w1.heap.size 24 [.slice aa na ca, .int .i64 0]) from HXA.out.kept (Kept.of_grown hgrow5 (fun k e => e)) (fun e => absurd (HFP.out _ (.inl e)) (by omega))); have HOWN5 := (show Hid (w3.ownsRow 0 32 6 (.slice (some ⟨g5, 0, none⟩) (k + 1) cap5) (k + 1) (kFrame.all (List.replicate k eF) ++ [.int .i64 (-1), .slice none 0 0, .int .i64 0, .bool false, .int .i64 0, .bool false])) from hown5); have HG5 := hid hgrow5; have HAT5 : Hid ((Value.slice aa na ca).ownBlock = some g5 ∨ g5 = wr.heap.size + 1) := hat5; have z0 := HX6.out.all2.1; have fz3 := HX6.out.frozen; have lz3 := HX6.out.lt; clear hown5 hgrow5 hat5)
        have hsnoc := OwnR.snoc (K := kFrame) eF HOP4.out (Own.nil _ _ _ _) (fun b hb hf => by simp [kFrame, eF, Value.ownBlock] at hb) HG5.out HOWN5.out (by simp) (by rw [World.size_alloc]; exact HAT5.out)
        rw [← List.replicate_succ'] at hsnoc
        have HN : Hid (∀ b, footR kFrame (.slice (some ⟨g5, 0, none⟩) (k + 1) cap5) (List.replicate (k + 1) eF) b → w1.heap.size < b) := fun b hb => by
          rw [List.replicate_succ'] at hb
          rcases footR_snoc (v := .slice aa na ca) b hb with rfl | hb | hb
          · rcases HAT5.out with h | h
            · exact HFP.out _ (.inl h)
            · omega
          · exact HFP.out b hb
          · simp [kFrame, eF, Value.ownBlock] at hb
        have hkg : Kept (fun b => (Value.slice aa na ca).ownBlock = some b) (wr.alloc (.cells #[.int .i64 (-1), .slice none 0 0, .int .i64 0, .bool false, .int .i64 0, .bool false] 32)) w3 := Kept.of_grown HG5.out (fun k e => e)
        have HST := (show Hid (Kept (fun b => b = w1.heap.size) w3 (w3.setCell ⟨w1.heap.size, 0, none⟩ (.slice (some ⟨g5, 0, none⟩) (k + 1) cap5))) from Kept.setCell (R := fun b => b = w1.heap.size) (Kept.refl _ _) (p := ⟨w1.heap.size, 0, none⟩) (.inr rfl) _)
        have HO6 := (show Hid (OwnR kFrame 0 32 5 (w3.setCell ⟨w1.heap.size, 0, none⟩ (.slice (some ⟨g5, 0, none⟩) (k + 1) cap5)) (.slice (some ⟨g5, 0, none⟩) (k + 1) cap5) (List.replicate (k + 1) eF)) from hsnoc.kept HST.out (fun b hb e => by have := HN.out b hb; omega))
        have HX7 := (show Hid (Blk (w3.setCell ⟨w1.heap.size, 0, none⟩ (.slice (some ⟨g5, 0, none⟩) (k + 1) cap5)) w1.heap.size 24 [.slice (some ⟨g5, 0, none⟩) (k + 1) cap5, .int .i64 0]) from HX6.out.stored 0 _)
        have HZ7 := (show Hid (Blk (w3.setCell ⟨w1.heap.size, 0, none⟩ (.slice (some ⟨g5, 0, none⟩) (k + 1) cap5)) w.heap.size 24 [.slice none 0 0, .int .i64 0]) from ((HZ.out.alloc _).kept hkg (fun e => by have := HFP.out _ (.inl e); omega)).kept HST.out (by intro e; omega))
        have HK7 := (show Hid (Same w (w3.setCell ⟨w1.heap.size, 0, none⟩ (.slice (some ⟨g5, 0, none⟩) (k + 1) cap5))) from ((HK.out.alloc _).next hkg (fun i hi e => by have := HFP.out i (.inl e); omega)).next HST.out (fun i hi e => by omega))
        clear hsnoc hkg
        go_wp2
        go_roundw
        case rel => exact ⟨k + 1, some ⟨g5, 0, none⟩, k + 1, cap5, by omega, by go_num, HX7, HN, HO6, HZ7, HK7⟩
        case measure => simp [intOf]; omega
      · obtain rfl : n = k := by omega
        obtain ⟨x0, x1⟩ := HX.out.all2
        obtain ⟨z0, z1⟩ := HZ.out.all2
        have fz := HZ.out.frozen
        have lz := HZ.out.lt
        go_wp2
        refine bodyPost_ret (v := .agg #[.slice aa na ca, .int .i64 0]) (by simp [results, Try.results4, go_sem, z0, z1]) rfl ⟨aa, na, ca, 0, List.replicate n eF, rfl, by rw [HT.out], fun b hb => by have := HFP.out b hb; omega, ?_, ?_⟩
        · refine HOP.out.kept (R := fun b => b = w.heap.size) ?_ (fun b hb e => by have := HFP.out b hb; omega)
          (iterate 2 refine Kept.setCell (R := fun b => b = w.heap.size) ?_ (.inr rfl) _)
          exact Kept.refl _ _
        · (iterate 2 refine Kept.setCell ?_ (.inl (Nat.le_refl _)) _)
          exact HK.out
end Go.Proofs.Ytjendhajichhkaa

namespace Go.Proofs.Ytjendhajichhkaa
set_option maxRecDepth 100000
set_option maxHeartbeats 8000000
open Go.RowKit
set_option linter.unusedVariables false
set_option linter.unusedSimpArgs false
theorem mul64_one (n : Int) (w : World) (h : 1 ≤ n ∧ n ≤ 16) :
    Calls Try.prog 19 #[.int .u64 1, .int .u64 n] w fun e w' => e = .returned (.tuple #[.int .u64 0, .int .u64 n]) ∧ w' = w := by
  have hn : n = 1 ∨ n = 2 ∨ n = 3 ∨ n = 4 ∨ n = 5 ∨ n = 6 ∨ n = 7 ∨ n = 8 ∨ n = 9 ∨ n = 10 ∨ n = 11 ∨ n = 12 ∨ n = 13 ∨ n = 14 ∨ n = 15 ∨ n = 16 := by omega
  clear h
  rcases hn with rfl | rfl | rfl | rfl | rfl | rfl | rfl | rfl | rfl | rfl | rfl | rfl | rfl | rfl | rfl | rfl <;>
  · go_enter Try.func19, Try.ntmps19
    go_wp2
    go_ret2
    exact ⟨rfl, rfl⟩
theorem mul_one (n : Int) (w : World) (h : 1 ≤ n ∧ n ≤ 16) :
    Calls Try.prog 14 #[.int .u64 1, .int .u64 n] w fun e w' => e = .returned (.tuple #[.int .u64 0, .int .u64 n]) ∧ w' = w := by
  have k0 := mul64_one n w h
  clear h
  go_enter Try.func14, Try.ntmps14
  go_wp2_with fail
  refine k0.mono ?_
  rintro e w1 ⟨rfl, rfl⟩
  go_wp2
  go_ret2
  exact ⟨rfl, rfl⟩
end Go.Proofs.Ytjendhajichhkaa

namespace Go.Proofs.Ytjendhajichhkaa
set_option maxRecDepth 100000
set_option maxHeartbeats 8000000
open Go.RowKit
set_option linter.unusedVariables false
set_option linter.unusedSimpArgs false
def zE : EFrame := ⟨0, .slice none 0 0, [], 0, false, 0, false⟩
theorem row_blk {w : World} {base g n size : Nat} {e : TypeId} {xs : List Value} (h : w.ownsRow base e size (.slice (some ⟨g, 0, none⟩) n n) n xs) : Blk w g e xs := by
  rcases h.2 with ⟨h, _⟩ | ⟨g', cap, cur, h, _, hg, _, _, hs, ht⟩
  · cases h
  · cases h
    rw [List.take_of_length_le (by simp [hs])] at ht
    unfold Blk
    rw [← ht]
    simpa using hg
theorem blk_row {w : World} {g n size : Nat} {e : TypeId} {xs : List Value} (h : Blk w g e xs) (hl : xs.length = n * size) (hm : n ≤ maxLen) : w.ownsRow 0 e size (.slice (some ⟨g, 0, none⟩) n n) n xs :=
  ⟨hl, .inr ⟨g, n, xs.toArray, rfl, Nat.zero_le _, h, Nat.le_refl _, hm, by simp [hl], List.take_of_length_le (by simp [hl])⟩⟩
def repC (n j : Nat) : List Value := kFrame.all (List.replicate j eF ++ List.replicate (n - j) zE)
theorem repC_length (n j : Nat) (h : j ≤ n) : (repC n j).length = n * 6 := by
  unfold repC
  rw [kFrame.all_length, List.length_append, List.length_replicate, List.length_replicate, show j + (n - j) = n from by omega]
  rfl
theorem lay_rep (n j c : Nat) (h : j + c ≤ n) : lay (repC n j) (j * 6) (kFrame.all (List.replicate c eF)) = repC n (j + c) := by
  unfold repC
  have hA : (kFrame.all (List.replicate j eF)).length = j * 6 := by rw [kFrame.all_length, List.length_replicate]; rfl
  rw [kFrame.all_append, show n - j = c + (n - (j + c)) from by omega, ← List.replicate_append_replicate (n := c), kFrame.all_append, ← hA, lay_midR _ _ _ _ (by rw [kFrame.all_length, kFrame.all_length, List.length_replicate, List.length_replicate]), kFrame.all_append, ← List.replicate_append_replicate (n := j), kFrame.all_append, List.append_assoc]
theorem all_eF_one (c : Nat) : ∀ v ∈ kFrame.all (List.replicate c eF), v.oneCell' = true := by
  induction c with
  | zero => intro v hv; simp [RowK.all] at hv
  | succ c ih =>
    intro v hv
    rw [List.replicate_succ, RowK.all] at hv
    rcases List.mem_append.1 hv with hv | hv
    · simp [kFrame, eF] at hv
      rcases hv with rfl | rfl | rfl | rfl | rfl | rfl <;> rfl
    · exact ih v hv
theorem all_eF_at (n j c : Nat) (hc : c ≤ j) (i : Nat) (v : Value) (h : (kFrame.all (List.replicate c eF))[i]? = some v) : (repC n j)[i]? = some v := by
  unfold repC
  have hl : i < (kFrame.all (List.replicate c eF)).length := (List.getElem?_eq_some_iff.1 h).1
  have e : List.replicate j eF = List.replicate c eF ++ List.replicate (j - c) eF := by rw [List.replicate_append_replicate, show c + (j - c) = j from by omega]
  rw [e, List.append_assoc, kFrame.all_append, List.getElem?_append_left hl]
  exact h
theorem news_X {X : Nat} {w w2 : World} {t : TypeId} {xs : List Value} (hb : Blk w X t xs) (hk : Same w w2) (j : Nat) (v : Value) (h : xs[j]? = some v) : w2.cell? ((⟨X, 0, none⟩ : Addr).add j) = some v := by
  have e : (⟨X, 0, none⟩ : Addr).add j = ⟨X, j, none⟩ := by
    unfold Addr.add
    split
    · next h => subst h; rfl
    · simp
  rw [e, (hb.same hk).cell j, h]
theorem blk_some {B off : Nat} {w : World} {t : TypeId} {xs cs : List Value} (hb : Blk w B t xs) (h : off + cs.length ≤ xs.length) (j : Nat) (hj : j < cs.length) : (w.cell? ⟨B, off + j, none⟩).isSome = true := by
  rw [hb.cell, List.getElem?_eq_getElem (by omega)]
  rfl
theorem repeat_any (X n : Nat) (w : World) (hb : Blk w X 32 [.int .i64 (-1), .slice none 0 0, .int .i64 0, .bool false, .int .i64 0, .bool false]) (h1 : 1 ≤ n) (h16 : n ≤ 16) :
    Calls Try.prog 10 #[.slice (some ⟨X, 0, none⟩) 1 1, .int .i64 n] w fun e w' => ∃ B, e = .returned (.slice (some ⟨B, 0, none⟩) n n) ∧ w.heap.size ≤ B ∧ OwnR kFrame 0 32 5 w' (.slice (some ⟨B, 0, none⟩) n n) (List.replicate n eF) ∧ Same w w' := by
  obtain ⟨i0, hi, hz0, hz1, hz2⟩ := info_parts Try.infoRFrame
  have hsz : (Try.prog.info? 32).map (·.size) = some 6 := by simp [hi, hz1]
  have k0 := fun wx => mul_one (n : Int) wx (by omega)
  have HB := hid hb
  have hXl := hb.lt
  clear hb
  have hu : IntKind.u64.wrap (n : Int) = (n : Int) := by first | (rw [IntKind.wrap_u64]; omega) | (simp [IntKind.wrap, IntKind.bits, IntKind.signed]; omega)
  have hin : IntKind.i64.wrap (n : Int) = (n : Int) := by rw [IntKind.wrap_i64]; omega
  go_enter Try.func10, Try.ntmps10
  go_wp2_with fail
  refine (k0 _).mono ?_
  rintro e w1 ⟨rfl, hw1⟩
  replace hw1 := hw1.symm
  subst hw1
  go_wp2_with (at_make; go_loud (refine wpList_make_full _ rfl (.tmp 29) (.tmp 29) 22 rfl 0 32 i0 (.agg #[.int .i64 0, .slice none 0 0, .int .i64 0, .bool false, .int .i64 0, .bool false]) 6 Try.underlying22 hi hz0 hz1 .i64 .i64 _ _ n rfl rfl (by simp) (by simp) (by rw [hz2]; omega) (by unfold maxLen; omega) (Nat.zero_le _) ?_); intro w2 hown2 hgrow2; have HO2 := (show Hid (Blk w2 w.heap.size 32 (repC n 0)) from (by have h := ownR_made (K := kFrame) (zp := zE) (tb := 5) (by decide) rfl rfl rfl hown2; have h2 := h.row; rw [List.length_replicate] at h2; have h3 := row_blk h2; unfold Hid repC; rw [Nat.sub_zero]; exact h3)); have HG2 := (show Hid (Same w w2) from Kept.of_grown hgrow2 (fun k e => by cases e)); have hcp := run_copy_m (P := Try.prog) w2 22 22 3 32 6 w.heap.size 0 n n ⟨X, 0, none⟩ 1 1 1 [.int .i64 (-1), .slice none 0 0, .int .i64 0, .bool false, .int .i64 0, .bool false] Try.underlying22 hsz (Nat.min_eq_left h1) rfl (news_X HB.out HG2.out) (blk_some HO2.out (by rw [repC_length _ _ (by omega)]; simp; omega)) (fun j _ => HO2.out.frozen _) (by simp [Value.oneCell']); clear hown2 hgrow2)
  have HX2 := (show Hid (Blk (w2.setCells w.heap.size 0 [.int .i64 (-1), .slice none 0 0, .int .i64 0, .bool false, .int .i64 0, .bool false]) w.heap.size 32 (repC n 1)) from by
    have h := HO2.out.setCells [.int .i64 (-1), .slice none 0 0, .int .i64 0, .bool false, .int .i64 0, .bool false] 0 (by rw [repC_length _ _ (by omega)]; simp; omega)
    have h2 := lay_rep n 0 1 (by omega)
    rw [Nat.zero_mul, Nat.zero_add] at h2
    rw [← h2]
    exact h)
  have HG3 := (show Hid (Same w (w2.setCells w.heap.size 0 [.int .i64 (-1), .slice none 0 0, .int .i64 0, .bool false, .int .i64 0, .bool false])) from HG2.out.next (R' := fun b => b = w.heap.size) (Kept.setCells (R := fun b => b = w.heap.size) (.inr rfl) _ _ (Kept.refl _ _)) (fun i hi e => by omega))
  clear hcp
  go_loopw [8] (fun i wr => ∃ (j : Nat), 1 ≤ j ∧ j ≤ n ∧ i = .int .i64 j ∧ Hid (Blk wr w.heap.size 32 (repC n j)) ∧ Hid (Same w wr)) (fun i _ => n - (intOf i).toNat)
  case atStart => exact ⟨1, Nat.le_refl _, h1, rfl, HX2, HG3⟩
  case round =>
    obtain ⟨j, hj1, hjn, rfl, HX, HK⟩ := hrel
    by_cases hlt : j < n
    · have hji : (j : Int) < (n : Int) := by omega
      have hsub : (n : Int) - (j : Int) = ((n - j : Nat) : Int) := by omega
      go_wp2_with fail
      have hS : (fun _ : World => True) wr.drew := trivial
      refine wp_region_V (fun _ : World => True) 9 10 rfl (by kernel_rfl) ?_
      refine tk 0 38 hS ?_
      refine tk 1 39 hS ?_
      refine tk 2 40 hS ?_
      refine tkV 3 41 (.slice (some ⟨w.heap.size, j * 6, none⟩) (n - j) (n - j)) hS ?_
      refine tk 4 42 hS ?_
      refine tk 5 43 hS ?_
      refine tkV 6 44 (.slice (some ⟨w.heap.size, 0, none⟩) j n) hS ?_
      obtain ⟨c, hc⟩ : ∃ c, Nat.min j (n - j) = c := ⟨_, rfl⟩
      have hcj : c ≤ j := by rw [← hc]; exact Nat.min_le_left _ _
      have hcn : j + c ≤ n := by have : c ≤ n - j := by rw [← hc]; exact Nat.min_le_right _ _
                                 omega
      have hc1 : 1 ≤ c := by rw [← hc]; exact Nat.le_min.2 ⟨by omega, by omega⟩
      have hall : (kFrame.all (List.replicate c eF)).length = c * 6 := by rw [kFrame.all_length, List.length_replicate]; rfl
      refine wpAnyV_one (i := 7) (by kernel_rfl) rfl (fun K hK => ?_)
      refine step_copy_m (m := 6) (c := c) rfl (.tmp 41) (.tmp 44) 22 rfl Try.underlying22 hsz (kFrame.all (List.replicate c eF)) HX.out.drew rfl rfl hc (by rw [hall]) (fun i v hv => ?_) (by rw [hall, repC_length _ _ hjn]; omega) (all_eF_one c) ?_
      · have h := news_X (w2 := wr.drew) HX.out ((Kept.refl _ _).drew) i v (all_eF_at n j c hcj i v hv)
        exact h
      have HXN := (show Hid (Blk (wr.drew.setCells w.heap.size (j * 6) (kFrame.all (List.replicate c eF))) w.heap.size 32 (repC n (j + c))) from by
        have h := HX.out.drew.setCells (kFrame.all (List.replicate c eF)) (j * 6) (by rw [hall, repC_length _ _ hjn]; omega)
        rw [lay_rep n j c hcn] at h
        exact h)
      have HKN := (show Hid (Same w (wr.drew.setCells w.heap.size (j * 6) (kFrame.all (List.replicate c eF)))) from HK.out.drew.next (R' := fun b => b = w.heap.size) (Kept.setCells (R := fun b => b = w.heap.size) (.inr rfl) _ _ (Kept.refl _ _)) (fun i hi e => by omega))
      obtain ⟨wn, hwn⟩ : ∃ x, x = wr.drew.setCells w.heap.size (j * 6) (kFrame.all (List.replicate c eF)) := ⟨_, rfl⟩
      rw [← hwn] at HXN HKN ⊢
      clear hwn hall hc
      refine hK.out _ _ (fun _ => trivial) ?_
      clear hK K
      try simp only [Act.put, sA, s0, sS]
      have hsum : IntKind.i64.wrap ((j : Int) + (c : Int)) = ((j + c : Nat) : Int) := by rw [IntKind.wrap_i64]; omega
      refine tkV 8 46 (.int .i64 ((j + c : Nat) : Int)) (by trivial) ?_
      refine wpAnyV_one (i := 9) (by kernel_rfl) rfl (fun K hK => ?_)
      go_simp
      refine hK.out _ _ (fun h => absurd rfl h) ?_
      clear hK K
      refine wpAnyV_done (by kernel_rfl) ?_
      try simp only [Act.put, sA, s0, sS]
      go_wp2_with fail
      go_roundw
      case rel => exact ⟨j + c, by omega, by omega, by first | rfl | simp, HXN, HKN⟩
      case measure => simp [intOf]; omega
    · obtain rfl : n = j := by omega
      go_wp2
      go_ret
      refine ⟨w.heap.size, rfl, Nat.le_refl _, ?_, HK.out⟩
      have hr := HX.out
      unfold repC at hr
      rw [Nat.sub_self, List.replicate_zero, List.append_nil] at hr
      refine ⟨by rw [List.length_replicate]; exact blk_row hr (by rw [kFrame.all_length, List.length_replicate]) (by unfold maxLen; omega), fun p hp => ?_, fun u hu b hb hb' => ?_, ?_⟩
      · rw [List.eq_of_mem_replicate hp]; exact Own.nil _ _ _ _
      · rw [List.map_replicate] at hu
        rw [List.eq_of_mem_replicate hu] at hb'
        simp [kFrame, eF, Value.ownBlock] at hb'
      · rw [List.map_replicate]
        refine List.pairwise_replicate.2 (.inr (fun b _ hb' => ?_))
        simp [kFrame, eF, Value.ownBlock] at hb'
theorem implPoolNew_any (frames : Int) (w : World) :
    Calls Try.prog 5 #[.int .i64 frames] w fun e w' => ∃ a n c hd qs, e = .returned (.agg #[.slice a n c, .int .i64 hd]) ∧ (hd, datFrameS qs) = newP frames ∧ (∀ b, footR kFrame (.slice a n c) qs b → w.heap.size ≤ b) ∧ OwnR kFrame 0 32 5 w' (.slice a n c) qs ∧ Same w w' := by
  have HB0 := (show Hid (Blk (w.alloc (.cells #[.slice none 0 0, .int .i64 0] 24)) w.heap.size 24 [.slice none 0 0, .int .i64 0]) from Blk.newL w [.slice none 0 0, .int .i64 0] 24)
  have HK0 := hid (sameA w [.slice none 0 0, .int .i64 0] 24)
  by_cases h1 : frames < 1
  · have HT : Hid (newP frames = (0, [])) := if_pos (by simp [inB]; omega)
    obtain ⟨z0, z1⟩ := HB0.out.all2
    have fz := HB0.out.frozen
    go_enter Try.func5, Try.ntmps5
    go_wp2
    refine bodyPost_ret (v := .agg #[.slice none 0 0, .int .i64 0]) (by simp [results, Try.results5, go_sem, z0, z1]) rfl ⟨none, 0, 0, 0, [], rfl, ?_, fun b hb => absurd hb (footR_nil b), OwnR.nil _ _ _ _ _, ?_⟩
    · rw [HT.out]; rfl
    · exact (Kept.refl _ _).alloc _
  by_cases h2 : 16 < frames
  · have HT : Hid (newP frames = (0, [])) := if_pos (by simp [inB]; omega)
    obtain ⟨z0, z1⟩ := HB0.out.all2
    have fz := HB0.out.frozen
    go_enter Try.func5, Try.ntmps5
    go_wp2
    refine bodyPost_ret (v := .agg #[.slice none 0 0, .int .i64 0]) (by simp [results, Try.results5, go_sem, z0, z1]) rfl ?_
    first | refine ⟨none, 0, 0, 0, [], rfl, ?_, fun b hb => absurd hb (footR_nil b), OwnR.nil _ _ _ _ _, ?_⟩ | refine ⟨none, 0, 0, 0, rfl, [], ?_, fun b hb => absurd hb (footR_nil b), OwnR.nil _ _ _ _ _, ?_⟩
    · rw [HT.out]; rfl
    · exact (Kept.refl _ _).alloc _
  obtain ⟨n, rfl⟩ : ∃ n : Nat, frames = (n : Int) := ⟨frames.toNat, by omega⟩
  have HT : Hid (newP (n : Int) = (0, datFrameS (List.replicate n eF))) := by
    unfold Hid newP
    rw [if_neg (by simp [inB]; omega), dat_eF, Int.toNat_natCast]
  have hbx : Blk ((w.alloc (.cells #[.slice none 0 0, .int .i64 0] 24)).alloc (.cells #[.int .i64 (-1), .slice none 0 0, .int .i64 0, .bool false, .int .i64 0, .bool false] 32)) (w.heap.size + 1) 32 [.int .i64 (-1), .slice none 0 0, .int .i64 0, .bool false, .int .i64 0, .bool false] := Blk.newB w _ _ _ _
  have k0 := repeat_any (w.heap.size + 1) n _ hbx (by omega) (by omega)
  clear hbx
  go_enter Try.func5, Try.ntmps5
  go_wp2_with fail
  refine k0.mono ?_
  rintro e w1 ⟨B, rfl, hB, ho, hk⟩
  have hk1 : Same (w.alloc (.cells #[.slice none 0 0, .int .i64 0] 24)) w1 := ((Kept.refl _ _).alloc _).trans hk
  have HK1 := (show Hid (Same w w1) from HK0.out.trans hk1)
  have HB1 := hid (HB0.out.same hk1)
  have HO1 := hid ho
  have hBl : w.heap.size + 1 + 1 ≤ B := by simpa using hB
  clear hk hk1 ho hB k0
  obtain ⟨z0, z1⟩ := HB1.out.all2
  have fz := HB1.out.frozen
  have lz := HB1.out.lt
  have hfoot : ∀ b, footR kFrame (.slice (some ⟨B, 0, none⟩) n n) (List.replicate n eF) b → w.heap.size < b := fun b hb => by
    rcases hb with hb | ⟨p, hp, hb⟩
    · simp [Value.ownBlock] at hb; omega
    · rw [List.eq_of_mem_replicate hp] at hb
      simp [kFrame, eF, Value.ownBlock] at hb
  have HFT := hid hfoot
  clear hfoot
  go_wp2
  refine bodyPost_ret (v := .agg #[.slice (some ⟨B, 0, none⟩) n n, .int .i64 0]) (by simp [results, Try.results5, go_sem, z0, z1]) rfl ⟨some ⟨B, 0, none⟩, n, n, 0, List.replicate n eF, rfl, by rw [HT.out], fun b hb => by have := HFT.out b hb; omega, HO1.out.kept (R := fun b => b = w.heap.size) ?_ (fun b hb e => by have := HFT.out b hb; omega), ?_⟩
  · (iterate 2 refine Kept.setCell (R := fun b => b = w.heap.size) ?_ (.inr rfl) _)
    exact Kept.refl _ _
  · (iterate 2 refine Kept.setCell ?_ (.inl (Nat.le_refl _)) _)
    exact HK1.out
end Go.Proofs.Ytjendhajichhkaa

namespace Go.Proofs.Ytjendhajichhkaa
set_option maxRecDepth 100000
set_option maxHeartbeats 16000000
open Go.RowKit
set_option linter.unusedVariables false
theorem poolNew_law (s0 : Int) (w : World)  :
    Calls Try.prog 3 #[.int .i64 s0] w fun e w' => e = .returned (.bool true) ∧ Same w w' := by
  go_enter Try.func3, Try.ntmps3
  have HKw : Hid (Same w w) := Kept.refl _ _
  go_wp2_with fail
  refine (specPoolNew_any s0 _).mono ?_
  rintro e w1 ⟨aW, nW, cW, hdW, qsW, rfl, hR, hf, ho, hk⟩
  have HR := (show Hid ((hdW, datFrameS qsW) = newP s0) from hR)
  have HSM := (show Hid (SmallF (datFrameS qsW)) from newP_small HR.out)
  have HFW := (show Hid (∀ b, footR kFrame (.slice aW nW cW) qsW b → w.heap.size ≤ b ∧ b < w1.heap.size) from fun b hb => ⟨hf b hb, (ho.lt b hb).2⟩)
  have HWw1 := (show Hid (OwnR kFrame 0 32 5 w1 (.slice aW nW cW) qsW) from ho)
  clear hf ho hR
  have hkk : Same w w1 := hk
  have hzw1 := hkk.size
  have HKw1 := (show Hid (Same w w1) from HKw.out.trans hkk)
  clear hkk hk
  go_wp2_with fail
  refine (implPoolNew_any s0 _).mono ?_
  rintro e w2 ⟨aG, nG, cG, hdG, qsG, rfl, hR, hf, ho, hk⟩
  have hR2 := hR.trans HR.out.symm
  simp only [Prod.mk.injEq] at hR2
  obtain ⟨hR5, hR6⟩ := hR2
  have hR5 := hR5.symm
  subst hR5
  have HQG : Hid (datFrameS qsG = datFrameS qsW) := hR6
  clear hR6
  simp only [World.size_alloc] at hf
  have HFG := (show Hid (∀ b, footR kFrame (.slice aG nG cG) qsG b → w1.heap.size < b ∧ b < w2.heap.size) from fun b hb => ⟨by have := hf b hb; omega, (ho.lt b hb).2⟩)
  have HGw2 := (show Hid (OwnR kFrame 0 32 5 w2 (.slice aG nG cG) qsG) from ho)
  clear hf ho hR
  have hkk : Same w1 w2 := ((Kept.refl _ _).alloc _).trans hk
  have hzw2 := hk.size
  rw [World.size_alloc] at hzw2
  have HWw2 := hid (HWw1.out.same hkk)
  have HZw2 := (show Hid (Blk w2 (w1.heap.size) 24 [(.slice aW nW cW), .int .i64 hdW]) from (Blk.new w1 #[(.slice aW nW cW), .int .i64 hdW] 24).same hk)
  have HKw2 := (show Hid (Same w w2) from HKw1.out.trans hkk)
  clear hkk hk
  have cZ_0 := HZw2.out.c0
  have cZ_1 := HZw2.out.c1
  have lZ := HZw2.out.lt
  go_wp2_with fail
  refine (eqPool_own 0 hdW _ _ qsG qsW _ (Nat.le_trans (HSM.out.of qsG HQG.out).1 (by omega)) HQG.out (fun p hp => Nat.le_trans ((HSM.out.of qsG HQG.out).2.1 p hp) (by omega)) (HGw2.out.same ((Kept.refl _ _).alloc _)) (HWw2.out.same ((Kept.refl _ _).alloc _))).mono ?_
  rintro e w3 ⟨rfl, hk⟩
  have hkk : Same w2 w3 := ((Kept.refl _ _).alloc _).trans hk
  have hzw3 := hk.size
  rw [World.size_alloc] at hzw3
  have HWw3 := hid (HWw2.out.same hkk)
  have HZw3 := hid (HZw2.out.same hkk)
  have HGw3 := hid (HGw2.out.same hkk)
  have HYw3 := (show Hid (Blk w3 (w2.heap.size) 24 [(.slice aG nG cG), .int .i64 hdW]) from (Blk.new w2 #[(.slice aG nG cG), .int .i64 hdW] 24).same hk)
  have HKw3 := (show Hid (Same w w3) from HKw2.out.trans hkk)
  clear hkk hk
  clear cZ_0 cZ_1 lZ
  have hE0 : (0 : Int) ≤ 1 := by omega
  have hE0b : (1 : Int) ≤ 1 := by omega
  obtain ⟨hgl, _, hg0, hg1⟩ := HSM.out.of qsG HQG.out
  obtain ⟨M, hM⟩ : ∃ M, endR mFrame 1 qsG = M := ⟨_, rfl⟩
  rw [hM] at hg0 hg1
  have HM : Hid (endR mFrame 1 qsG = M) := hM
  clear hM
  have hM2 : ¬ M < 0 := by omega
  have cZ_0 := HZw3.out.c0
  have cZ_1 := HZw3.out.c1
  have lZ := HZw3.out.lt
  have cY_0 := HYw3.out.c0
  have cY_1 := HYw3.out.c1
  have lY := HYw3.out.lt
  go_wp2_with fail
  have hm := markPool_own hdW (.slice aG nG cG) qsG 1 w3 (by omega) (by rw [HM.out]; exact hg1) (by omega) HGw3.out
  rw [HM.out] at hm
  refine hm.mono ?_
  clear hm
  rintro e w4 ⟨rfl, ho, hk⟩
  have hzw4 := hk.size
  have HWw4 := (show Hid (OwnR kFrame 0 32 5 w4 (.slice aW nW cW) qsW) from HWw3.out.kept hk (fun b hb e => by have h1 := HFG.out _ e; have h2 := HFW.out b hb; omega))
  have HZw4 := (show Hid (Blk w4 (w1.heap.size) 24 [(.slice aW nW cW), .int .i64 hdW]) from HZw3.out.kept hk (fun e => by have h1 := HFG.out _ e; omega))
  have HYw4 := (show Hid (Blk w4 (w2.heap.size) 24 [(.slice aG nG cG), .int .i64 hdW]) from HYw3.out.kept hk (fun e => by have h1 := HFG.out _ e; omega))
  have HKw4 := (show Hid (Same w w4) from HKw3.out.next hk (fun b hb e => by have h1 := HFG.out _ e; omega))
  have HUw4 := (show Hid (OwnR kFrame 0 32 5 w4 (.slice aG nG cG) (markR mFrame 1 qsG)) from ho)
  clear cZ_0 cZ_1 lZ cY_0 cY_1 lY
  clear hk ho
  have cZ_0 := HZw4.out.c0
  have cZ_1 := HZw4.out.c1
  have lZ := HZw4.out.lt
  have cY_0 := HYw4.out.c0
  have cY_1 := HYw4.out.c1
  have lY := HYw4.out.lt
  go_wp2_with fail
  have hm := heldPool_own hdW (.slice aG nG cG) qsG 1 w4 (by omega) (by rw [HM.out]; exact hg1) (by omega) HUw4.out
  rw [HM.out] at hm
  refine hm.mono ?_
  clear hm
  rintro e w5 ⟨rfl, hk⟩
  have hkk : Same w4 w5 := hk
  have hzw5 := hkk.size
  have HWw5 := hid (HWw4.out.same hkk)
  have HZw5 := hid (HZw4.out.same hkk)
  have HYw5 := hid (HYw4.out.same hkk)
  have HUw5 := hid (HUw4.out.same hkk)
  have HKw5 := (show Hid (Same w w5) from HKw4.out.trans hkk)
  clear hkk hk
  clear cZ_0 cZ_1 lZ cY_0 cY_1 lY
  have cZ_0 := HZw5.out.c0
  have cZ_1 := HZw5.out.c1
  have lZ := HZw5.out.lt
  have cY_0 := HYw5.out.c0
  have cY_1 := HYw5.out.c1
  have lY := HYw5.out.lt
  go_wp2_with fail
  refine (implPoolNew_any s0 _).mono ?_
  rintro e w6 ⟨aL, nL, cL, hdL, qsL, rfl, hR, hf, ho, hk⟩
  have hR2 := hR.trans HR.out.symm
  simp only [Prod.mk.injEq] at hR2
  obtain ⟨hR5, hR6⟩ := hR2
  have hR5 := hR5.symm
  subst hR5
  have HQL : Hid (datFrameS qsL = datFrameS qsW) := hR6
  clear hR6
  have HFL := (show Hid (∀ b, footR kFrame (.slice aL nL cL) qsL b → w5.heap.size ≤ b ∧ b < w6.heap.size) from fun b hb => ⟨hf b hb, (ho.lt b hb).2⟩)
  have HLw6 := (show Hid (OwnR kFrame 0 32 5 w6 (.slice aL nL cL) qsL) from ho)
  clear hf ho hR
  have hkk : Same w5 w6 := hk
  have hzw6 := hkk.size
  have HWw6 := hid (HWw5.out.same hkk)
  have HZw6 := hid (HZw5.out.same hkk)
  have HYw6 := hid (HYw5.out.same hkk)
  have HUw6 := hid (HUw5.out.same hkk)
  have HKw6 := (show Hid (Same w w6) from HKw5.out.trans hkk)
  clear hkk hk
  clear cZ_0 cZ_1 lZ cY_0 cY_1 lY
  have cZ_0 := HZw6.out.c0
  have cZ_1 := HZw6.out.c1
  have lZ := HZw6.out.lt
  have cY_0 := HYw6.out.c0
  have cY_1 := HYw6.out.c1
  have lY := HYw6.out.lt
  go_wp2_with fail
  refine (eqPool_own 0 hdW _ _ qsL qsW _ (Nat.le_trans (HSM.out.of qsL HQL.out).1 (by omega)) HQL.out (fun p hp => Nat.le_trans ((HSM.out.of qsL HQL.out).2.1 p hp) (by omega)) (HLw6.out.same ((Kept.refl _ _).alloc _)) (HWw6.out.same ((Kept.refl _ _).alloc _))).mono ?_
  rintro e w7 ⟨rfl, hk⟩
  have hkk : Same w6 w7 := ((Kept.refl _ _).alloc _).trans hk
  have hzw7 := hk.size
  rw [World.size_alloc] at hzw7
  have HWw7 := hid (HWw6.out.same hkk)
  have HZw7 := hid (HZw6.out.same hkk)
  have HYw7 := hid (HYw6.out.same hkk)
  have HUw7 := hid (HUw6.out.same hkk)
  have HLw7 := hid (HLw6.out.same hkk)
  have HVw7 := (show Hid (Blk w7 (w6.heap.size) 24 [(.slice aL nL cL), .int .i64 hdW]) from (Blk.new w6 #[(.slice aL nL cL), .int .i64 hdW] 24).same hk)
  have HKw7 := (show Hid (Same w w7) from HKw6.out.trans hkk)
  clear hkk hk
  clear cZ_0 cZ_1 lZ cY_0 cY_1 lY
  have cY_0 := HYw7.out.c0
  have cY_1 := HYw7.out.c1
  have lY := HYw7.out.lt
  go_wp2_with fail
  have hm := heldPool_own hdW (.slice aG nG cG) qsG 1 w7 (by omega) (by rw [HM.out]; exact hg1) (by omega) HUw7.out
  rw [HM.out] at hm
  refine hm.mono ?_
  clear hm
  rintro e w8 ⟨rfl, hk⟩
  have hkk : Same w7 w8 := hk
  have hzw8 := hkk.size
  have HYw8 := hid (HYw7.out.same hkk)
  have HUw8 := hid (HUw7.out.same hkk)
  have HKw8 := (show Hid (Same w w8) from HKw7.out.trans hkk)
  clear hkk hk
  clear cY_0 cY_1 lY
  go_wp2
  go_ret
  exact ⟨rfl, HKw8.out⟩
end Go.Proofs.Ytjendhajichhkaa

namespace Go.Proofs.Ytjendhajichhkaa.fnExactPoolNew
open Go.ChangeShapes Go.WideShapes Go.ChangeAt Go.RowKit
set_option linter.unusedVariables false
theorem own : ownKnob Try.prog.godebug = none := by kernel_rfl
set_option maxRecDepth 100000 in
theorem lifted (os : Os) (started : os.Started) (H : Type) (enc : TypeId × Value → H) :
    ReturnsInHanded {} Try.checked os 3 .any (Rows.fnExactPoolNewSpec.pre6 enc Try.prog Try.f3 Rows.fnExactPoolNewRow.domain false) (Rows.fnExactPoolNewSpec.post enc Try.prog Try.f3 false true false false) := by
  refine returnsInHanded_of_change (C := Try.checked) own started (by kernel_rfl) Try.func3
    (ChangeSpec.witness6 (enc := enc) (C := Try.checked) false ⟨#[], #[.int .i64 0], []⟩ 8 (by kernel_rfl) (by kernel_rfl) (by kernel_rfl) (by kernel_rfl)) ?_
  intro W base args ds gs before hval0 hW hcnd _
  have hval : ∀ (j : Nat) t v, Try.f3.params[j]? = some t → args[j]? = some v → Value.okWide Try.prog W .any base t v := hval0
  have hW' := hW
  obtain ⟨p, q, hA0, hV, rfl, hfz, hnd⟩ := hW
  have hA : DataW.TrodAll enc Try.prog W 0 (fun _ => true) true Try.f3.params.toList args.toList ds p := hA0
  rw [Try.params3] at hA hval
  obtain ⟨v0, vs0, d0, ds0, p0, q0, hargs, rfl, rfl, h0, r0⟩ := trodAll_cons hA
  obtain ⟨rfl, rfl, rfl⟩ := trodAll_nil r0
  obtain rfl : args = #[v0] := by cases args; simp_all
  obtain ⟨rfl, rfl⟩ := trodVars_none hV
  obtain ⟨a0, rfl, rfl, rfl, w0⟩ := open_int Try.underlying2 (hval 0 2 v0 rfl rfl) h0
  clear hA0 hval0
  refine (poolNew_law a0 W ).mono fun e W' ⟨he, hk⟩ => ?_
  have bel : Below W.heap.size W W' := hk.below (Nat.le_refl _) (fun _ _ => id)
  subst he
  exact ⟨_, rfl, _, _, _, [], _, [], hW', trodAll_mk1 (shut_bool Try.underlying4 _), (trodAll_cons_mk (shut_int Try.underlying2 w0) trodAll_mk0), rfl, bel.frame _, fun h => by cases h⟩
theorem over : Rows.fnExactPoolNewRow.holds Try.pinned (OpenSpec.ofChange Rows.fnExactPoolNewSpec) :=
  OpenClaim.holds_of_wide 3 Try.f3 rfl rfl rfl rfl rfl rfl rfl ⟨rfl, rfl, rfl, rfl, rfl⟩ rfl rfl rfl rfl rfl (by kernel_rfl) Try.func3 (by kernel_rfl)
    (of_decide_eq_true (by kernel_rfl)) (by unfold Func.isWrapper; first | (rw [if_pos (by decide +kernel)]; kernel_rfl) | (rw [if_neg (by decide +kernel)]; exact ⟨rfl, rfl⟩))
    (fun os started H enc _ => lifted os started H enc)
end Go.Proofs.Ytjendhajichhkaa.fnExactPoolNew
namespace Go.Proofs.Ytjendhajichhkaa
theorem poolNew_proved : Rows.FnExactPoolNewSaid := fnExactPoolNew.over
#print axioms poolNew_proved
end Go.Proofs.Ytjendhajichhkaa
