import Derived.Test.YtbbllmlokddolaaG09
import Derived.Test.YtbbllmlokddolaaG05
import Derived.Test.YtbbllmlokddolaaBend7
import Derived.Test.YtbbllmlokddolaaG02
namespace Go.Proofs.Ytbbllmlokddolaa
set_option maxRecDepth 100000
set_option maxHeartbeats 8000000
open Go.RowKit
set_option linter.unusedVariables false
set_option linter.unusedSimpArgs false
def zE : EFrame := ⟨0, .slice none 0 0, [], 0, false, 0, false⟩
theorem row_blk {w : World} {base g n size : Nat} {e : TypeId} {xs : List Value} (h : w.ownsRow base e size (.slice (some ⟨g, 0, none⟩) n n) n xs) : Blk w g e xs := by
  rcases h.2 with ⟨h, _⟩ | ⟨g', cap, cur, h, _, hg, _, _, hs, ht⟩
  · cases h
  · cases h
    rw [List.take_of_length_le (by simp [hs])] at ht
    unfold Blk
    rw [← ht]
    simpa using hg
theorem blk_row {w : World} {g n size : Nat} {e : TypeId} {xs : List Value} (h : Blk w g e xs) (hl : xs.length = n * size) (hm : n ≤ maxLen) : w.ownsRow 0 e size (.slice (some ⟨g, 0, none⟩) n n) n xs :=
  ⟨hl, .inr ⟨g, n, xs.toArray, rfl, Nat.zero_le _, h, Nat.le_refl _, hm, by simp [hl], List.take_of_length_le (by simp [hl])⟩⟩
def repC (n j : Nat) : List Value := kFrame.all (List.replicate j eF ++ List.replicate (n - j) zE)
theorem repC_length (n j : Nat) (h : j ≤ n) : (repC n j).length = n * 6 := by
  unfold repC
  rw [kFrame.all_length, List.length_append, List.length_replicate, List.length_replicate, show j + (n - j) = n from by omega]
  rfl
theorem lay_rep (n j c : Nat) (h : j + c ≤ n) : lay (repC n j) (j * 6) (kFrame.all (List.replicate c eF)) = repC n (j + c) := by
  unfold repC
  have hA : (kFrame.all (List.replicate j eF)).length = j * 6 := by rw [kFrame.all_length, List.length_replicate]; rfl
  rw [kFrame.all_append, show n - j = c + (n - (j + c)) from by omega, ← List.replicate_append_replicate (n := c), kFrame.all_append, ← hA, lay_midR _ _ _ _ (by rw [kFrame.all_length, kFrame.all_length, List.length_replicate, List.length_replicate]), kFrame.all_append, ← List.replicate_append_replicate (n := j), kFrame.all_append, List.append_assoc]
theorem all_eF_one (c : Nat) : ∀ v ∈ kFrame.all (List.replicate c eF), v.oneCell' = true := by
  induction c with
  | zero => intro v hv; simp [RowK.all] at hv
  | succ c ih =>
    intro v hv
    rw [List.replicate_succ, RowK.all] at hv
    rcases List.mem_append.1 hv with hv | hv
    · simp [kFrame, eF] at hv
      rcases hv with rfl | rfl | rfl | rfl | rfl | rfl <;> rfl
    · exact ih v hv
theorem all_eF_at (n j c : Nat) (hc : c ≤ j) (i : Nat) (v : Value) (h : (kFrame.all (List.replicate c eF))[i]? = some v) : (repC n j)[i]? = some v := by
  unfold repC
  have hl : i < (kFrame.all (List.replicate c eF)).length := (List.getElem?_eq_some_iff.1 h).1
  have e : List.replicate j eF = List.replicate c eF ++ List.replicate (j - c) eF := by rw [List.replicate_append_replicate, show c + (j - c) = j from by omega]
  rw [e, List.append_assoc, kFrame.all_append, List.getElem?_append_left hl]
  exact h
theorem news_X {X : Nat} {w w2 : World} {t : TypeId} {xs : List Value} (hb : Blk w X t xs) (hk : Same w w2) (j : Nat) (v : Value) (h : xs[j]? = some v) : w2.cell? ((⟨X, 0, none⟩ : Addr).add j) = some v := by
  have e : (⟨X, 0, none⟩ : Addr).add j = ⟨X, j, none⟩ := by
    unfold Addr.add
    split
    · next h => subst h; rfl
    · simp
  rw [e, (hb.same hk).cell j, h]
theorem blk_some {B off : Nat} {w : World} {t : TypeId} {xs cs : List Value} (hb : Blk w B t xs) (h : off + cs.length ≤ xs.length) (j : Nat) (hj : j < cs.length) : (w.cell? ⟨B, off + j, none⟩).isSome = true := by
  rw [hb.cell, List.getElem?_eq_getElem (by omega)]
  rfl
theorem repeat_any (X n : Nat) (w : World) (hb : Blk w X 36 [.int .i64 (-1), .slice none 0 0, .int .i64 0, .bool false, .int .i64 0, .bool false]) (h1 : 1 ≤ n) (h16 : n ≤ 16) :
    Calls Try.prog 16 #[.slice (some ⟨X, 0, none⟩) 1 1, .int .i64 n] w fun e w' => ∃ B, e = .returned (.slice (some ⟨B, 0, none⟩) n n) ∧ w.heap.size ≤ B ∧ OwnR kFrame 0 36 5 w' (.slice (some ⟨B, 0, none⟩) n n) (List.replicate n eF) ∧ Same w w' := by
  obtain ⟨i0, hi, hz0, hz1, hz2⟩ := info_parts Try.infoRFrame
  have hsz : (Try.prog.info? 36).map (·.size) = some 6 := by simp [hi, hz1]
  have k0 := fun wx => mul_one (n : Int) wx (by omega)
  have HB := hid hb
  have hXl := hb.lt
  clear hb
  have hu : IntKind.u64.wrap (n : Int) = (n : Int) := by first | (rw [IntKind.wrap_u64]; omega) | (simp [IntKind.wrap, IntKind.bits, IntKind.signed]; omega)
  have hin : IntKind.i64.wrap (n : Int) = (n : Int) := by rw [IntKind.wrap_i64]; omega
  go_enter Try.func16, Try.ntmps16
  go_wp2_with fail
  refine (k0 _).mono ?_
  rintro e w1 ⟨rfl, hw1⟩
  replace hw1 := hw1.symm
  subst hw1
  go_wp2_with (at_make; go_loud (refine wpList_make_full _ rfl (.tmp 29) (.tmp 29) 23 rfl 0 36 i0 (.agg #[.int .i64 0, .slice none 0 0, .int .i64 0, .bool false, .int .i64 0, .bool false]) 6 Try.underlying23 hi hz0 hz1 .i64 .i64 _ _ n rfl rfl (by simp) (by simp) (by rw [hz2]; omega) (by unfold maxLen; omega) (Nat.zero_le _) ?_); intro w2 hown2 hgrow2; have HO2 := (show Hid (Blk w2 w.heap.size 36 (repC n 0)) from (by have h := ownR_made (K := kFrame) (zp := zE) (tb := 5) (by decide) rfl rfl rfl hown2; have h2 := h.row; rw [List.length_replicate] at h2; have h3 := row_blk h2; unfold Hid repC; rw [Nat.sub_zero]; exact h3)); have HG2 := (show Hid (Same w w2) from Kept.of_grown hgrow2 (fun k e => by cases e)); have hcp := run_copy_m (P := Try.prog) w2 23 23 3 36 6 w.heap.size 0 n n ⟨X, 0, none⟩ 1 1 1 [.int .i64 (-1), .slice none 0 0, .int .i64 0, .bool false, .int .i64 0, .bool false] Try.underlying23 hsz (Nat.min_eq_left h1) rfl (news_X HB.out HG2.out) (blk_some HO2.out (by rw [repC_length _ _ (by omega)]; simp; omega)) (fun j _ => HO2.out.frozen _) (by simp [Value.oneCell']); clear hown2 hgrow2)
  have HX2 := (show Hid (Blk (w2.setCells w.heap.size 0 [.int .i64 (-1), .slice none 0 0, .int .i64 0, .bool false, .int .i64 0, .bool false]) w.heap.size 36 (repC n 1)) from by
    have h := HO2.out.setCells [.int .i64 (-1), .slice none 0 0, .int .i64 0, .bool false, .int .i64 0, .bool false] 0 (by rw [repC_length _ _ (by omega)]; simp; omega)
    have h2 := lay_rep n 0 1 (by omega)
    rw [Nat.zero_mul, Nat.zero_add] at h2
    rw [← h2]
    exact h)
  have HG3 := (show Hid (Same w (w2.setCells w.heap.size 0 [.int .i64 (-1), .slice none 0 0, .int .i64 0, .bool false, .int .i64 0, .bool false])) from HG2.out.next (R' := fun b => b = w.heap.size) (Kept.setCells (R := fun b => b = w.heap.size) (.inr rfl) _ _ (Kept.refl _ _)) (fun i hi e => by omega))
  clear hcp
  go_loopw [8] (fun i wr => ∃ (j : Nat), 1 ≤ j ∧ j ≤ n ∧ i = .int .i64 j ∧ Hid (Blk wr w.heap.size 36 (repC n j)) ∧ Hid (Same w wr)) (fun i _ => n - (intOf i).toNat)
  case atStart => exact ⟨1, Nat.le_refl _, h1, rfl, HX2, HG3⟩
  case round =>
    obtain ⟨j, hj1, hjn, rfl, HX, HK⟩ := hrel
    by_cases hlt : j < n
    · have hji : (j : Int) < (n : Int) := by omega
      have hsub : (n : Int) - (j : Int) = ((n - j : Nat) : Int) := by omega
      go_wp2_with fail
      have hS : (fun _ : World => True) wr.drew := trivial
      refine wp_region_V (fun _ : World => True) 9 10 rfl (by kernel_rfl) ?_
      refine tk 0 38 hS ?_
      refine tk 1 39 hS ?_
      refine tk 2 40 hS ?_
      refine tkV 3 41 (.slice (some ⟨w.heap.size, j * 6, none⟩) (n - j) (n - j)) hS ?_
      refine tk 4 42 hS ?_
      refine tk 5 43 hS ?_
      refine tkV 6 44 (.slice (some ⟨w.heap.size, 0, none⟩) j n) hS ?_
      obtain ⟨c, hc⟩ : ∃ c, Nat.min j (n - j) = c := ⟨_, rfl⟩
      have hcj : c ≤ j := by rw [← hc]; exact Nat.min_le_left _ _
      have hcn : j + c ≤ n := by have : c ≤ n - j := by rw [← hc]; exact Nat.min_le_right _ _
                                 omega
      have hc1 : 1 ≤ c := by rw [← hc]; exact Nat.le_min.2 ⟨by omega, by omega⟩
      have hall : (kFrame.all (List.replicate c eF)).length = c * 6 := by rw [kFrame.all_length, List.length_replicate]; rfl
      refine wpAnyV_one (i := 7) (by kernel_rfl) rfl (fun K hK => ?_)
      refine step_copy_m (m := 6) (c := c) rfl (.tmp 41) (.tmp 44) 23 rfl Try.underlying23 hsz (kFrame.all (List.replicate c eF)) HX.out.drew rfl rfl hc (by rw [hall]) (fun i v hv => ?_) (by rw [hall, repC_length _ _ hjn]; omega) (all_eF_one c) ?_
      · have h := news_X (w2 := wr.drew) HX.out ((Kept.refl _ _).drew) i v (all_eF_at n j c hcj i v hv)
        exact h
      have HXN := (show Hid (Blk (wr.drew.setCells w.heap.size (j * 6) (kFrame.all (List.replicate c eF))) w.heap.size 36 (repC n (j + c))) from by
        have h := HX.out.drew.setCells (kFrame.all (List.replicate c eF)) (j * 6) (by rw [hall, repC_length _ _ hjn]; omega)
        rw [lay_rep n j c hcn] at h
        exact h)
      have HKN := (show Hid (Same w (wr.drew.setCells w.heap.size (j * 6) (kFrame.all (List.replicate c eF)))) from HK.out.drew.next (R' := fun b => b = w.heap.size) (Kept.setCells (R := fun b => b = w.heap.size) (.inr rfl) _ _ (Kept.refl _ _)) (fun i hi e => by omega))
      obtain ⟨wn, hwn⟩ : ∃ x, x = wr.drew.setCells w.heap.size (j * 6) (kFrame.all (List.replicate c eF)) := ⟨_, rfl⟩
      rw [← hwn] at HXN HKN ⊢
      clear hwn hall hc
      refine hK.out _ _ (fun _ => trivial) ?_
      clear hK K
      try simp only [Act.put, sA, s0, sS]
      have hsum : IntKind.i64.wrap ((j : Int) + (c : Int)) = ((j + c : Nat) : Int) := by rw [IntKind.wrap_i64]; omega
      refine tkV 8 46 (.int .i64 ((j + c : Nat) : Int)) (by trivial) ?_
      refine wpAnyV_one (i := 9) (by kernel_rfl) rfl (fun K hK => ?_)
      go_simp
      refine hK.out _ _ (fun h => absurd rfl h) ?_
      clear hK K
      refine wpAnyV_done (by kernel_rfl) ?_
      try simp only [Act.put, sA, s0, sS]
      go_wp2_with fail
      go_roundw
      case rel => exact ⟨j + c, by omega, by omega, by first | rfl | simp, HXN, HKN⟩
      case measure => simp [intOf]; omega
    · obtain rfl : n = j := by omega
      go_wp2
      go_ret
      refine ⟨w.heap.size, rfl, Nat.le_refl _, ?_, HK.out⟩
      have hr := HX.out
      unfold repC at hr
      rw [Nat.sub_self, List.replicate_zero, List.append_nil] at hr
      refine ⟨by rw [List.length_replicate]; exact blk_row hr (by rw [kFrame.all_length, List.length_replicate]) (by unfold maxLen; omega), fun p hp => ?_, fun u hu b hb hb' => ?_, ?_⟩
      · rw [List.eq_of_mem_replicate hp]; exact Own.nil _ _ _ _
      · rw [List.map_replicate] at hu
        rw [List.eq_of_mem_replicate hu] at hb'
        simp [kFrame, eF, Value.ownBlock] at hb'
      · rw [List.map_replicate]
        refine List.pairwise_replicate.2 (.inr (fun b _ hb' => ?_))
        simp [kFrame, eF, Value.ownBlock] at hb'
theorem implPoolNew_any (frames : Int) (w : World) :
    Calls Try.prog 4 #[.int .i64 frames] w fun e w' => ∃ a n c hd qs, e = .returned (.agg #[.slice a n c, .int .i64 hd]) ∧ (hd, datFrameS qs) = newP frames ∧ (∀ b, footR kFrame (.slice a n c) qs b → w.heap.size ≤ b) ∧ OwnR kFrame 0 36 5 w' (.slice a n c) qs ∧ Same w w' := by
  have HB0 := (show Hid (Blk (w.alloc (.cells #[.slice none 0 0, .int .i64 0] 25)) w.heap.size 25 [.slice none 0 0, .int .i64 0]) from Blk.newL w [.slice none 0 0, .int .i64 0] 25)
  have HK0 := hid (sameA w [.slice none 0 0, .int .i64 0] 25)
  by_cases h1 : frames < 1
  · have HT : Hid (newP frames = (0, [])) := if_pos (by simp [inB]; omega)
    obtain ⟨z0, z1⟩ := HB0.out.all2
    have fz := HB0.out.frozen
    go_enter Try.func4, Try.ntmps4
    go_wp2
    refine bodyPost_ret (v := .agg #[.slice none 0 0, .int .i64 0]) (by simp [results, Try.results4, go_sem, z0, z1]) rfl ⟨none, 0, 0, 0, [], rfl, ?_, fun b hb => absurd hb (footR_nil b), OwnR.nil _ _ _ _ _, ?_⟩
    · rw [HT.out]; rfl
    · exact (Kept.refl _ _).alloc _
  by_cases h2 : 16 < frames
  · have HT : Hid (newP frames = (0, [])) := if_pos (by simp [inB]; omega)
    obtain ⟨z0, z1⟩ := HB0.out.all2
    have fz := HB0.out.frozen
    go_enter Try.func4, Try.ntmps4
    go_wp2
    refine bodyPost_ret (v := .agg #[.slice none 0 0, .int .i64 0]) (by simp [results, Try.results4, go_sem, z0, z1]) rfl ?_
    first | refine ⟨none, 0, 0, 0, [], rfl, ?_, fun b hb => absurd hb (footR_nil b), OwnR.nil _ _ _ _ _, ?_⟩ | refine ⟨none, 0, 0, 0, rfl, [], ?_, fun b hb => absurd hb (footR_nil b), OwnR.nil _ _ _ _ _, ?_⟩
    · rw [HT.out]; rfl
    · exact (Kept.refl _ _).alloc _
  obtain ⟨n, rfl⟩ : ∃ n : Nat, frames = (n : Int) := ⟨frames.toNat, by omega⟩
  have HT : Hid (newP (n : Int) = (0, datFrameS (List.replicate n eF))) := by
    unfold Hid newP
    rw [if_neg (by simp [inB]; omega), dat_eF, Int.toNat_natCast]
  have hbx : Blk ((w.alloc (.cells #[.slice none 0 0, .int .i64 0] 25)).alloc (.cells #[.int .i64 (-1), .slice none 0 0, .int .i64 0, .bool false, .int .i64 0, .bool false] 36)) (w.heap.size + 1) 36 [.int .i64 (-1), .slice none 0 0, .int .i64 0, .bool false, .int .i64 0, .bool false] := Blk.newB w _ _ _ _
  have k0 := repeat_any (w.heap.size + 1) n _ hbx (by omega) (by omega)
  clear hbx
  go_enter Try.func4, Try.ntmps4
  go_wp2_with fail
  refine k0.mono ?_
  rintro e w1 ⟨B, rfl, hB, ho, hk⟩
  have hk1 : Same (w.alloc (.cells #[.slice none 0 0, .int .i64 0] 25)) w1 := ((Kept.refl _ _).alloc _).trans hk
  have HK1 := (show Hid (Same w w1) from HK0.out.trans hk1)
  have HB1 := hid (HB0.out.same hk1)
  have HO1 := hid ho
  have hBl : w.heap.size + 1 + 1 ≤ B := by simpa using hB
  clear hk hk1 ho hB k0
  obtain ⟨z0, z1⟩ := HB1.out.all2
  have fz := HB1.out.frozen
  have lz := HB1.out.lt
  have hfoot : ∀ b, footR kFrame (.slice (some ⟨B, 0, none⟩) n n) (List.replicate n eF) b → w.heap.size < b := fun b hb => by
    rcases hb with hb | ⟨p, hp, hb⟩
    · simp [Value.ownBlock] at hb; omega
    · rw [List.eq_of_mem_replicate hp] at hb
      simp [kFrame, eF, Value.ownBlock] at hb
  have HFT := hid hfoot
  clear hfoot
  go_wp2
  refine bodyPost_ret (v := .agg #[.slice (some ⟨B, 0, none⟩) n n, .int .i64 0]) (by simp [results, Try.results4, go_sem, z0, z1]) rfl ⟨some ⟨B, 0, none⟩, n, n, 0, List.replicate n eF, rfl, by rw [HT.out], fun b hb => by have := HFT.out b hb; omega, HO1.out.kept (R := fun b => b = w.heap.size) ?_ (fun b hb e => by have := HFT.out b hb; omega), ?_⟩
  · (iterate 2 refine Kept.setCell (R := fun b => b = w.heap.size) ?_ (.inr rfl) _)
    exact Kept.refl _ _
  · (iterate 2 refine Kept.setCell ?_ (.inl (Nat.le_refl _)) _)
    exact HK1.out
end Go.Proofs.Ytbbllmlokddolaa

namespace Go.Proofs.Ytbbllmlokddolaa
set_option maxRecDepth 100000
set_option maxHeartbeats 8000000
open Go.RowKit
set_option linter.unusedVariables false
set_option linter.unusedSimpArgs false
structure PoI (w wr : World) (P g n c : Nat) (hd : Int) (ps : List EFrame) (gb cb : Nat) (bs : List Int) : Prop where
  box : Blk wr P 25 [.slice (some ⟨g, 0, none⟩) n c, .int .i64 hd]
  own : OwnR kFrame 0 36 5 wr (.slice (some ⟨g, 0, none⟩) n c) ps
  foot : ∀ b, footR kFrame (.slice (some ⟨g, 0, none⟩) n c) ps b → b ≠ P
  byt : Rd .u8 wr (.slice (some ⟨gb, 0, none⟩) 4096 cb) bs
  gbP : gb ≠ P ∧ gb < wr.heap.size
  blen : bs.length = 4096
  good : poolF ps hd = 0
  len : ps.length = n
  kept : Same w wr
  wP : w.heap.size ≤ P
section
variable {w wr wx : World} {P g n c : Nat} {hd : Int} {ps : List EFrame} {gb cb : Nat} {bs : List Int}
theorem PoI.same (h : PoI w wr P g n c hd ps gb cb bs) (hk : Same wr wx) : PoI w wx P g n c hd ps gb cb bs :=
  ⟨h.box.same hk, h.own.same hk, h.foot, h.byt.same hk, ⟨h.gbP.1, Nat.lt_of_lt_of_le h.gbP.2 hk.size⟩, h.blen, h.good, h.len, h.kept.trans hk, h.wP⟩
theorem PoI.lift {X : Nat} (h : PoI w wr P g n c hd ps gb cb bs) (hX : wr.heap.size ≤ X) (hk : Kept (fun b => b = X) wr wx) : PoI w wx P g n c hd ps gb cb bs := by
  have h1 := h.box.lt
  have h2 := h.kept.size
  exact ⟨h.box.kept hk (fun e => by omega), h.own.kept hk (fun b hb e => by have h3 := (h.own.lt b hb).2; have e' : b = X := e; omega), h.foot, h.byt.kept hk (fun b hb e => by have e1 : gb = b := (by simpa [Value.ownBlock] using hb); have h3 := h.gbP.2; have e' : b = X := e; omega), ⟨h.gbP.1, Nat.lt_of_lt_of_le h.gbP.2 hk.size⟩, h.blen, h.good, h.len, h.kept.next hk (fun i hi e => by have e' : i = X := e; omega), h.wP⟩
theorem PoI.next {g' n' c' : Nat} {hd' : Int} {qs : List EFrame} (h : PoI w wr P g n c hd ps gb cb bs) (ho : OwnR kFrame 0 36 5 wr (.slice (some ⟨g', 0, none⟩) n' c') qs) (hf : ∀ b, footR kFrame (.slice (some ⟨g', 0, none⟩) n' c') qs b → b ≠ P) (hg : poolF qs hd' = 0) (hl : qs.length = n') :
    PoI w ((wr.setCell ⟨P, 0, none⟩ (.slice (some ⟨g', 0, none⟩) n' c')).setCell ⟨P, 1, none⟩ (.int .i64 hd')) P g' n' c' hd' qs gb cb bs := by
  have hk : Kept (fun b => b = P) wr ((wr.setCell ⟨P, 0, none⟩ (.slice (some ⟨g', 0, none⟩) n' c')).setCell ⟨P, 1, none⟩ (.int .i64 hd')) := ((Kept.refl (fun b => b = P) wr).setCell (p := ⟨P, 0, none⟩) (.inr rfl) _).setCell (p := ⟨P, 1, none⟩) (.inr rfl) _
  have hw := h.wP
  exact ⟨(h.box.stored 0 _).stored 1 _, ho.kept hk (fun b hb e => hf b hb e), hf, h.byt.kept hk (fun b hb e => by have e1 : gb = b := (by simpa [Value.ownBlock] using hb); have e' : b = P := e; exact h.gbP.1 (e1.trans e')), ⟨h.gbP.1, Nat.lt_of_lt_of_le h.gbP.2 hk.size⟩, h.blen, hg, hl, h.kept.next hk (fun i hi e => by have e' : i = P := e; omega), hw⟩
end
theorem PoI.num {w wr : World} {P g n c : Nat} {hd : Int} {ps : List EFrame} {gb cb : Nat} {bs : List Int} (h : PoI w wr P g n c hd ps gb cb bs) : 1 ≤ n ∧ n ≤ 16 := by
  have := poolF_len h.good
  rw [h.len] at this
  omega
def AnsR (w w' : World) (e : Ending) (cd fr hd : Int) (ds : List FD) : Prop := ∃ (a : Option Addr) (n c : Nat) (qs : List EFrame), e = .returned (.agg #[.int .i64 cd, .int .i64 fr, .slice a n c, .int .i64 hd]) ∧ datFrameS qs = ds ∧ qs.length = n ∧ (0 < n → ∃ g, a = some ⟨g, 0, none⟩) ∧ (∀ b, footR kFrame (.slice a n c) qs b → w.heap.size ≤ b) ∧ OwnR kFrame 0 36 5 w' (.slice a n c) qs ∧ Same w w'
theorem ansR_of {w w' : World} {e : Ending} {R : Int × Int × Int × List FD} (h : ∃ cd fr a n c hd qs, e = .returned (.agg #[.int .i64 cd, .int .i64 fr, .slice a n c, .int .i64 hd]) ∧ (cd, fr, hd, datFrameS qs) = R ∧ (∀ b, footR kFrame (.slice a n c) qs b → w.heap.size ≤ b) ∧ OwnR kFrame 0 36 5 w' (.slice a n c) qs ∧ Same w w') : AnsR w w' e R.1 R.2.1 R.2.2.1 R.2.2.2 := by
  obtain ⟨cd, fr, a, n, c, hd, qs, rfl, rfl, hf, ho, hk⟩ := h
  rcases ho.form with ⟨h1, h2⟩ | ⟨g, cap, h1, _⟩
  · injection h1 with h1 h3 h4
    subst h1 h3 h4
    exact ⟨none, 0, 0, qs, rfl, rfl, by rw [h2]; rfl, fun h => by omega, hf, ho, hk⟩
  · injection h1 with h1 h3 h4
    subst h1 h3 h4
    exact ⟨_, _, _, qs, rfl, rfl, rfl, fun _ => ⟨g, rfl⟩, hf, ho, hk⟩
end Go.Proofs.Ytbbllmlokddolaa
