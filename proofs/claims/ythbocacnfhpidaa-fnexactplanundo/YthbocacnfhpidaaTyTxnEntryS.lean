import Derived.Test.YthbocacnfhpidaaG00
import Derived.Test.YthbocacnfhpidaaG01
import Derived.Deep.DeepCutAuto
import Derived.Deep.RegionHeld3
namespace Go.Proofs.Ythbocacnfhpidaa
set_option maxHeartbeats 2000000
open Go.RowKit
set_option linter.unusedVariables false
set_option linter.unusedSimpArgs false
theorem Try.infoTxnEntry : (Try.prog.info? 52).map (fun i => (i.zero, i.size, i.bytes)) = some (some (.agg #[.int .i64 0, .int .i64 0, .int .i64 0, .int .i64 0]), 4, 32) := by kernel_rfl
theorem eqTxnEntry_any (x0 x1 x2 x3 : Int) (w : World) : Calls Try.prog 32 #[.agg #[.int .i64 x0, .int .i64 x1, .int .i64 x2, .int .i64 x3], .agg #[.int .i64 x0, .int .i64 x1, .int .i64 x2, .int .i64 x3]] w fun e w' => e = .returned (.bool true) ∧ Same w w' := by
  go_enter Try.func32, Try.ntmps32
  go_wp2
  go_ret
  exact ⟨rfl, ((Kept.refl _ _).alloc _).alloc _⟩
theorem toTxnEntry_any (x0 x1 x2 x3 : Int) (w : World) : Calls Try.prog 20 #[.agg #[.int .i64 x0, .int .i64 x1, .int .i64 x2, .int .i64 x3]] w fun e w' => e = .returned (.agg #[.int .i64 x0, .int .i64 x1, .int .i64 x2, .int .i64 x3]) ∧ Same w w' := by
  go_enter Try.func20, Try.ntmps20
  go_wp2
  refine bodyPost_ret (v := .agg #[.int .i64 x0, .int .i64 x1, .int .i64 x2, .int .i64 x3]) (by simp [results, Try.results20, go_sem]) rfl ⟨rfl, ?_⟩
  repeat (first | exact Kept.refl _ _ | refine Kept.alloc ?_ _ | refine Kept.setCell ?_ (.inl (by simp)) _)
theorem eqTxnEntryS_own (x y : FR) (w : World) (hn : (x.bs.length : Int) ≤ 1125899906842624) (hd : x.bs = y.bs) (ha : OwnL w (x.rows 4)) (hb : OwnL w (y.rows 4)) :
    Calls Try.prog 12 #[x.v, y.v] w fun e w' => e = .returned (.bool true) ∧ Same w w' := by
  have hla := FR.own_len ha
  have hlb := FR.own_len hb
  have hfa := FR.own_form ha
  have hfb := FR.own_form hb
  obtain ⟨xe, xa, xn, xc, bs⟩ := x
  obtain ⟨ye, ya, yn, yc, bs'⟩ := y
  dsimp only at hn hd hla hlb hfa hfb
  subst hd
  obtain rfl : xn = yn := by omega
  dsimp only [FR.v]
  clear ha hb
  rcases hfa with ⟨rfl, rfl, rfl⟩ | ⟨ga, rfl, hac, hcm, hoa⟩
  · have hz : (0 : Nat) = 0 := rfl
    go_enter Try.func12, Try.ntmps12
    go_wp2
    refine wp_loop_rounds 1 ?_
    rw [rounds_succ]
    go_wp2
    go_ret
    exact ⟨rfl, Kept.refl _ _⟩
  rcases hfb with ⟨rfl, rfl, rfl⟩ | ⟨gb, rfl, hbc, hcm', hob⟩
  · clear hoa
    go_enter Try.func12, Try.ntmps12
    go_wp2
    refine wp_loop_rounds 1 ?_
    rw [rounds_succ]
    go_wp2
    go_ret
    exact ⟨rfl, Kept.refl _ _⟩
  have HA := (show Hid (OwnF 4 xe w ga xn xc bs) from hoa)
  have HB := (show Hid (OwnF 4 ye w gb xn yc bs) from hob)
  have hxn : (xn : Int) ≤ 1125899906842624 := by omega
  clear hoa hob hla hlb hn
  go_enter Try.func12, Try.ntmps12
  go_wp2
  go_loopw [5] (fun i wr => ∃ (k : Nat), k ≤ xn ∧ i = .int .i64 k ∧ Hid (Same w wr)) (fun i _ => xn - (intOf i).toNat)
  case atStart => exact ⟨0, Nat.zero_le _, rfl, Kept.refl _ _⟩
  case round =>
    obtain ⟨k, hk, rfl, HK⟩ := hrel
    by_cases hlt : k < xn
    · have hoa := HA.out.same HK.out
      have hob := HB.out.same HK.out
      have ha0 : wr.cell? ⟨ga, k * 4, none⟩ = some (.int .i64 (bs.getD (k * 4) 0)) := hoa.cell _ (by omega)
      have ha1 : wr.cell? ⟨ga, k * 4 + 1, none⟩ = some (.int .i64 (bs.getD (k * 4 + 1) 0)) := hoa.cell _ (by omega)
      have ha2 : wr.cell? ⟨ga, k * 4 + 2, none⟩ = some (.int .i64 (bs.getD (k * 4 + 2) 0)) := hoa.cell _ (by omega)
      have ha3 : wr.cell? ⟨ga, k * 4 + 3, none⟩ = some (.int .i64 (bs.getD (k * 4 + 3) 0)) := hoa.cell _ (by omega)
      have hb0 : wr.cell? ⟨gb, k * 4, none⟩ = some (.int .i64 (bs.getD (k * 4) 0)) := hob.cell _ (by omega)
      have hb1 : wr.cell? ⟨gb, k * 4 + 1, none⟩ = some (.int .i64 (bs.getD (k * 4 + 1) 0)) := hob.cell _ (by omega)
      have hb2 : wr.cell? ⟨gb, k * 4 + 2, none⟩ = some (.int .i64 (bs.getD (k * 4 + 2) 0)) := hob.cell _ (by omega)
      have hb3 : wr.cell? ⟨gb, k * 4 + 3, none⟩ = some (.int .i64 (bs.getD (k * 4 + 3) 0)) := hob.cell _ (by omega)
      clear hoa hob
      generalize bs.getD (k * 4) 0 = x0 at *
      generalize bs.getD (k * 4 + 1) 0 = x1 at *
      generalize bs.getD (k * 4 + 2) 0 = x2 at *
      generalize bs.getD (k * 4 + 3) 0 = x3 at *
      go_wp2_with fail
      go_region_with (go_at_call 32; refine (eqTxnEntry_any x0 x1 x2 x3 _).mono ?_; rintro e w1 ⟨rfl, hk1⟩)
      all_goals
        have HK1 : Hid (Same w w1) := HK.out.drew.trans hk1
        clear hk1 ha0 hb0 ha1 hb1 ha2 hb2 ha3 hb3
        go_wp2
        go_roundw
        case rel => exact ⟨k + 1, by omega, by go_num, HK1⟩
        case measure => simp [intOf]; omega
    · go_wp2
      go_ret
      exact ⟨rfl, HK.out⟩
theorem szTxnEntryS_any (a : Option Addr) (n c : Nat) (left : Int) (w : World) (h0 : 0 ≤ left) (h1 : left ≤ 1048576) (hn : n ≤ maxLen) :
    Calls Try.prog 5 #[.slice a n c, .int .i64 left] w fun e w' => ∃ r : Int, e = .returned (.int .i64 r) ∧ ((r = -1 ∧ left < n) ∨ (r = left - n ∧ 0 ≤ r)) ∧ w' = w := by
  unfold maxLen at hn
  by_cases h : left < n
  · go_enter Try.func5, Try.ntmps5
    go_wp2
    go_ret
    exact ⟨_, rfl, .inl ⟨rfl, h⟩, rfl⟩
  · go_enter Try.func5, Try.ntmps5
    go_wp2
    go_ret
    exact ⟨_, rfl, .inr ⟨rfl, by omega⟩, rfl⟩
theorem toTxnEntryS_any (x : FR) (w : World) (hn : (x.n : Int) ≤ 1073741824) (hv : RdF 4 w x) :
    Calls Try.prog 8 #[x.v] w fun e w' => ∃ y : FR, e = .returned y.v ∧ y.bs = x.bs ∧ y.n = x.n ∧ (∀ b, FootL (y.rows 4) b → w.heap.size ≤ b) ∧ OwnL w' (y.rows 4) ∧ Same w w' := by
  obtain ⟨i0, hi, hz0, hz1, hz2⟩ := info_parts Try.infoTxnEntry
  obtain ⟨hmax, hlen, hform⟩ := hv
  obtain ⟨xe, xa, len, xc, bs⟩ := x
  dsimp only [FR.v] at *
  by_cases h0 : len = 0
  · subst h0
    obtain rfl : bs = [] := List.length_eq_zero_iff.1 (by omega)
    clear hform hmax hlen hn
    go_enter Try.func8, Try.ntmps8
    go_wp2_with (at_make; refine wpList_make_full _ rfl (.tmp 6) (.tmp 6) 32 rfl 0 52 i0 (.agg #[.int .i64 0, .int .i64 0, .int .i64 0, .int .i64 0]) 4 Try.underlying32 hi hz0 hz1 .i64 .i64 _ _ 0 rfl rfl (by simp) (by simp) (by simp) (by simp) (Nat.zero_le _) ?_; intro w1 hown1 hgrow1; have HO : Hid (OwnF 4 52 w1 w.heap.size 0 0 (List.replicate (0 * 4) 0)) := ownF_made (z := .agg #[.int .i64 0, .int .i64 0, .int .i64 0, .int .i64 0]) (by decide) (by simp [Value.cells, List.replicate]) (by simpa using hown1); have HK : Hid (Same w w1) := Kept.of_grown hgrow1 (fun k e => by cases e); clear hown1 hgrow1)
    refine wp_loop_rounds 1 ?_
    rw [rounds_succ]
    go_wp2
    go_ret
    exact ⟨⟨52, some ⟨w.heap.size, 0, none⟩, 0, 0, []⟩, rfl, rfl, rfl, fun b hb => by have h := (FootL_one _ _).1 hb; simp [FR.v, Value.ownBlock] at h; omega, HO.out.out, HK.out⟩
  · obtain ⟨b, off, rfl, hle, hc⟩ := hform.resolve_left h0
    have HC := (show Hid (∀ i, i < len * 4 → w.cell? ⟨b, off + i, none⟩ = some (.int .i64 (bs.getD i 0))) from hc)
    have HLB := (show Hid (bs.length = len * 4) from hlen)
    clear hc hform hlen
    go_enter Try.func8, Try.ntmps8
    go_wp2_with (at_make; refine wpList_make_full _ rfl (.tmp 6) (.tmp 6) 32 rfl 0 52 i0 (.agg #[.int .i64 0, .int .i64 0, .int .i64 0, .int .i64 0]) 4 Try.underlying32 hi hz0 hz1 .i64 .i64 _ _ len rfl rfl (by simp) (by simp) (by rw [hz2]; omega) (by unfold maxLen; omega) (Nat.zero_le _) ?_; intro w1 hown1 hgrow1; have HO : Hid (OwnF 4 52 w1 w.heap.size len len (List.replicate (len * 4) 0)) := ownF_made (z := .agg #[.int .i64 0, .int .i64 0, .int .i64 0, .int .i64 0]) (by decide) (by simp [Value.cells, List.replicate]) (by simpa using hown1); have HK : Hid (Same w w1) := Kept.of_grown hgrow1 (fun k e => by cases e); clear hown1 hgrow1)
    go_loopw [4] (fun i wr => ∃ (k : Nat), k ≤ len ∧ i = .int .i64 k ∧ Hid (OwnF 4 52 wr w.heap.size len len (fillUp bs (k * 4))) ∧ Hid (Same w wr)) (fun i _ => len - (intOf i).toNat)
    case atStart => exact ⟨0, Nat.zero_le _, rfl, by rw [Nat.zero_mul, fillUp_zero, HLB.out]; exact HO, HK⟩
    case round =>
      obtain ⟨k, hk, rfl, HOr, HKr⟩ := hrel
      by_cases hlt : k < len
      · have q0 : wr.cell? ⟨b, off + k * 4, none⟩ = some (.int .i64 (bs.getD (k * 4) 0)) := by have h := HKr.out.cellOf (HC.out (k * 4) (by omega)) id; simpa only [Nat.add_assoc] using h
        have q1 : wr.cell? ⟨b, off + k * 4 + 1, none⟩ = some (.int .i64 (bs.getD (k * 4 + 1) 0)) := by have h := HKr.out.cellOf (HC.out (k * 4 + 1) (by omega)) id; simpa only [Nat.add_assoc] using h
        have q2 : wr.cell? ⟨b, off + k * 4 + 2, none⟩ = some (.int .i64 (bs.getD (k * 4 + 2) 0)) := by have h := HKr.out.cellOf (HC.out (k * 4 + 2) (by omega)) id; simpa only [Nat.add_assoc] using h
        have q3 : wr.cell? ⟨b, off + k * 4 + 3, none⟩ = some (.int .i64 (bs.getD (k * 4 + 3) 0)) := by have h := HKr.out.cellOf (HC.out (k * 4 + 3) (by omega)) id; simpa only [Nat.add_assoc] using h
        go_wp2_with fail
        refine (toTxnEntry_any (bs.getD (k * 4) 0) (bs.getD (k * 4 + 1) 0) (bs.getD (k * 4 + 2) 0) (bs.getD (k * 4 + 3) 0) _).mono ?_
        rintro e w2 ⟨rfl, hk2⟩
        have HO2 := hid (HOr.out.same hk2)
        have HK2 := (show Hid (Same w w2) from HKr.out.trans hk2)
        clear hk2
        have r0 := HO2.out.cell (k * 4) (by omega)
        have f0 := HO2.out.frozen (k * 4)
        have r1 := HO2.out.cell (k * 4 + 1) (by omega)
        have f1 := HO2.out.frozen (k * 4 + 1)
        have r2 := HO2.out.cell (k * 4 + 2) (by omega)
        have f2 := HO2.out.frozen (k * 4 + 2)
        have r3 := HO2.out.cell (k * 4 + 3) (by omega)
        have f3 := HO2.out.frozen (k * 4 + 3)
        go_wp2
        go_roundw
        case rel =>
          have h0 := HO2.out
          have h1 := h0.stored (k * 4) (bs.getD (k * 4) 0)
          rw [fillUp_step _ _ (by have := HLB.out; omega)] at h1
          have h2 := h1.stored (k * 4 + 1) (bs.getD (k * 4 + 1) 0)
          rw [fillUp_step _ _ (by have := HLB.out; omega)] at h2
          have h3 := h2.stored (k * 4 + 2) (bs.getD (k * 4 + 2) 0)
          rw [fillUp_step _ _ (by have := HLB.out; omega)] at h3
          have h4 := h3.stored (k * 4 + 3) (bs.getD (k * 4 + 3) 0)
          rw [fillUp_step _ _ (by have := HLB.out; omega)] at h4
          refine ⟨k + 1, by omega, by go_num, ?_, ?_⟩
          · rw [show (k + 1) * 4 = k * 4 + 1 + 1 + 1 + 1 from by omega]; simpa [List.getD, Hid] using h4
          · exact ((((HK2.out.setCell (.inl (Nat.le_refl _)) _).setCell (.inl (Nat.le_refl _)) _).setCell (.inl (Nat.le_refl _)) _).setCell (.inl (Nat.le_refl _)) _)
        case measure => simp [intOf]; omega
      · go_wp2
        go_ret
        obtain rfl : k = len := by omega
        have h := HOr.out
        rw [← HLB.out, fillUp_all] at h
        exact ⟨⟨52, some ⟨w.heap.size, 0, none⟩, k, k, bs⟩, rfl, rfl, rfl, fun b hb => by have h := (FootL_one _ _).1 hb; simp [FR.v, Value.ownBlock] at h; omega, h.out, HKr.out⟩
end Go.Proofs.Ythbocacnfhpidaa
