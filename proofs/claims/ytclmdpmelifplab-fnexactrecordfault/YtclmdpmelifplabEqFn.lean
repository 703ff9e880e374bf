/-
  bytes.Equal; slices.Equal of a list and itself, and of no list and a list.
-/
import Derived.Test.YtclmdpmelifplabTyLogRecord
import Derived.Laws.BytesArg
import Derived.Laws.StructEq
namespace Go.Proofs.Ytclmdpmelifplab
open Go.RowKit
set_option linter.unusedVariables false
set_option linter.unusedSimpArgs false

theorem conv_any {w : World} {v : Value} {bs : List Int} (h : Rd .u8 w v bs) : (convert 22 9 v).run Try.prog w = .ok (.string (strOfNums bs)) w := by
  rcases h.2 with ⟨rfl, a, c, rfl, _⟩ | ⟨b, off, c, rfl, _, hc⟩
  · rw [run_convert_bytes_string w 22 9 5 _ 0 c (by kernel_rfl) (by kernel_rfl) (by kernel_rfl)]
    cases a <;> simp [Conv.bytesToString, loadCells]
    all_goals rfl
  · exact run_convert_bytes_arg w 22 5 (by kernel_rfl) (by kernel_rfl) b off bs.length c bs rfl hc 9 (by kernel_rfl)
theorem strOfNums_inj : ∀ {xs bs : List Int}, IsB xs → IsB bs → strOfNums xs = strOfNums bs → xs = bs := by
  intro xs bs ha hb h
  have h2 : xs.map (fun n => UInt8.ofNat n.toNat) = bs.map (fun n => UInt8.ofNat n.toNat) := by
    have h3 := congrArg (fun s => s.data.toList) h
    simpa [strOfNums] using h3
  have hl : xs.length = bs.length := by have := congrArg List.length h2; simpa using this
  apply List.ext_getElem hl
  intro i h1 h4
  have h5 := congrArg (fun l => l[i]?) h2
  simp [h1, h4] at h5
  have h6 := ha _ (List.getElem_mem h1)
  have h7 := hb _ (List.getElem_mem h4)
  have h8 := congrArg UInt8.toNat h5
  simp at h8
  omega
set_option maxRecDepth 100000 in
theorem bytesEq_any (va vb : Value) (xs bs : List Int) (w : World) (ha : IsB xs) (hb : IsB bs) (hra : Rd .u8 w va xs) (hrb : Rd .u8 w vb bs) :
    Calls Try.prog 59 #[va, vb] w fun e w' => e = .returned (.bool (decide (xs = bs))) ∧ Same w w' := by
  have h1 := conv_any hra
  have h2 := conv_any hrb
  have HE := (show Hid (((strOfNums xs).toList == (strOfNums bs).toList) = decide (xs = bs)) from by
    by_cases h : xs = bs
    · subst h
      show _ = _
      simp
    · rw [decide_eq_false h]
      refine beq_eq_false_iff_ne.2 (fun e => h (strOfNums_inj ha hb ?_))
      rw [ByteArray.toList_eq, ByteArray.toList_eq] at e
      exact ByteArray.ext (Array.ext' e))
  generalize strOfNums xs = s at *
  generalize strOfNums bs = t at *
  clear ha hb hra hrb
  go_enter Try.func59, Try.ntmps59
  go_wp2
  go_ret
  exact ⟨by rw [← HE.out]; rfl, Kept.refl _ _⟩

set_option maxRecDepth 100000 in
theorem sameTxnEntry_nil (a : Option Addr) (n c : Nat) (w : World) (hn : n ≤ maxLen) : Calls Try.prog 57 #[.slice none 0 0, .slice a n c] w fun e w' => e = .returned (.bool (decide (n = 0))) ∧ Same w w' := by
  by_cases h : n = 0
  · subst h
    go_enter Try.func57, Try.ntmps57
    go_wp2
    refine wp_loop_rounds 1 ?_
    rw [rounds_succ]
    go_wp2
    go_ret
    exact ⟨rfl, Kept.refl _ _⟩
  · have h2 : ¬ (0 : Int) = (n : Int) := by omega
    go_enter Try.func57, Try.ntmps57
    go_wp2
    go_ret
    exact ⟨by rw [decide_eq_false h]; rfl, Kept.refl _ _⟩
set_option maxRecDepth 100000 in
set_option maxHeartbeats 2000000 in
theorem sameTxnEntry_self (x : FR) (w : World) (hn : x.n ≤ 1125899906842624) (hv : RdF 4 w x) : Calls Try.prog 57 #[x.v, x.v] w fun e w' => e = .returned (.bool true) ∧ Same w w' := by
  obtain ⟨hmax, hlen, hform⟩ := hv
  obtain ⟨xe, xa, len, xc, bs⟩ := x
  dsimp only [FR.v] at *
  by_cases h0 : len = 0
  · subst h0
    go_enter Try.func57, Try.ntmps57
    go_wp2
    refine wp_loop_rounds 1 ?_
    rw [rounds_succ]
    go_wp2
    go_ret
    exact ⟨rfl, Kept.refl _ _⟩
  · obtain ⟨b, off, rfl, hle, hc⟩ := hform.resolve_left h0
    have HC := (show Hid (∀ i, i < len * 4 → w.cell? ⟨b, off + i, none⟩ = some (.int .i64 (bs.getD i 0))) from hc)
    clear hc hform hlen hmax
    go_enter Try.func57, Try.ntmps57
    go_wp2
    go_loopw [5, 13] (fun _ i wr => ∃ (k : Nat), k ≤ len ∧ i = .int .i64 k ∧ Hid (Same w wr)) (fun _ i _ => len - (intOf i).toNat)
    case atStart => exact ⟨0, Nat.zero_le _, rfl, Kept.refl _ _⟩
    case round =>
      obtain ⟨k, hk, rfl, HK⟩ := hrel
      by_cases hlt : k < len
      · have q0 : wr.cell? ⟨b, off + k * 4, none⟩ = some (.int .i64 (bs.getD (k * 4) 0)) := by have h := HK.out.cellOf (HC.out (k * 4) (by omega)) id; simpa only [Nat.add_assoc] using h
        have q1 : wr.cell? ⟨b, off + k * 4 + 1, none⟩ = some (.int .i64 (bs.getD (k * 4 + 1) 0)) := by have h := HK.out.cellOf (HC.out (k * 4 + 1) (by omega)) id; simpa only [Nat.add_assoc] using h
        have q2 : wr.cell? ⟨b, off + k * 4 + 2, none⟩ = some (.int .i64 (bs.getD (k * 4 + 2) 0)) := by have h := HK.out.cellOf (HC.out (k * 4 + 2) (by omega)) id; simpa only [Nat.add_assoc] using h
        have q3 : wr.cell? ⟨b, off + k * 4 + 3, none⟩ = some (.int .i64 (bs.getD (k * 4 + 3) 0)) := by have h := HK.out.cellOf (HC.out (k * 4 + 3) (by omega)) id; simpa only [Nat.add_assoc] using h
        generalize bs.getD (k * 4) 0 = x0 at *
        generalize bs.getD (k * 4 + 1) 0 = x1 at *
        generalize bs.getD (k * 4 + 2) 0 = x2 at *
        generalize bs.getD (k * 4 + 3) 0 = x3 at *
        go_wp2
        go_quiet (fail)
        go_wp2
        go_roundw
        case rel => exact ⟨k + 1, by omega, by go_num, HK.out.drewN _⟩
        case measure => simp [intOf]; omega
      · go_wp2
        go_ret
        exact ⟨rfl, HK.out⟩

set_option maxRecDepth 100000 in
theorem sameDirtyEntry_nil (a : Option Addr) (n c : Nat) (w : World) (hn : n ≤ maxLen) : Calls Try.prog 58 #[.slice none 0 0, .slice a n c] w fun e w' => e = .returned (.bool (decide (n = 0))) ∧ Same w w' := by
  by_cases h : n = 0
  · subst h
    go_enter Try.func58, Try.ntmps58
    go_wp2
    refine wp_loop_rounds 1 ?_
    rw [rounds_succ]
    go_wp2
    go_ret
    exact ⟨rfl, Kept.refl _ _⟩
  · have h2 : ¬ (0 : Int) = (n : Int) := by omega
    go_enter Try.func58, Try.ntmps58
    go_wp2
    go_ret
    exact ⟨by rw [decide_eq_false h]; rfl, Kept.refl _ _⟩
set_option maxRecDepth 100000 in
set_option maxHeartbeats 2000000 in
theorem sameDirtyEntry_self (x : FR) (w : World) (hn : x.n ≤ 1125899906842624) (hv : RdF 2 w x) : Calls Try.prog 58 #[x.v, x.v] w fun e w' => e = .returned (.bool true) ∧ Same w w' := by
  obtain ⟨hmax, hlen, hform⟩ := hv
  obtain ⟨xe, xa, len, xc, bs⟩ := x
  dsimp only [FR.v] at *
  by_cases h0 : len = 0
  · subst h0
    go_enter Try.func58, Try.ntmps58
    go_wp2
    refine wp_loop_rounds 1 ?_
    rw [rounds_succ]
    go_wp2
    go_ret
    exact ⟨rfl, Kept.refl _ _⟩
  · obtain ⟨b, off, rfl, hle, hc⟩ := hform.resolve_left h0
    have HC := (show Hid (∀ i, i < len * 2 → w.cell? ⟨b, off + i, none⟩ = some (.int .i64 (bs.getD i 0))) from hc)
    clear hc hform hlen hmax
    go_enter Try.func58, Try.ntmps58
    go_wp2
    go_loopw [5, 13] (fun _ i wr => ∃ (k : Nat), k ≤ len ∧ i = .int .i64 k ∧ Hid (Same w wr)) (fun _ i _ => len - (intOf i).toNat)
    case atStart => exact ⟨0, Nat.zero_le _, rfl, Kept.refl _ _⟩
    case round =>
      obtain ⟨k, hk, rfl, HK⟩ := hrel
      by_cases hlt : k < len
      · have q0 : wr.cell? ⟨b, off + k * 2, none⟩ = some (.int .i64 (bs.getD (k * 2) 0)) := by have h := HK.out.cellOf (HC.out (k * 2) (by omega)) id; simpa only [Nat.add_assoc] using h
        have q1 : wr.cell? ⟨b, off + k * 2 + 1, none⟩ = some (.int .i64 (bs.getD (k * 2 + 1) 0)) := by have h := HK.out.cellOf (HC.out (k * 2 + 1) (by omega)) id; simpa only [Nat.add_assoc] using h
        generalize bs.getD (k * 2) 0 = x0 at *
        generalize bs.getD (k * 2 + 1) 0 = x1 at *
        go_wp2
        go_quiet (fail)
        go_wp2
        go_roundw
        case rel => exact ⟨k + 1, by omega, by go_num, HK.out.drewN _⟩
        case measure => simp [intOf]; omega
      · go_wp2
        go_ret
        exact ⟨rfl, HK.out⟩
end Go.Proofs.Ytclmdpmelifplab
