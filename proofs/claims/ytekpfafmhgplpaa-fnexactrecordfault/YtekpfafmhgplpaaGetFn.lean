/-
  PageGet.
-/
import Derived.Test.YtekpfafmhgplpaaUsedFn
import Derived.Test.YtekpfafmhgplpaaClone
import Derived.Test.YtekpfafmhgplpaaTyPageRecord
namespace Go.Proofs.Ytekpfafmhgplpaa
open Go.RowKit
set_option linter.unusedVariables false
set_option linter.unusedSimpArgs false

theorem ownOK_len {raw : List Int} (h : ownOK raw = true) : raw.length = 4096 := by unfold ownOK at h; simp at h; exact h.1
/-- What a well-formed page's slot tells. -/
theorem ownOK_parts {raw : List Int} (h : ownOK raw = true) : 148 ≤ numAt raw 16 2 ∧ numAt raw 16 2 ≤ 4096 ∧ astray (numAt raw 16 2) (slotsOf raw) = false ∧ share (slotsOf raw) = false := by
  have hl := ownOK_len h
  unfold ownOK pageFault faultP at h
  simp only [hl, ne_eq, not_true_eq_false, if_false] at h
  simp only [beq_self_eq_true, Bool.true_and] at h
  by_cases h2 : headBad (raw.take 4) (numAt raw 4 8) (numAt raw 12 4) (numAt raw 16 2) (slotsOf raw) raw = true
  · simp [h2] at h
  by_cases h3 : numAt raw 16 2 < 148 ∨ 4096 < numAt raw 16 2
  · simp [h2, h3] at h
  by_cases h4 : astray (numAt raw 16 2) (slotsOf raw) = true
  · simp [h2, h3, h4] at h
  by_cases h5 : share (slotsOf raw) = true
  · simp [h2, h3, h4, h5] at h
  exact ⟨by omega, by omega, by simpa using h4, by simpa using h5⟩
theorem astray_at {bot : Int} {sl : List Int} (h : astray bot sl = false) (k : Nat) (hk : k < 32) : astrayAt bot (sl.getD (2 * k) 0) (sl.getD (2 * k + 1) 0) = false := by
  cases hx : astrayAt bot (sl.getD (2 * k) 0) (sl.getD (2 * k + 1) 0) with
  | false => rfl
  | true => rw [astray_yes bot sl k hk hx] at h; cases h
theorem ownOK_slot {raw : List Int} (h : ownOK raw = true) (k : Nat) (hk : k < 32) : ((slotsOf raw).getD (2 * k) 0 = 0 ∧ (slotsOf raw).getD (2 * k + 1) 0 = 0) ∨
    ((slotsOf raw).getD (2 * k) 0 ≠ 0 ∧ (slotsOf raw).getD (2 * k + 1) 0 ≤ 1000 ∧ 148 ≤ (slotsOf raw).getD (2 * k) 0 ∧ (slotsOf raw).getD (2 * k) 0 + (slotsOf raw).getD (2 * k + 1) 0 ≤ 4096) := by
  obtain ⟨h1, h2, h3, h4⟩ := ownOK_parts h
  rcases not_astray _ _ _ (astray_at h3 k hk) with h | ⟨a, b, c, d⟩
  · exact .inl h
  · exact .inr ⟨a, b, by omega, d⟩

/-- A stretch of a page's bytes. -/
def stretch (raw : List Int) (x y : Int) : List Int := (raw.drop x.toNat).take y.toNat
theorem stretch_length (raw : List Int) (x y : Int) (hl : raw.length = 4096) (hx : 0 ≤ x) (hy : 0 ≤ y) (h : x + y ≤ 4096) : (stretch raw x y).length = y.toNat := by simp [stretch, hl]; omega
theorem SP.rdRaw {w : World} {P : Nat} {sum : List Int} {lsn num bot : Int} {sl raw : List Int} (h : SP w P sum lsn num bot sl raw) (x y : Nat) (c : Nat) (hxy : x + y ≤ 4096) (hc : y ≤ c) : Rd .u8 w (.slice (some ⟨P, 71 + x, none⟩) y c) ((raw.drop x).take y) := by
  have hl : ((raw.drop x).take y).length = y := by simp [h.l3]; omega
  refine ⟨by rw [hl]; unfold maxLen; omega, .inr ⟨P, 71 + x, c, by rw [hl], by rw [hl]; exact hc, fun i hi => ?_⟩⟩
  rw [hl] at hi
  rw [show 71 + x + i = 71 + (x + i) from by omega, h.rawAt (x + i) (by omega)]
  simp [List.getD, List.getElem?_take, List.getElem?_drop, hi]

set_option maxRecDepth 100000 in
set_option maxHeartbeats 4000000 in
theorem record_any (P : Nat) (sum : List Int) (lsn num bot : Int) (sl raw : List Int) (x y : Nat) (w : World) (hp : SP w P sum lsn num bot sl raw) (hxy : x + y ≤ 4096) :
    Calls Try.prog 45 #[.pointer (some ⟨P, 0, none⟩), .agg #[.int .i64 x, .int .i64 y]] w fun e w' => ∃ a c, e = .returned (.slice a y c) ∧ Rd .u8 w' (.slice a y c) ((raw.drop x).take y) ∧ Same w w' := by
  have hx : (0 : Int) ≤ x ∧ (x : Int) ≤ 65535 := by omega
  have hy : (0 : Int) ≤ y ∧ (y : Int) ≤ 65535 := by omega
  have HP := (show Hid (SP w P sum lsn num bot sl raw) from hp)
  have hrun : ∀ wx : World, (Instr.sliceAt 72 (.pointer (some ⟨P, 71, none⟩)) (some (.int .i64 (x : Int))) (some (.int .i64 ((x : Int) + (y : Int)))) none).run Try.prog wx = .ok (.slice (some (if 4096 = x then ⟨P, 71, none⟩ else ⟨P, 71 + x, none⟩)) y (4096 - x)) wx := by
    intro wx
    have hal : Try.prog.arrayLen 72 = 4096 := by kernel_rfl
    rw [run_sliceAt_array_lh wx 72 ⟨P, 71, none⟩ (by kernel_rfl) .i64 .i64 x (x + y) (by omega) (by omega) (by rw [hal]; omega), hal]
    have hsz : (sizeOf (Try.prog.elem 72)).run Try.prog wx = .ok 1 wx := by kernel_rfl
    rw [hsz]
    have e1 : ((x : Int) + (y : Int)).toNat - ((x : Int)).toNat = y := by omega
    simp only [Result.andThen, slicedAt, Int.toNat_natCast, Nat.mul_one]
    rw [show ((x : Int) + (y : Int)).toNat - x = y from by omega, addr_add]
  obtain ⟨A, hA⟩ : ∃ A : Addr, (if 4096 = x then ⟨P, 71, none⟩ else ⟨P, 71 + x, none⟩) = A := ⟨_, rfl⟩
  have HA := (show Hid ((if 4096 = x then (⟨P, 71, none⟩ : Addr) else ⟨P, 71 + x, none⟩) = A) from hA)
  rw [hA] at hrun
  clear hp hA
  go_enter Try.func45, Try.ntmps45
  go_wp2_with fail
  have hb1 := Blk.new w #[.int .i64 x, .int .i64 y] 68
  have hk1 : Same w (w.alloc (.cells #[.int .i64 x, .int .i64 y] 68)) := (Kept.refl _ _).alloc _
  obtain ⟨w1, hw1⟩ : ∃ w1, w.alloc (.cells #[.int .i64 x, .int .i64 y] 68) = w1 := ⟨_, rfl⟩
  rw [hw1] at hb1 hk1 ⊢
  clear hw1
  have hSx : ∀ wx, Same w1 wx → (fun wx : World => wx.cell? ⟨w.heap.size, 0, none⟩ = some (.int .i64 x) ∧ wx.cell? ⟨w.heap.size, 1, none⟩ = some (.int .i64 y)) wx := fun wx h => ⟨by rw [(hb1.same h).cell]; rfl, by rw [(hb1.same h).cell]; rfl⟩
  have hS : (fun wx : World => wx.cell? ⟨w.heap.size, 0, none⟩ = some (.int .i64 x) ∧ wx.cell? ⟨w.heap.size, 1, none⟩ = some (.int .i64 y)) w1.drew := by exact hSx _ (Kept.refl _ _).drew
  refine wp_region_V (fun wx : World => wx.cell? ⟨w.heap.size, 0, none⟩ = some (.int .i64 x) ∧ wx.cell? ⟨w.heap.size, 1, none⟩ = some (.int .i64 y)) 8 9 rfl (by kernel_rfl) ?_
  refine wpAnyV_take (i := 0) (v := ?vq1) (some 5) rfl rfl (by kernel_rfl) (by kernel_rfl) (by kernel_rfl) (by kernel_rfl) (fun _ _ _ h => h) (Or.inl ⟨by rfl, ?hyq1⟩) hS ?_
  case hyq1 => (intro w hSw; (try dsimp only at hSw); go_simp; (try with_reducible rfl))
  try simp only [Act.put, List.setIfInBounds_toArray, List.set_cons_zero, List.set_cons_succ]
  refine wpAnyV_take (i := 1) (v := ?vq2) (some 6) rfl rfl (by kernel_rfl) (by kernel_rfl) (by kernel_rfl) (by kernel_rfl) (fun _ _ _ h => h) (Or.inl ⟨by rfl, ?hyq2⟩) hS ?_
  case hyq2 => (intro w hSw; (try dsimp only at hSw); go_simp; (try with_reducible rfl))
  try simp only [Act.put, List.setIfInBounds_toArray, List.set_cons_zero, List.set_cons_succ]
  refine wpAnyV_take (i := 2) (v := ?vq3) (some 7) rfl rfl (by kernel_rfl) (by kernel_rfl) (by kernel_rfl) (by kernel_rfl) (fun _ _ _ h => h) (Or.inl ⟨by rfl, ?hyq3⟩) hS ?_
  case hyq3 => (intro w hSw; (try dsimp only at hSw); go_simp; (try with_reducible rfl))
  try simp only [Act.put, List.setIfInBounds_toArray, List.set_cons_zero, List.set_cons_succ]
  refine wpAnyV_take (i := 3) (v := ?vq4) (some 8) rfl rfl (by kernel_rfl) (by kernel_rfl) (by kernel_rfl) (by kernel_rfl) (fun _ _ _ h => h) (Or.inl ⟨by rfl, ?hyq4⟩) hS ?_
  case hyq4 => (intro w hSw; (try dsimp only at hSw); go_simp; (try with_reducible rfl))
  try simp only [Act.put, List.setIfInBounds_toArray, List.set_cons_zero, List.set_cons_succ]
  refine wpAnyV_take (i := 4) (v := ?vq5) (some 9) rfl rfl (by kernel_rfl) (by kernel_rfl) (by kernel_rfl) (by kernel_rfl) (fun _ _ _ h => h) (Or.inl ⟨by rfl, ?hyq5⟩) hS ?_
  case hyq5 => (intro w hSw; (try dsimp only at hSw); go_simp; (try with_reducible rfl))
  try simp only [Act.put, List.setIfInBounds_toArray, List.set_cons_zero, List.set_cons_succ]
  refine wpAnyV_take (i := 5) (v := ?vq6) (some 10) rfl rfl (by kernel_rfl) (by kernel_rfl) (by kernel_rfl) (by kernel_rfl) (fun _ _ _ h => h) (Or.inl ⟨by rfl, ?hyq6⟩) hS ?_
  case hyq6 => (intro w hSw; (try dsimp only at hSw); go_simp; (try with_reducible rfl))
  try simp only [Act.put, List.setIfInBounds_toArray, List.set_cons_zero, List.set_cons_succ]
  refine wpAnyV_one (i := 6) (by kernel_rfl) rfl (fun K hK => ?_)
  go_simp
  have hc := end_any x y w1.drew hx hy
  with_reducible refine hc.mono ?_
  clear hc
  rintro e w2 ⟨rfl, hkk⟩
  have hkw2 : Same w1 w2 := Kept.trans ((Kept.refl _ _).drew) hkk
  clear hkk
  have hS : (fun wx : World => wx.cell? ⟨w.heap.size, 0, none⟩ = some (.int .i64 x) ∧ wx.cell? ⟨w.heap.size, 1, none⟩ = some (.int .i64 y)) w2 := hSx _ hkw2
  refine hK.out _ _ (fun _ => hS) ?_
  clear hK K
  try simp only [Act.put, List.setIfInBounds_toArray, List.set_cons_zero, List.set_cons_succ]
  refine wpAnyV_take (i := 7) (v := .slice (some A) y (4096 - x)) (some 12) rfl rfl (by kernel_rfl) (by kernel_rfl) (by kernel_rfl) (by kernel_rfl) (fun _ _ _ h => h) (Or.inl ⟨by rfl, fun wx hSw => by have h := hrun wx; go_simp⟩) hS ?_
  try simp only [Act.put, List.setIfInBounds_toArray, List.set_cons_zero, List.set_cons_succ]
  refine wpAnyV_one (i := 8) (by kernel_rfl) rfl (fun K hK => ?_)
  go_simp
  refine hK.out _ _ (fun h => absurd rfl h) ?_
  clear hK K
  refine wpAnyV_done (by kernel_rfl) ?_
  try simp only [Act.put, List.setIfInBounds_toArray, List.set_cons_zero, List.set_cons_succ]
  go_wp2
  go_ret
  refine ⟨_, _, rfl, ?_, hk1.trans hkw2⟩
  have hsp := HP.out.same (hk1.trans hkw2)
  rw [← HA.out]
  by_cases h : 4096 = x
  · obtain rfl : y = 0 := by omega
    rw [if_pos h, List.take_zero]
    exact ⟨by simp, .inl ⟨rfl, _, _, rfl, fun h => by cases h⟩⟩
  · rw [if_neg h]
    exact hsp.rdRaw x y (4096 - x) hxy (by omega)

def pageGet (raw : List Int) (s : Int) : Bool × List Int :=
  if ownOK raw = true ∧ 0 ≤ s ∧ s < 32 ∧ (slotsOf raw).getD (2 * s.toNat) 0 ≠ 0 then (true, stretch raw ((slotsOf raw).getD (2 * s.toNat) 0) ((slotsOf raw).getD (2 * s.toNat + 1) 0)) else (false, [])
theorem pageGet_yes {raw : List Int} {k : Nat} (h : ownOK raw = true) (hk : k < 32) (h0 : (slotsOf raw).getD (2 * k) 0 ≠ 0) : pageGet raw k = (true, stretch raw ((slotsOf raw).getD (2 * k) 0) ((slotsOf raw).getD (2 * k + 1) 0)) := by
  unfold pageGet
  rw [if_pos ⟨h, by omega, by omega, by simpa using h0⟩]
  rfl
theorem pageGet_no {raw : List Int} {s : Int} (h : ownOK raw = false ∨ s < 0 ∨ 32 ≤ s ∨ (slotsOf raw).getD (2 * s.toNat) 0 = 0) : pageGet raw s = (false, []) := by
  unfold pageGet
  rw [if_neg]
  rintro ⟨h1, h2, h3, h4⟩
  rcases h with h | h | h | h
  · rw [h1] at h; cases h
  · omega
  · omega
  · exact h4 h
theorem pageGet_small {y : StPageRecord} {raw : List Int} {s : Int} (h : y.dat = pageGet raw s) : y.size ≤ 1099511627776 := by
  have h2 : y.data.bs = (pageGet raw s).2 := congrArg Prod.snd h
  have h3 : (pageGet raw s).2.length ≤ 4096 := by
    unfold pageGet
    split
    · next h => simp [stretch, ownOK_len h.1]; omega
    · simp
  unfold StPageRecord.size
  rw [h2]
  omega

set_option maxRecDepth 100000 in
theorem isSlot_any (s : Int) (w : World) : Calls Try.prog 42 #[.int .i64 s] w fun e w' => e = .returned (.bool (decide (0 ≤ s) && decide (s < 32))) ∧ Same w w' := by
  by_cases h : 0 ≤ s
  · by_cases h2 : s < 32
    · have h2' : ¬ (32 ≤ s) := by omega
      go_enter Try.func42, Try.ntmps42
      go_wp2
      go_ret
      exact ⟨by simp [h, h2], Kept.refl _ _⟩
    · have h2' : (32 ≤ s) := by omega
      go_enter Try.func42, Try.ntmps42
      go_wp2
      go_ret
      exact ⟨by simp [h, h2], Kept.refl _ _⟩
  · go_enter Try.func42, Try.ntmps42
    go_wp2
    go_ret
    exact ⟨by rw [show decide (0 ≤ s) = false from by simp; omega]; rfl, Kept.refl _ _⟩
end Go.Proofs.Ytekpfafmhgplpaa
