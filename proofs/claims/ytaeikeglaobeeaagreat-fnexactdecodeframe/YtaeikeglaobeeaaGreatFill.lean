import Derived.Test.YtaeikeglaobeeaaGreatSum
import Derived.Test.YtaeikeglaobeeaaGreatOnce
import Derived.Test.YtaeikeglaobeeaaGreatG01
namespace Go.Proofs.YtaeikeglaobeeaaGreat
set_option maxRecDepth 100000
set_option maxHeartbeats 4000000
open Go.RowKit
set_option linter.unusedVariables false

/-- A table in memory: the Once's three cells and the entries. -/
def tcells (d s q : Int) (T : List Int) : List Value := .int .u32 d :: .int .i32 s :: .int .u32 q :: vals .u32 T
theorem tcells_at (d s q : Int) (T : List Int) (j : Nat) : (tcells d s q T)[j + 3]? = (vals .u32 T)[j]? := rfl
theorem tcells_set (d s q : Int) (T : List Int) (j : Nat) (x : Int) : (tcells d s q T).set (j + 3) (.int .u32 x) = tcells d s q (T.set j x) := by simp [tcells, vals]

theorem shiftSum_any (r : Nat) (h : r < 4294967296) (w : World) :
    Calls Tryz.prog 91 #[.int .u32 r] w fun e w' => e = .returned (.int .u32 (sh r)) ∧ w' = w := by
  have h1 : bits .and .u32 (r : Int) 1 = ((r % 2 : Nat) : Int) := by rw [show (1 : Int) = ((1 : Nat) : Int) from rfl, u32_and_nat r 1 h (by decide), nat_mask1]
  by_cases ho : r % 2 = 1
  · have h2 : bits .xor .u32 ((r : Int) / 2) 3988292384 = ((r / 2 ^^^ 3988292384 : Nat) : Int) := u32_xor_nat (r / 2) 3988292384 (by omega) (by decide)
    have h3 : sh r = r / 2 ^^^ 3988292384 := by unfold sh; rw [if_pos ho]
    rw [h3]
    rw [ho] at h1
    go_enter Tryz.func91, Tryz.ntmps91
    go_wp2
    go_ret
    exact ⟨rfl, rfl⟩
  · have h3 : sh r = r / 2 := by unfold sh; rw [if_neg ho]
    rw [h3]
    have ho' : r % 2 = 0 := by omega
    rw [ho'] at h1
    go_enter Tryz.func91, Tryz.ntmps91
    go_wp2
    go_ret
    exact ⟨rfl, rfl⟩

def bitOf (m : Nat) : Int := if m < 8 then ((2 ^ (7 - m) : Nat) : Int) else 0
theorem bitOf_next (m : Nat) (h : m < 8) : bitOf m / 2 = bitOf (m + 1) := by
  have : ∀ m < 8, bitOf m / 2 = bitOf (m + 1) := by decide +kernel
  exact this m h
theorem bitOf_lt (m : Nat) (h : m < 8) : 1 ≤ 2 ^ (7 - m) ∧ 2 ^ (7 - m) ≤ 128 ∧ 2 ^ (8 - m) = 2 * 2 ^ (7 - m) := by
  have : ∀ m < 8, 1 ≤ 2 ^ (7 - m) ∧ 2 ^ (7 - m) ≤ 128 ∧ 2 ^ (8 - m) = 2 * 2 ^ (7 - m) := by decide +kernel
  exact this m h
theorem entry_lt (m n : Nat) (h : m < 8) (hn : n < 2 ^ m) : 2 ^ (8 - m) * n + 2 ^ (7 - m) < 256 ∧ 2 ^ (8 - m) * (n + 1) ≤ 256 := by
  have h1 : 2 ^ (8 - m) * (n + 1) ≤ 2 ^ (8 - m) * 2 ^ m := Nat.mul_le_mul_left _ hn
  have h2 := bitOf_lt m h
  rw [← Nat.pow_add, show 8 - m + m = 8 from by omega] at h1
  rw [Nat.mul_succ] at h1
  rw [Nat.mul_succ]
  omega

theorem fill_any (B : Nat) (t : TypeId) (w : World) (hb : Blk w B t (tcells 0 1 0 (List.replicate 256 0))) :
    Calls Tryz.prog 88 #[.pointer (some ⟨B, 0, none⟩)] w fun e w' => e = .returned (.tuple #[]) ∧ Blk w' B t (tcells 0 1 0 (tabM 8 0)) ∧ Kept (fun b => b = B) w w' := by
  have HB : Hid (Blk w B t (tcells 0 1 0 (tabM 0 0))) := by rw [tabM_zero]; exact hb
  clear hb
  go_enter Tryz.func88, Tryz.ntmps88
  go_wp2
  go_loopw [2, 3] (fun r b wr => ∃ m : Nat, m ≤ 8 ∧ r = .int .u32 (shN m 1) ∧ b = .int .i64 (bitOf m) ∧ Hid (Blk wr B t (tcells 0 1 0 (tabM m 0))) ∧ Hid (Kept (fun b => b = B) w wr)) (fun _ b _ => (intOf b).toNat)
  case atStart => exact ⟨0, by omega, rfl, rfl, HB, Kept.refl _ _⟩
  case round =>
    obtain ⟨m, hm, rfl, rfl, HBr, HKr⟩ := hrel
    by_cases hlt : m < 8
    · have hs1 := shN_lt m 1 (by decide)
      have hs2 := shN_lt (m + 1) 1 (by decide)
      have HS := (show Hid (sh (shN m 1) = shN (m + 1) 1) from (shN_succ m 1).symm)
      have HBN := (show Hid (bitOf m / 2 = bitOf (m + 1)) from bitOf_next m hlt)
      have hbo : bitOf m = ((2 ^ (7 - m) : Nat) : Int) := by unfold bitOf; rw [if_pos hlt]
      obtain ⟨p1, p2, p3⟩ := bitOf_lt m hlt
      rw [hbo]
      have HBO := (show Hid (bitOf m = ((2 ^ (7 - m) : Nat) : Int)) from hbo)
      clear hbo
      obtain ⟨b, hbb⟩ : ∃ b : Nat, 2 ^ (7 - m) = b := ⟨_, rfl⟩
      have HBB := (show Hid (2 ^ (7 - m) = b) from hbb)
      rw [hbb] at p1 p2 p3 ⊢
      clear hbb
      go_wp2_with (go_at_call 91; refine (shiftSum_any _ hs1 _).mono ?_; rintro e w' ⟨rfl, rfl⟩; rw [HS.out])
      obtain ⟨s1, hs1e⟩ : ∃ s1 : Nat, shN (m + 1) 1 = s1 := ⟨_, rfl⟩
      have HS1 := (show Hid (shN (m + 1) 1 = s1) from hs1e)
      rw [hs1e] at hs2 ⊢
      clear hs1e hs1 HS
      go_loopw [4] (fun i wr => ∃ n : Nat, n ≤ 2 ^ m ∧ i = .int .i64 ((2 ^ (8 - m) * n : Nat) : Int) ∧ Hid (Blk wr B t (tcells 0 1 0 (tabM m n))) ∧ Hid (Kept (fun b => b = B) w wr)) (fun i _ => 256 - (intOf i).toNat)
      case atStart => exact ⟨0, Nat.zero_le _, rfl, HBr, HKr⟩
      case round =>
        obtain ⟨n, hn, rfl, HBi, HKi⟩ := hrel
        by_cases hnl : n < 2 ^ m
        · obtain ⟨q1, q2⟩ := entry_lt m n hlt hnl
          have HST := (show Hid (_ = _) from tabM_step m n hlt hnl)
          have q3 : wr.cell? ⟨B, 3 + 2 ^ (8 - m) * n, none⟩ = some (.int .u32 ((tab (2 ^ (8 - m) * n) : Nat) : Int)) := by
            rw [HBi.out.cell, Nat.add_comm, tcells_at]
            have := tabM_read m n hlt hnl
            simp [vals, this]
          have q4 := HBi.out.frozen (3 + (2 ^ (8 - m) * n + b))
          obtain ⟨y, q5⟩ : ∃ y, wr.cell? ⟨B, 3 + (2 ^ (8 - m) * n + b), none⟩ = some (.int .u32 y) := by
            rw [HBi.out.cell, Nat.add_comm, tcells_at, vals_at _ _ _ (by rw [tabM_length]; rw [HBB.out] at q1; exact q1)]
            exact ⟨_, rfl⟩
          have HNX := (show Hid (2 ^ (8 - m) * (n + 1) = 2 ^ (8 - m) * n + 2 * b) from (by rw [Nat.mul_succ, p3] : 2 ^ (8 - m) * (n + 1) = 2 ^ (8 - m) * n + 2 * b))
          rw [HNX.out] at q2
          have HQ := (show Hid (2 ^ (8 - m) * n + 2 * b ≤ 256) from q2)
          rw [HBB.out] at q1
          obtain ⟨i, hi⟩ : ∃ i : Nat, 2 ^ (8 - m) * n = i := ⟨_, rfl⟩
          have HI := (show Hid (2 ^ (8 - m) * n = i) from hi)
          rw [hi] at q1 q2 q3 q4 q5 ⊢
          have hti := tab_lt i (by omega)
          have hx := u32_xor_nat (tab i) s1 hti hs2
          have hil : i < 256 := by omega
          have HNL := (show Hid (n < 2 ^ m) from hnl)
          clear hi hn hnl
          have hc1 : (i : Int) < 256 := by omega
          have hc2 : (0 : Int) ≤ (i : Int) := by omega
          have hc3 : (i : Int) + (b : Int) < 256 := by omega
          have hc4 : (0 : Int) ≤ (i : Int) + (b : Int) := by omega
          have hc5 : ((i : Int) + (b : Int)).toNat = i + b := by omega
          have hc6 : IntKind.i64.wrap ((i : Int) + (b : Int)) = (i : Int) + (b : Int) := by rw [IntKind.wrap_i64]; omega
          have hdec : decide ((i : Int) < 256) = true := by simp; omega
          go_wp2
          have hS : (fun w' => w'.cell? ⟨B, 3 + i, none⟩ = some (.int .u32 ((tab i : Nat) : Int)) ∧ w'.cell? ⟨B, 3 + (i + b), none⟩ = some (.int .u32 y) ∧ w'.frozen? ⟨B, 3 + (i + b), none⟩ = false) wr.drew := by go_keep
          refine wp_region_V (fun w' => w'.cell? ⟨B, 3 + i, none⟩ = some (.int .u32 ((tab i : Nat) : Int)) ∧ w'.cell? ⟨B, 3 + (i + b), none⟩ = some (.int .u32 y) ∧ w'.frozen? ⟨B, 3 + (i + b), none⟩ = false) 15 16 rfl (by kernel_rfl) ?_
          refine tk 0 17 hS ?_
          refine tk 1 18 hS ?_
          refine tk 2 19 hS ?_
          refine tk 3 20 hS ?_
          refine tk 4 21 hS ?_
          refine tk 5 22 hS ?_
          refine tk 6 23 hS ?_
          refine tk 7 24 hS ?_
          refine tk 8 25 hS ?_
          refine tk 9 26 hS ?_
          refine tk 10 27 hS ?_
          refine tk 11 28 hS ?_
          refine wpAnyV_one (i := 12) (by kernel_rfl) rfl (fun K hK => ?_)
          go_simp
          have hS : (fun w' => w'.cell? ⟨B, 3 + i, none⟩ = some (.int .u32 ((tab i : Nat) : Int)) ∧ w'.cell? ⟨B, 3 + (i + b), none⟩ = some (.int .u32 y) ∧ w'.frozen? ⟨B, 3 + (i + b), none⟩ = false) wr.drew := by go_keep
          refine hK.out _ _ (fun _ => hS) ?_
          clear hK K
          try simp only [Act.put, sA, s0, sS]
          refine wpAnyV_one (i := 13) (by kernel_rfl) rfl (fun K hK => ?_)
          go_simp
          have hS : (fun w' => w'.cell? ⟨B, 3 + i, none⟩ = some (.int .u32 ((tab i : Nat) : Int)) ∧ w'.cell? ⟨B, 3 + (i + b), none⟩ = some (.int .u32 y) ∧ w'.frozen? ⟨B, 3 + (i + b), none⟩ = false) wr.drew := by go_keep
          refine hK.out _ _ (fun _ => hS) ?_
          clear hK K
          try simp only [Act.put, sA, s0, sS]
          refine tk 14 31 hS ?_
          refine wpAnyV_one (i := 15) (by kernel_rfl) rfl (fun K hK => ?_)
          go_simp
          refine hK.out _ _ (fun h => absurd rfl h) ?_
          clear hK K
          refine wpAnyV_done (by kernel_rfl) ?_
          try simp only [Act.put, sA, s0, sS]
          go_wp2
          go_roundw
          case rel =>
            have h := HBi.out.stored (3 + (i + b)) (.int .u32 ((tab i ^^^ s1 : Nat) : Int))
            rw [Nat.add_comm 3, tcells_set] at h
            have e := HST.out
            rw [HI.out, HBB.out, HS1.out] at e
            rw [e] at h
            refine ⟨n + 1, by have h1 := HNL.out; omega, ?_, ?_, ?_⟩
            · rw [HNX.out, HI.out]
              simp
            · rw [Nat.add_comm 3]
              exact h
            · exact HKi.out.drew.setCell (.inr rfl) _
          case measure => simp [intOf]; omega
        · obtain rfl : n = 2 ^ m := by omega
          have e : 2 ^ (8 - m) * 2 ^ m = 256 := by rw [← Nat.pow_add, show 8 - m + m = 8 from by omega]
          have HB2 := HBi.out
          rw [tabM_next m hlt] at HB2
          rw [e]
          clear e
          go_wp2
          go_roundw
          case rel => exact ⟨m + 1, by omega, by rw [HS1.out], by rw [← HBN.out, HBO.out, HBB.out], HB2, HKi⟩
          case measure => simp [intOf]; omega
    · obtain rfl : m = 8 := by omega
      go_wp2
      go_end0
      exact ⟨rfl, HBr.out, HKr.out⟩
end Go.Proofs.YtaeikeglaobeeaaGreat
