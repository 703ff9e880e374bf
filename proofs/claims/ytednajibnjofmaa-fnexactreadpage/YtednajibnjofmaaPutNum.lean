/-
  PutNumber: the model's and the program's, at any world.
-/
import Derived.Test.YtednajibnjofmaaCopyB
import Derived.Test.YtednajibnjofmaaBlk
namespace Go.Proofs.Ytednajibnjofmaa
set_option maxRecDepth 100000
set_option maxHeartbeats 1000000
open Go.RowKit
set_option linter.unusedVariables false

/-- The k lowest bytes of v, the highest first. -/
def lows (v : Int) : Nat → List Int
  | 0 => []
  | k + 1 => (v / 256 ^ k % 256) :: lows v k
theorem lows_length (v : Int) (k : Nat) : (lows v k).length = k := by
  induction k with
  | zero => rfl
  | succ k ih => simp [lows, ih]
/-- v in n bytes, as the document says it. -/
def numB (v n : Int) : List Int := if n < 1 ∨ 8 < n ∨ v < 0 ∨ v / 256 ^ n.toNat ≠ 0 then [] else lows v n.toNat
theorem numB_length (v n : Int) : (numB v n).length ≤ 8 := by
  unfold numB
  split
  · simp
  · rw [lows_length]; omega
theorem pow_step (v : Int) (k : Nat) : v / 256 ^ k / 256 = v / 256 ^ (k + 1) := by
  rw [Int.ediv_ediv_of_nonneg (Int.le_of_lt (Int.pow_pos (by decide))), Int.pow_succ]
theorem lows_step (v : Int) (n k : Nat) (h : k < n) : (List.replicate (n - k) 0 ++ lows v k).set (n - k - 1) (v / 256 ^ k % 256) = List.replicate (n - (k + 1)) 0 ++ lows v (k + 1) := by
  have e : n - k = (n - (k + 1)) + 1 := by omega
  rw [e, List.replicate_succ', List.append_assoc, Nat.add_sub_cancel, List.set_append_right (h := by simp)]
  simp [lows]
theorem made_length (v : Int) (n k : Nat) (h : k ≤ n) : (List.replicate (n - k) 0 ++ lows v k).length = n := by simp [lows_length]; omega

/-- An empty row that was just made. -/
theorem Own.empty (w : World) (e : TypeId) : Own 0 e .u8 (w.alloc (Obj.cells #[] e)) (.slice (some ⟨w.heap.size, 0, none⟩) 0 0) [] :=
  ⟨by simp [vals], .inr ⟨w.heap.size, 0, #[], rfl, Nat.zero_le _, by unfold World.alloc; exact Array.getElem?_push_size, Nat.le_refl _, Nat.zero_le _, by simp [vals]⟩⟩

theorem pow8 (n : Nat) : (2 : Int) ^ (8 * n) = 256 ^ n := by
  induction n with
  | zero => rfl
  | succ n ih => rw [Nat.mul_succ, Int.pow_add, ih, Int.pow_succ]; rfl

/-- writeNumber fills what is there. -/
theorem shr8 (x : Int) (h : 0 ≤ x) : x / 2 ^ 8 = x / 256 := rfl
theorem writeNumber_any (g o n c : Nat) (t : TypeId) (xs : List Value) (v : Int) (w : World) (hb : Blk w g t xs) (ho : o + n ≤ xs.length) (h0 : 0 ≤ v) (hi : v ≤ 9223372036854775807) (hn : n ≤ 1099511627776) :
    Calls Try.prog 66 #[.slice (some ⟨g, o, none⟩) n c, .int .i64 v] w fun e w' => e = .returned (.tuple #[]) ∧ Blk w' g t (lay xs o (vals .u8 (lows v n))) ∧ Kept (fun b => b = g) w w' := by
  have HB := (show Hid (Blk w g t xs) from hb)
  clear hb
  go_enter Try.func66, Try.ntmps66
  go_wp2
  go_loopw [1, 4] (fun x i wr => ∃ k : Nat, k ≤ n ∧ x = .int .i64 (v / 256 ^ k) ∧ i = .int .i64 ((n : Int) - k - 1) ∧ Hid (Blk wr g t (lay xs (o + (n - k)) (vals .u8 (lows v k)))) ∧ Hid (Kept (fun b => b = g) w wr)) (fun _ i _ => (intOf i + 1).toNat)
  case atStart => exact ⟨0, Nat.zero_le _, by simp, by simp, by simpa [lows, vals, lay_nil] using HB, Kept.refl _ _⟩
  case round =>
    obtain ⟨k, hk, rfl, rfl, HBr, HKr⟩ := hrel
    by_cases hlt : k < n
    · obtain ⟨j, rfl⟩ : ∃ j : Nat, n = k + 1 + j := ⟨n - k - 1, by omega⟩
      have ej : ((k + 1 + j : Nat) : Int) - k - 1 = j := by omega
      have el : (lay xs (o + (k + 1 + j - k)) (vals .u8 (lows v k))).length = xs.length := lay_length _ _ _ (by rw [vals_length, lows_length]; omega)
      have q2 := HBr.out.frozen (o + j)
      have q3 := HBr.out.cell (o + j)
      rw [List.getElem?_eq_getElem (by rw [el]; omega)] at q3
      have hx0 : 0 ≤ v / 256 ^ k := Int.ediv_nonneg h0 (Int.le_of_lt (Int.pow_pos (by decide)))
      have hx1 : v / 256 ^ k ≤ v := Int.ediv_le_self _ h0
      have HST : Hid (v / 256 ^ k / 256 = v / 256 ^ (k + 1)) := pow_step v k
      have HLS : Hid ((lay xs (o + j + 1) (vals .u8 (lows v k))).set (o + j) (.int .u8 (v / 256 ^ k % 256)) = lay xs (o + j) (vals .u8 (lows v (k + 1)))) := lay_set xs (o + j) _ (vals .u8 (lows v k)) (by rw [vals_length, lows_length]; omega)
      rw [ej]
      obtain ⟨z, hz⟩ : ∃ z, (lay xs (o + (k + 1 + j - k)) (vals .u8 (lows v k)))[o + j]'(by rw [el]; omega) = z := ⟨_, rfl⟩
      rw [hz] at q3
      clear hz el
      generalize hx : v / 256 ^ k = x at *
      clear hx
      go_wp2
      go_roundw
      case rel =>
        have h := HBr.out.stored (o + j) (.int .u8 (x % 256))
        rw [show o + (k + 1 + j - k) = o + j + 1 from by omega, HLS.out] at h
        refine ⟨k + 1, by omega, by rw [← HST.out], by go_num, ?_, Kept.setCell (R := fun b => b = g) HKr.out (.inr rfl) _⟩
        rw [show o + (k + 1 + j - (k + 1)) = o + j from by omega]
        exact h
      case measure => simp [intOf]
    · obtain rfl : k = n := by omega
      have ej : ((k : Nat) : Int) - k - 1 = -1 := by omega
      rw [ej]
      generalize hx : v / 256 ^ k = x at *
      go_wp2
      go_end0
      have h := HBr.out
      rw [Nat.sub_self] at h
      exact ⟨rfl, h, HKr.out⟩

end Go.Proofs.Ytednajibnjofmaa
