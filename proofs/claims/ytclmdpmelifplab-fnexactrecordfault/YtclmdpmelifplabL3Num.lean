/-
  A number out of a page, the model's.
-/
import Derived.Test.YtclmdpmelifplabSumMath
namespace Go.Proofs.Ytclmdpmelifplab
open Go.RowKit
set_option linter.unusedVariables false
set_option linter.unusedSimpArgs false

/-- A part of a slice that is read. -/
theorem Rd.mid {k : IntKind} {w : World} {b off c : Nat} {bs : List Int} (h : Rd k w (.slice (some ⟨b, off, none⟩) bs.length c) bs) (o n c' : Nat) (hm : o + n ≤ bs.length) (hc' : n ≤ c') : Rd k w (.slice (some ⟨b, off + o, none⟩) n c') ((bs.drop o).take n) := by
  have hl : ((bs.drop o).take n).length = n := by simp; omega
  refine ⟨by rw [hl]; have := h.1; omega, ?_⟩
  by_cases h0 : n = 0
  · subst h0
    exact .inl ⟨by simp, _, _, rfl, fun e => by cases e⟩
  · rcases h.2 with ⟨hn, a, c', e, _⟩ | ⟨b', off', c'', e, hl', hc⟩
    · rw [hn] at hm
      simp at hm
      omega
    · cases e
      refine .inr ⟨b, off + o, c', by rw [hl], by omega, fun i hi => ?_⟩
      have := hc (o + i) (by omega)
      rw [Nat.add_assoc, this]
      simp [List.getD, List.getElem?_take, List.getElem?_drop, show i < n by omega]

set_option maxRecDepth 100000 in
set_option maxHeartbeats 4000000 in
theorem l3Number_any (b off len c : Nat) (bs : List Int) (at_ n : Nat) (w : World) (hB : IsB bs) (hl : bs.length = len) (hm : len ≤ 1099511627776) (h1 : 1 ≤ n) (h2 : at_ + n ≤ len) (hv : Rd .u8 w (.slice (some ⟨b, off, none⟩) len c) bs) :
    Calls Try.prog 53 #[.slice (some ⟨b, off, none⟩) len c, .int .i64 at_, .int .i64 n] w fun e w' => e = .returned (.int .i64 (getN ((bs.drop at_).take n))) ∧ Same w w' := by
  have hc : len ≤ c := by
    rcases hv.2 with ⟨h0, _⟩ | ⟨b', o', c', e, hl', hc⟩
    · rw [h0] at hl
      simp at hl
      omega
    · cases e
      omega
  have HR := (show Hid (Rd .u8 w (.slice (some ⟨b, off + at_, none⟩) n (c - at_)) ((bs.drop at_).take n)) from (by subst hl; exact hv.mid at_ n (c - at_) h2 (by omega)))
  have HG := (show Hid (Calls Try.prog 75 #[.slice (some ⟨b, off + at_, none⟩) n (c - at_)] w fun e w' => e = .returned (.int .i64 (getN ((bs.drop at_).take n))) ∧ Same w w') from specGet_any _ _ w (isB_take (isB_drop hB at_) n) (by simp; omega) HR.out)
  clear hv hB HR
  have q1 : (at_ : Int) ≤ (at_ : Int) + (n : Int) := by omega
  have q2 : (at_ : Int) + (n : Int) ≤ (c : Int) := by omega
  have q3 : (0 : Int) ≤ (at_ : Int) := by omega
  have q4 : at_ < c := by omega
  have q5 : ¬ c = at_ := by omega
  have q6 : ((at_ : Int) + (n : Int)).toNat = at_ + n := by omega
  have q7 : at_ + n - at_ = n := by omega
  go_enter Try.func53, Try.ntmps53
  go_wp2_with fail
  with_reducible refine HG.out.mono ?_
  rintro e w1 ⟨rfl, hk1⟩
  go_wp2
  go_ret
  exact ⟨rfl, hk1⟩
end Go.Proofs.Ytclmdpmelifplab
