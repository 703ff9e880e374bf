/-
  PageSeal and PageWhole: the model's and the program's, at any world.
-/
import Derived.Test.YtekpfafmhgplpaaPageFn
import Derived.Deep.AppendLies
namespace Go.Proofs.Ytekpfafmhgplpaa
open Go.RowKit
set_option linter.unusedVariables false
set_option linter.unusedSimpArgs false

def pageSeal (bs : List Int) : List Int := if bs.length = 4096 then sealB bs else []
theorem pageSeal_length (bs : List Int) : (pageSeal bs).length ≤ 4096 := by
  unfold pageSeal
  split
  · rw [sealB_length _ (by omega)]; omega
  · simp
/-- A slice of a page's length as a pointer to an array. -/
theorem run_arrayP (w : World) (ad : Option Addr) (c : Nat) : (Instr.arrayAt 72 (.slice ad 4096 c)).run Try.prog w = .ok (.pointer ad) w := by
  simp [Instr.arrayAt, run_underlying Try.underlying72]
theorem page_info : (Try.prog.info? 72).map (·.size) = some 4096 := by kernel_rfl
/-- The cells behind a slice that is read. -/
theorem rd_range {w : World} {b off c : Nat} {bs : List Int} (h : Rd .u8 w (.slice (some ⟨b, off, none⟩) bs.length c) bs) (hn : 0 < bs.length) : w.rangeAt b off (vals .u8 bs) := fun j v hv => by
  have hj : j < bs.length := by have := (List.getElem?_eq_some_iff.1 hv).1; rwa [vals_length] at this
  rcases h.2 with ⟨h0, _⟩ | ⟨b', o', c', e, _, hc⟩
  · rw [h0] at hn
    simp at hn
  · cases e
    rw [hc j hj, ← hv, vals_at _ _ _ hj]
theorem rd_some {w : World} {a : Option Addr} {n c : Nat} {bs : List Int} (h : Rd .u8 w (.slice a n c) bs) (hn : 0 < bs.length) : ∃ b off, a = some ⟨b, off, none⟩ ∧ bs.length ≤ c := by
  rcases h.2 with ⟨h0, _⟩ | ⟨b', o', c', e, hl, hc⟩
  · rw [h0] at hn
    simp at hn
  · cases e
    exact ⟨_, _, rfl, hl⟩

theorem numB4 (x : Int) (h0 : 0 ≤ x) (h1 : x ≤ 4294967295) : numB x 4 = lows x 4 := by
  unfold numB
  rw [if_neg]
  · rfl
  · have : x / 256 ^ (4 : Int).toNat = 0 := by
      rw [show (256 : Int) ^ (4 : Int).toNat = 4294967296 from rfl]
      omega
    omega
end Go.Proofs.Ytekpfafmhgplpaa
