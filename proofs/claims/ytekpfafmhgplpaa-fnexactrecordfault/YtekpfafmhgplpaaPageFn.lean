/-
  Pages as arrays: sealed, list.
-/
import Derived.Test.YtekpfafmhgplpaaSumMath
import Derived.Test.YtekpfafmhgplpaaBlkBig
namespace Go.Proofs.Ytekpfafmhgplpaa
open Go.RowKit
set_option linter.unusedVariables false
set_option linter.unusedSimpArgs false

def sealB (bs : List Int) : List Int := lows (crcOn 0 (bs.drop 4)) 4 ++ bs.drop 4
theorem sealB_length (bs : List Int) (h : 4 ≤ bs.length) : (sealB bs).length = bs.length := by simp [sealB, lows_length]; omega
theorem lay_seal (bs : List Int) (h : 4 ≤ bs.length) : lay (vals .u8 bs) 0 (vals .u8 (lows (crcOn 0 (bs.drop 4)) 4)) = vals .u8 (sealB bs) := by
  unfold lay sealB
  have e : (vals .u8 (lows (crcOn 0 (bs.drop 4)) 4)).length = 4 := by rw [vals_length, lows_length]
  rw [e]
  simp [vals]
/-- Bytes within a block, read as a slice. -/
theorem Blk.rd {w : World} {B : Nat} {e : TypeId} {bs : List Int} (h : Blk w B e (vals .u8 bs)) (o n c : Nat) (hn : o + n ≤ bs.length) (hc : n ≤ c) (hm : bs.length ≤ maxLen) : Rd .u8 w (.slice (some ⟨B, o, none⟩) n c) ((bs.drop o).take n) := by
  have hl : ((bs.drop o).take n).length = n := by simp; omega
  refine ⟨by omega, .inr ⟨B, o, c, by rw [hl], by omega, fun i hi => ?_⟩⟩
  rw [h.cell, vals_at _ _ _ (by omega)]
  simp [List.getD, List.getElem?_take, show i < n by omega]

set_option maxRecDepth 100000 in
set_option maxHeartbeats 4000000 in
/-- The array's bytes as a list of their own. -/
theorem list_any (bs : List Int) (w : World) (hl : bs.length = 4096) :
    Calls Try.prog 49 #[.agg (vals .u8 bs).toArray] w fun e w' => e = .returned (.slice (some ⟨w.heap.size, 0, none⟩) 4096 4096) ∧ Blk w' w.heap.size 72 (vals .u8 bs) ∧ Same w w' := by
  obtain ⟨cs, hcs⟩ : ∃ cs : Array Value, (vals .u8 bs).toArray = cs := ⟨_, rfl⟩
  have hsz : cs.size = 4096 := by rw [← hcs]; simp [vals, hl]
  have HCS := (show Hid ((vals .u8 bs).toArray = cs) from hcs)
  rw [hcs]
  clear hcs hl
  go_enter Try.func49, Try.ntmps49
  go_wp2
  go_ret
  refine ⟨rfl, ?_, (Kept.refl _ _).alloc _⟩
  have h := Blk.new w cs 72
  rw [← HCS.out] at h ⊢
  exact h
end Go.Proofs.Ytekpfafmhgplpaa
