import Derived.Test.YtaeikeglaobeeaaGreatSum
import Derived.Test.YtaeikeglaobeeaaGreatG23
import Derived.Test.YtaeikeglaobeeaaGreatG09
import Derived.Test.YtaeikeglaobeeaaGreatG01
namespace Go.Proofs.YtaeikeglaobeeaaGreat
set_option maxRecDepth 100000
set_option maxHeartbeats 4000000
open Go.RowKit
set_option linter.unusedVariables false
set_option linter.unusedSimpArgs false
def zeroF (c : Int) : Int × Int × Int × RecD := (c, 0, 0, zeroR)
/-- what is told behind the length -/
def decG (bs : List Int) (size : Nat) (lsn least most : Int) : Int × Int × Int × RecD :=
  if getN ((bs.drop 4).take 4) ≠ crcOn 0 ((bs.drop 8).take (size - 8)) then zeroF 2
  else if getN ((bs.drop 8).take 8) ≠ lsn ∨ lsn < 0 then zeroF 3
  else if getN ((bs.drop 16).take 4) < least ∨ most < getN ((bs.drop 16).take 4) then zeroF 4
  else if (decD ((bs.drop 20).take (size - 20))).1 = true then (0, (size : Int), getN ((bs.drop 16).take 4), (decD ((bs.drop 20).take (size - 20))).2) else zeroF 5
abbrev frOK (bs : List Int) : Prop := 20 ≤ bs.length ∧ 33 ≤ getN (bs.take 4) ∧ getN (bs.take 4) ≤ 4131 ∧ getN (bs.take 4) ≤ bs.length
def decF (bs : List Int) (lsn least most : Int) : Int × Int × Int × RecD :=
  if frOK bs then decG bs (getN (bs.take 4)).toNat lsn least most else zeroF 1
theorem lsn_bytes {xs : List Int} {lsn : Int} (hB : IsB xs) (hl : xs.length = 8) (hI : IsI lsn) : xs = numB lsn 8 ↔ ¬ (getN xs ≠ lsn ∨ lsn < 0) := by
  constructor
  · intro h
    have hne : numB lsn 8 ≠ [] := fun e => by rw [h, e] at hl; simp at hl
    have h1 := getN_numB lsn 8 hI hne
    have h0 : 0 ≤ lsn := by
      by_cases h0 : 0 ≤ lsn
      · exact h0
      · exfalso
        apply hne
        unfold numB
        rw [if_pos (by omega)]
    rw [← h] at h1
    omega
  · intro h
    have h1 : getN xs = lsn := by omega
    have h0 : 0 ≤ lsn := by omega
    have h2 : num xs = lsn := by
      unfold getN at h1
      split at h1
      · omega
      · exact h1
    have h3 := lows_num xs hB
    rw [hl, h2] at h3
    have h4 := numB_lows (x := lsn) (n := 8) (by omega) h0 (by unfold IsI at hI; omega)
    exact h3.symm.trans h4.symm
end Go.Proofs.YtaeikeglaobeeaaGreat
