import Derived.Test.YtfhdkbibcndmjaaG05
namespace Go.Proofs.Ytfhdkbibcndmjaa
theorem Ans.small {P : Prop} {r0 dur r : List Int} {rs0 : List (Int × List Int)} {ps qs : List PW} (h : Ans P r0 rs0 dur (dataP ps) r (dataP qs)) (h0 : P → r0.length ≤ dur.length) (h1 : P → ∃ ps0 : List PW, dataP ps0 = rs0 ∧ ps0.length ≤ 2097152 ∧ sizeP ps0 ≤ 2097152)
    (hd : dur.length ≤ 1048576) (hp : ps.length ≤ 1048576) (hsz : sizeP ps ≤ 1048576) : r.length ≤ 1048576 ∧ qs.length ≤ 2097152 ∧ sizeP qs ≤ 2097152 := by
  rcases h with ⟨h, rfl, e⟩ | ⟨h, rfl, e⟩
  · obtain ⟨ps0, e0, l0, s0⟩ := h1 h
    have e1 : dataP qs = dataP ps0 := e.trans e0.symm
    exact ⟨Nat.le_trans (h0 h) hd, by rw [← dataP_length, e1, dataP_length]; exact l0, by rw [dataP_sizeP e1]; exact s0⟩
  · exact ⟨hd, by rw [← dataP_length, e, dataP_length]; omega, by rw [dataP_sizeP e]; omega⟩
end Go.Proofs.Ytfhdkbibcndmjaa
