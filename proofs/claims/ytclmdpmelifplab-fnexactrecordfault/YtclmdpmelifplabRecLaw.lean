/-
  What a law over a record asks of its shape.
-/
import Derived.Test.YtclmdpmelifplabRecAll
namespace Go.Proofs.Ytclmdpmelifplab
open Go.RowKit
theorem StLogRecord.isB_dat {x y : StLogRecord} (h : y.dat = x.dat) (hx : x.isB) : y.isB := by
  simp only [StLogRecord.dat, StPageRecord.dat, Prod.mk.injEq] at h
  obtain ⟨_, _, _, _, _, ⟨_, h1⟩, ⟨_, h2⟩, _, _, _, _, h3⟩ := h
  unfold StLogRecord.isB at *
  rw [h1, h2, h3]
  exact hx
theorem StLogRecord.size_rd {w : World} {x : StLogRecord} (h : StLogRecord.rd w x) : x.size ≤ 4 * x.szs := by
  have h1 := h.2.2.1.2.1
  have h2 := h.2.2.2.1.2.1
  simp only [StLogRecord.size, StLogRecord.szs, StPageRecord.size, StPageRecord.szs]
  omega
end Go.Proofs.Ytclmdpmelifplab
