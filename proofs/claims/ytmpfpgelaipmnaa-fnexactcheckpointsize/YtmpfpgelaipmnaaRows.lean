/-
  No cell of these rows narrows 'for every input' (looked for: loops, veiled, ifaces, maps, wideKeys, modest, calm, conditions, laid).
  DERIVED. THE GIVEN ROWS OF THIS SEAT. 6 by the template 'for every input the law returns true; each argument reads behind the call as it read before'; 0 by the template 'total and deterministic' (their statements: YtmpfpgelaipmnaaTotals.lean).
  GIVEN WITH THE SEED: the statements are not yours to turn. If you find one false, say at which input.
  Laid BY PROGRAM, IN A SANDBOX (cutbox-rows.mjs): the forced cells as the released guide's own fill.sh prints them over the translation fd1e80b659ea7d5c… (all of the seat's roots in one cut). By AI agents, Wed Nov 11 2026. No macro, syntax, notation, axiom, sorry.
-/
import Derived.Test.YtmpfpgelaipmnaaChecked
import GoSem.Claim
import GoSem.ClaimJoined
import GoSem.ClaimMapViews
import Derived.JoinedTies
import Derived.KernelRfl
namespace Go.Proofs.Ytmpfpgelaipmnaa
/- THE CELL 'sum', in the pinned program and in every row, IS THE sha256 OF THE DUMP (.gsa) THAT YtmpfpgelaipmnaaProg.lean LOADS. Nothing in Lean hashes anything: it is a label: what it is worth is what the hold of that sum in a sandbox is worth. -/
noncomputable def Try.pinned : Pinned := { name := "ytmpfpgelaipmnaa", sum := "fd1e80b659ea7d5c4478c31368c678a115a4584c85b0e539cf85ad7b5e2862de", checked := Try.checked }
namespace Rows
def none {H : Type} : Left H := { results := [], args := [] }

/-- 'laws.FnExactMinLog': WHATEVER THE INPUT: true; the input reads as it did. -/
def fnExactMinLogSpec : ChangeSpec := { name := "fnExactMinLog", fn := fun _ => fun
  | [d] => { results := [.lit (.bool true)], args := [d] }
  | _ => none }
def fnExactMinLogRow : OpenClaim := { program := "ytmpfpgelaipmnaa", sum := "fd1e80b659ea7d5c4478c31368c678a115a4584c85b0e539cf85ad7b5e2862de", func := "loop.example/s02544/laws.FnExactMinLog", spec := "fnExactMinLog", apart := false }
def FnExactMinLogSaid : Prop := fnExactMinLogRow.holds Try.pinned (OpenSpec.ofChange fnExactMinLogSpec)

/-- ITS FALSE NEIGHBOUR: 'it returns false'. Refute it at one input. -/
def fnExactMinLogWrong : ChangeSpec := { name := "fnExactMinLog", fn := fun _ => fun
  | [d] => { results := [.lit (.bool false)], args := [d] }
  | _ => none }
def FnExactMinLogWrongFalsely : Prop := fnExactMinLogRow.holds Try.pinned (OpenSpec.ofChange fnExactMinLogWrong)

/-- 'laws.FnExactGeometryFault': WHATEVER THE INPUT: true; the input reads as it did. -/
def fnExactGeometryFaultSpec : ChangeSpec := { name := "fnExactGeometryFault", fn := fun _ => fun
  | [d] => { results := [.lit (.bool true)], args := [d] }
  | _ => none }
def fnExactGeometryFaultRow : OpenClaim := { program := "ytmpfpgelaipmnaa", sum := "fd1e80b659ea7d5c4478c31368c678a115a4584c85b0e539cf85ad7b5e2862de", func := "loop.example/s02544/laws.FnExactGeometryFault", spec := "fnExactGeometryFault", apart := false }
def FnExactGeometryFaultSaid : Prop := fnExactGeometryFaultRow.holds Try.pinned (OpenSpec.ofChange fnExactGeometryFaultSpec)

/-- ITS FALSE NEIGHBOUR: 'it returns false'. Refute it at one input. -/
def fnExactGeometryFaultWrong : ChangeSpec := { name := "fnExactGeometryFault", fn := fun _ => fun
  | [d] => { results := [.lit (.bool false)], args := [d] }
  | _ => none }
def FnExactGeometryFaultWrongFalsely : Prop := fnExactGeometryFaultRow.holds Try.pinned (OpenSpec.ofChange fnExactGeometryFaultWrong)

/-- 'laws.FnExactCheckpointSize': WHATEVER THE INPUT: true; the input reads as it did. -/
def fnExactCheckpointSizeSpec : ChangeSpec := { name := "fnExactCheckpointSize", fn := fun _ => fun
  | [d] => { results := [.lit (.bool true)], args := [d] }
  | _ => none }
def fnExactCheckpointSizeRow : OpenClaim := { program := "ytmpfpgelaipmnaa", sum := "fd1e80b659ea7d5c4478c31368c678a115a4584c85b0e539cf85ad7b5e2862de", func := "loop.example/s02544/laws.FnExactCheckpointSize", spec := "fnExactCheckpointSize", apart := false }
def FnExactCheckpointSizeSaid : Prop := fnExactCheckpointSizeRow.holds Try.pinned (OpenSpec.ofChange fnExactCheckpointSizeSpec)

/-- ITS FALSE NEIGHBOUR: 'it returns false'. Refute it at one input. -/
def fnExactCheckpointSizeWrong : ChangeSpec := { name := "fnExactCheckpointSize", fn := fun _ => fun
  | [d] => { results := [.lit (.bool false)], args := [d] }
  | _ => none }
def FnExactCheckpointSizeWrongFalsely : Prop := fnExactCheckpointSizeRow.holds Try.pinned (OpenSpec.ofChange fnExactCheckpointSizeWrong)

/-- 'laws.FnExactLogFree': WHATEVER THE INPUT: true; the input reads as it did. -/
def fnExactLogFreeSpec : ChangeSpec := { name := "fnExactLogFree", fn := fun _ => fun
  | [d1, d2, d3, d4, d5] => { results := [.lit (.bool true)], args := [d1, d2, d3, d4, d5] }
  | _ => none }
def fnExactLogFreeRow : OpenClaim := { program := "ytmpfpgelaipmnaa", sum := "fd1e80b659ea7d5c4478c31368c678a115a4584c85b0e539cf85ad7b5e2862de", func := "loop.example/s02544/laws.FnExactLogFree", spec := "fnExactLogFree", apart := false }
def FnExactLogFreeSaid : Prop := fnExactLogFreeRow.holds Try.pinned (OpenSpec.ofChange fnExactLogFreeSpec)

/-- ITS FALSE NEIGHBOUR: 'it returns false'. Refute it at one input. -/
def fnExactLogFreeWrong : ChangeSpec := { name := "fnExactLogFree", fn := fun _ => fun
  | [d1, d2, d3, d4, d5] => { results := [.lit (.bool false)], args := [d1, d2, d3, d4, d5] }
  | _ => none }
def FnExactLogFreeWrongFalsely : Prop := fnExactLogFreeRow.holds Try.pinned (OpenSpec.ofChange fnExactLogFreeWrong)

/-- 'laws.FnExactHoldsFault': WHATEVER THE INPUT: true; the input reads as it did. -/
def fnExactHoldsFaultSpec : ChangeSpec := { name := "fnExactHoldsFault", fn := fun _ => fun
  | [d] => { results := [.lit (.bool true)], args := [d] }
  | _ => none }
def fnExactHoldsFaultRow : OpenClaim := { program := "ytmpfpgelaipmnaa", sum := "fd1e80b659ea7d5c4478c31368c678a115a4584c85b0e539cf85ad7b5e2862de", func := "loop.example/s02544/laws.FnExactHoldsFault", spec := "fnExactHoldsFault", unfollowed := true, recurses := true, apart := false }
def FnExactHoldsFaultSaid : Prop := fnExactHoldsFaultRow.holds Try.pinned (OpenSpec.ofChange fnExactHoldsFaultSpec)

/-- ITS FALSE NEIGHBOUR: 'it returns false'. Refute it at one input. -/
def fnExactHoldsFaultWrong : ChangeSpec := { name := "fnExactHoldsFault", fn := fun _ => fun
  | [d] => { results := [.lit (.bool false)], args := [d] }
  | _ => none }
def FnExactHoldsFaultWrongFalsely : Prop := fnExactHoldsFaultRow.holds Try.pinned (OpenSpec.ofChange fnExactHoldsFaultWrong)

/-- 'laws.FnExactHoldTake': WHATEVER THE INPUT: true; the input reads as it did. -/
def fnExactHoldTakeSpec : ChangeSpec := { name := "fnExactHoldTake", fn := fun _ => fun
  | [d1, d2, d3, d4, d5] => { results := [.lit (.bool true)], args := [d1, d2, d3, d4, d5] }
  | _ => none }
def fnExactHoldTakeRow : OpenClaim := { program := "ytmpfpgelaipmnaa", sum := "fd1e80b659ea7d5c4478c31368c678a115a4584c85b0e539cf85ad7b5e2862de", func := "loop.example/s02544/laws.FnExactHoldTake", spec := "fnExactHoldTake", inPlace := ["slices.overlaps[loop.example/s02544/impl.Hold]"], unfollowed := true, recurses := true, apart := false }
def FnExactHoldTakeSaid : Prop := fnExactHoldTakeRow.holds Try.pinned (OpenSpec.ofChange fnExactHoldTakeSpec)

/-- ITS FALSE NEIGHBOUR: 'it returns false'. Refute it at one input. -/
def fnExactHoldTakeWrong : ChangeSpec := { name := "fnExactHoldTake", fn := fun _ => fun
  | [d1, d2, d3, d4, d5] => { results := [.lit (.bool false)], args := [d1, d2, d3, d4, d5] }
  | _ => none }
def FnExactHoldTakeWrongFalsely : Prop := fnExactHoldTakeRow.holds Try.pinned (OpenSpec.ofChange fnExactHoldTakeWrong)

/- THE SECOND FORM. 'bulk': how many values and letters a reading holds, each counted each time it is reached (what is shared counts as often as it is met; a slice's spare places count too). A statement '..UptoSaid' is the law's where the arguments, and the package variables that the reading takes, are together of bulk at most 1048576: NARROWER than '..Said'. Prove '..Said' where nothing that the law and all that it calls make is longer than what came in: it says more and counts as full. Else prove '..UptoSaid'. A law counts once. -/
mutual
def uptoBulk {H : Type} : DataW H → Nat
  | .lit (.string bytes) => bytes.length + 1
  | .lit _ => 1
  | .nil => 1
  | .ptr d => uptoBulk d + 1
  | .slice elems spare => uptoBulkAll elems + uptoBulkAll spare + 1
  | .agg parts => uptoBulkAll parts + 1
  | .iface _ d => uptoBulk d + 1
  | .map entries => uptoBulkEntries entries + 1
  | .held _ => 1
def uptoBulkAll {H : Type} : List (DataW H) → Nat
  | [] => 0
  | d :: r => uptoBulk d + uptoBulkAll r
def uptoBulkEntries {H : Type} : List (Lit × DataW H) → Nat
  | [] => 0
  | x :: r => uptoBulkEntry x + uptoBulkEntries r
def uptoBulkEntry {H : Type} : Lit × DataW H → Nat
  | (.string bytes, d) => bytes.length + uptoBulk d + 1
  | (_, d) => uptoBulk d + 1
 end
def uptoSmall : (H : Type) → List (DataW H) → Bool := fun _ ds => decide (uptoBulkAll ds ≤ 1048576)
def OpenSpec.upto (s : _root_.Go.ChangeSpec) : _root_.Go.OpenSpec := { _root_.Go.OpenSpec.ofChange s with cond := some uptoSmall }

/-- 'laws.FnExactMinLog', WHERE WHAT IT READS IS OF BULK AT MOST 1048576: true; the input reads as it did. -/
def fnExactMinLogUptoRow : OpenClaim := { program := "ytmpfpgelaipmnaa", sum := "fd1e80b659ea7d5c4478c31368c678a115a4584c85b0e539cf85ad7b5e2862de", func := "loop.example/s02544/laws.FnExactMinLog", spec := "fnExactMinLog", apart := false, narrowed := true }
def FnExactMinLogUptoSaid : Prop := fnExactMinLogUptoRow.holds Try.pinned (OpenSpec.upto fnExactMinLogSpec)

/-- 'laws.FnExactGeometryFault', WHERE WHAT IT READS IS OF BULK AT MOST 1048576: true; the input reads as it did. -/
def fnExactGeometryFaultUptoRow : OpenClaim := { program := "ytmpfpgelaipmnaa", sum := "fd1e80b659ea7d5c4478c31368c678a115a4584c85b0e539cf85ad7b5e2862de", func := "loop.example/s02544/laws.FnExactGeometryFault", spec := "fnExactGeometryFault", apart := false, narrowed := true }
def FnExactGeometryFaultUptoSaid : Prop := fnExactGeometryFaultUptoRow.holds Try.pinned (OpenSpec.upto fnExactGeometryFaultSpec)

/-- 'laws.FnExactCheckpointSize', WHERE WHAT IT READS IS OF BULK AT MOST 1048576: true; the input reads as it did. -/
def fnExactCheckpointSizeUptoRow : OpenClaim := { program := "ytmpfpgelaipmnaa", sum := "fd1e80b659ea7d5c4478c31368c678a115a4584c85b0e539cf85ad7b5e2862de", func := "loop.example/s02544/laws.FnExactCheckpointSize", spec := "fnExactCheckpointSize", apart := false, narrowed := true }
def FnExactCheckpointSizeUptoSaid : Prop := fnExactCheckpointSizeUptoRow.holds Try.pinned (OpenSpec.upto fnExactCheckpointSizeSpec)

/-- 'laws.FnExactLogFree', WHERE WHAT IT READS IS OF BULK AT MOST 1048576: true; the input reads as it did. -/
def fnExactLogFreeUptoRow : OpenClaim := { program := "ytmpfpgelaipmnaa", sum := "fd1e80b659ea7d5c4478c31368c678a115a4584c85b0e539cf85ad7b5e2862de", func := "loop.example/s02544/laws.FnExactLogFree", spec := "fnExactLogFree", apart := false, narrowed := true }
def FnExactLogFreeUptoSaid : Prop := fnExactLogFreeUptoRow.holds Try.pinned (OpenSpec.upto fnExactLogFreeSpec)

/-- 'laws.FnExactHoldsFault', WHERE WHAT IT READS IS OF BULK AT MOST 1048576: true; the input reads as it did. -/
def fnExactHoldsFaultUptoRow : OpenClaim := { program := "ytmpfpgelaipmnaa", sum := "fd1e80b659ea7d5c4478c31368c678a115a4584c85b0e539cf85ad7b5e2862de", func := "loop.example/s02544/laws.FnExactHoldsFault", spec := "fnExactHoldsFault", unfollowed := true, recurses := true, apart := false, narrowed := true }
def FnExactHoldsFaultUptoSaid : Prop := fnExactHoldsFaultUptoRow.holds Try.pinned (OpenSpec.upto fnExactHoldsFaultSpec)

/-- 'laws.FnExactHoldTake', WHERE WHAT IT READS IS OF BULK AT MOST 1048576: true; the input reads as it did. -/
def fnExactHoldTakeUptoRow : OpenClaim := { program := "ytmpfpgelaipmnaa", sum := "fd1e80b659ea7d5c4478c31368c678a115a4584c85b0e539cf85ad7b5e2862de", func := "loop.example/s02544/laws.FnExactHoldTake", spec := "fnExactHoldTake", inPlace := ["slices.overlaps[loop.example/s02544/impl.Hold]"], unfollowed := true, recurses := true, apart := false, narrowed := true }
def FnExactHoldTakeUptoSaid : Prop := fnExactHoldTakeUptoRow.holds Try.pinned (OpenSpec.upto fnExactHoldTakeSpec)

end Rows
end Go.Proofs.Ytmpfpgelaipmnaa
