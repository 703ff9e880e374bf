/-
  No cell of these rows narrows 'for every input' (looked for: loops, veiled, ifaces, maps, wideKeys, modest, calm, conditions, laid).
  DERIVED. THE GIVEN ROWS OF THIS SEAT. 4 by the template 'for every input the law returns true; each argument reads behind the call as it read before'; 0 by the template 'total and deterministic' (their statements: YtmnhflanhchdeaaTotals.lean).
  GIVEN WITH THE SEED: the statements are not yours to turn. If you find one false, say at which input.
  Laid BY PROGRAM, IN A SANDBOX (cutbox-rows.mjs): the forced cells as the released guide's own fill.sh prints them over the translation b4c5b4de4e4b95e4… (all of the seat's roots in one cut). By AI agents, Wed Nov 11 2026. No macro, syntax, notation, axiom, sorry.
-/
import Derived.Test.YtmnhflanhchdeaaChecked
import GoSem.Claim
import GoSem.ClaimJoined
import GoSem.ClaimMapViews
import Derived.JoinedTies
import Derived.KernelRfl
namespace Go.Proofs.Ytmnhflanhchdeaa
/- THE CELL 'sum', in the pinned program and in every row, IS THE sha256 OF THE DUMP (.gsa) THAT YtmnhflanhchdeaaProg.lean LOADS. Nothing in Lean hashes anything: it is a label: what it is worth is what the hold of that sum in a sandbox is worth. -/
noncomputable def Try.pinned : Pinned := { name := "ytmnhflanhchdeaa", sum := "b4c5b4de4e4b95e40da3e8874ac3269d267f4cc8ca4cd36a76833f957bd699e2", checked := Try.checked }
namespace Rows
def none {H : Type} : Left H := { results := [], args := [] }

/-- 'laws.FnExactLogPlace': WHATEVER THE INPUT: true; the input reads as it did. -/
def fnExactLogPlaceSpec : ChangeSpec := { name := "fnExactLogPlace", fn := fun _ => fun
  | [d1, d2] => { results := [.lit (.bool true)], args := [d1, d2] }
  | _ => none }
def fnExactLogPlaceRow : OpenClaim := { program := "ytmnhflanhchdeaa", sum := "b4c5b4de4e4b95e40da3e8874ac3269d267f4cc8ca4cd36a76833f957bd699e2", func := "loop.example/s02544/laws.FnExactLogPlace", spec := "fnExactLogPlace", apart := false }
def FnExactLogPlaceSaid : Prop := fnExactLogPlaceRow.holds Try.pinned (OpenSpec.ofChange fnExactLogPlaceSpec)

/-- ITS FALSE NEIGHBOUR: 'it returns false'. Refute it at one input. -/
def fnExactLogPlaceWrong : ChangeSpec := { name := "fnExactLogPlace", fn := fun _ => fun
  | [d1, d2] => { results := [.lit (.bool false)], args := [d1, d2] }
  | _ => none }
def FnExactLogPlaceWrongFalsely : Prop := fnExactLogPlaceRow.holds Try.pinned (OpenSpec.ofChange fnExactLogPlaceWrong)

/-- 'laws.FnExactLogFault': WHATEVER THE INPUT: true; the input reads as it did. -/
def fnExactLogFaultSpec : ChangeSpec := { name := "fnExactLogFault", fn := fun _ => fun
  | [d] => { results := [.lit (.bool true)], args := [d] }
  | _ => none }
def fnExactLogFaultRow : OpenClaim := { program := "ytmnhflanhchdeaa", sum := "b4c5b4de4e4b95e40da3e8874ac3269d267f4cc8ca4cd36a76833f957bd699e2", func := "loop.example/s02544/laws.FnExactLogFault", spec := "fnExactLogFault", apart := false }
def FnExactLogFaultSaid : Prop := fnExactLogFaultRow.holds Try.pinned (OpenSpec.ofChange fnExactLogFaultSpec)

/-- ITS FALSE NEIGHBOUR: 'it returns false'. Refute it at one input. -/
def fnExactLogFaultWrong : ChangeSpec := { name := "fnExactLogFault", fn := fun _ => fun
  | [d] => { results := [.lit (.bool false)], args := [d] }
  | _ => none }
def FnExactLogFaultWrongFalsely : Prop := fnExactLogFaultRow.holds Try.pinned (OpenSpec.ofChange fnExactLogFaultWrong)

/-- 'laws.FnExactLogFlushed': WHATEVER THE INPUT: true; the input reads as it did. -/
def fnExactLogFlushedSpec : ChangeSpec := { name := "fnExactLogFlushed", fn := fun _ => fun
  | [d] => { results := [.lit (.bool true)], args := [d] }
  | _ => none }
def fnExactLogFlushedRow : OpenClaim := { program := "ytmnhflanhchdeaa", sum := "b4c5b4de4e4b95e40da3e8874ac3269d267f4cc8ca4cd36a76833f957bd699e2", func := "loop.example/s02544/laws.FnExactLogFlushed", spec := "fnExactLogFlushed", apart := false }
def FnExactLogFlushedSaid : Prop := fnExactLogFlushedRow.holds Try.pinned (OpenSpec.ofChange fnExactLogFlushedSpec)

/-- ITS FALSE NEIGHBOUR: 'it returns false'. Refute it at one input. -/
def fnExactLogFlushedWrong : ChangeSpec := { name := "fnExactLogFlushed", fn := fun _ => fun
  | [d] => { results := [.lit (.bool false)], args := [d] }
  | _ => none }
def FnExactLogFlushedWrongFalsely : Prop := fnExactLogFlushedRow.holds Try.pinned (OpenSpec.ofChange fnExactLogFlushedWrong)

/-- 'laws.FnExactLogFlushOps': WHATEVER THE INPUT: true; the input reads as it did. -/
def fnExactLogFlushOpsSpec : ChangeSpec := { name := "fnExactLogFlushOps", fn := fun _ => fun
  | [d] => { results := [.lit (.bool true)], args := [d] }
  | _ => none }
def fnExactLogFlushOpsRow : OpenClaim := { program := "ytmnhflanhchdeaa", sum := "b4c5b4de4e4b95e40da3e8874ac3269d267f4cc8ca4cd36a76833f957bd699e2", func := "loop.example/s02544/laws.FnExactLogFlushOps", spec := "fnExactLogFlushOps", unfollowed := true, recurses := true, apart := false }
def FnExactLogFlushOpsSaid : Prop := fnExactLogFlushOpsRow.holds Try.pinned (OpenSpec.ofChange fnExactLogFlushOpsSpec)

/-- ITS FALSE NEIGHBOUR: 'it returns false'. Refute it at one input. -/
def fnExactLogFlushOpsWrong : ChangeSpec := { name := "fnExactLogFlushOps", fn := fun _ => fun
  | [d] => { results := [.lit (.bool false)], args := [d] }
  | _ => none }
def FnExactLogFlushOpsWrongFalsely : Prop := fnExactLogFlushOpsRow.holds Try.pinned (OpenSpec.ofChange fnExactLogFlushOpsWrong)

/- THE SECOND FORM. 'bulk': how many values and letters a reading holds, each counted each time it is reached (what is shared counts as often as it is met; a slice's spare places count too). A statement '..UptoSaid' is the law's where the arguments, and the package variables that the reading takes, are together of bulk at most 1048576: NARROWER than '..Said'. Prove '..Said' where nothing that the law and all that it calls make is longer than what came in: it says more and counts as full. Else prove '..UptoSaid'. A law counts once. -/
mutual
def uptoBulk {H : Type} : DataW H → Nat
  | .lit (.string bytes) => bytes.length + 1
  | .lit _ => 1
  | .nil => 1
  | .ptr d => uptoBulk d + 1
  | .slice elems spare => uptoBulkAll elems + uptoBulkAll spare + 1
  | .agg parts => uptoBulkAll parts + 1
  | .iface _ d => uptoBulk d + 1
  | .map entries => uptoBulkEntries entries + 1
  | .held _ => 1
def uptoBulkAll {H : Type} : List (DataW H) → Nat
  | [] => 0
  | d :: r => uptoBulk d + uptoBulkAll r
def uptoBulkEntries {H : Type} : List (Lit × DataW H) → Nat
  | [] => 0
  | x :: r => uptoBulkEntry x + uptoBulkEntries r
def uptoBulkEntry {H : Type} : Lit × DataW H → Nat
  | (.string bytes, d) => bytes.length + uptoBulk d + 1
  | (_, d) => uptoBulk d + 1
 end
def uptoSmall : (H : Type) → List (DataW H) → Bool := fun _ ds => decide (uptoBulkAll ds ≤ 1048576)
def OpenSpec.upto (s : _root_.Go.ChangeSpec) : _root_.Go.OpenSpec := { _root_.Go.OpenSpec.ofChange s with cond := some uptoSmall }

/-- 'laws.FnExactLogPlace', WHERE WHAT IT READS IS OF BULK AT MOST 1048576: true; the input reads as it did. -/
def fnExactLogPlaceUptoRow : OpenClaim := { program := "ytmnhflanhchdeaa", sum := "b4c5b4de4e4b95e40da3e8874ac3269d267f4cc8ca4cd36a76833f957bd699e2", func := "loop.example/s02544/laws.FnExactLogPlace", spec := "fnExactLogPlace", apart := false, narrowed := true }
def FnExactLogPlaceUptoSaid : Prop := fnExactLogPlaceUptoRow.holds Try.pinned (OpenSpec.upto fnExactLogPlaceSpec)

/-- 'laws.FnExactLogFault', WHERE WHAT IT READS IS OF BULK AT MOST 1048576: true; the input reads as it did. -/
def fnExactLogFaultUptoRow : OpenClaim := { program := "ytmnhflanhchdeaa", sum := "b4c5b4de4e4b95e40da3e8874ac3269d267f4cc8ca4cd36a76833f957bd699e2", func := "loop.example/s02544/laws.FnExactLogFault", spec := "fnExactLogFault", apart := false, narrowed := true }
def FnExactLogFaultUptoSaid : Prop := fnExactLogFaultUptoRow.holds Try.pinned (OpenSpec.upto fnExactLogFaultSpec)

/-- 'laws.FnExactLogFlushed', WHERE WHAT IT READS IS OF BULK AT MOST 1048576: true; the input reads as it did. -/
def fnExactLogFlushedUptoRow : OpenClaim := { program := "ytmnhflanhchdeaa", sum := "b4c5b4de4e4b95e40da3e8874ac3269d267f4cc8ca4cd36a76833f957bd699e2", func := "loop.example/s02544/laws.FnExactLogFlushed", spec := "fnExactLogFlushed", apart := false, narrowed := true }
def FnExactLogFlushedUptoSaid : Prop := fnExactLogFlushedUptoRow.holds Try.pinned (OpenSpec.upto fnExactLogFlushedSpec)

/-- 'laws.FnExactLogFlushOps', WHERE WHAT IT READS IS OF BULK AT MOST 1048576: true; the input reads as it did. -/
def fnExactLogFlushOpsUptoRow : OpenClaim := { program := "ytmnhflanhchdeaa", sum := "b4c5b4de4e4b95e40da3e8874ac3269d267f4cc8ca4cd36a76833f957bd699e2", func := "loop.example/s02544/laws.FnExactLogFlushOps", spec := "fnExactLogFlushOps", unfollowed := true, recurses := true, apart := false, narrowed := true }
def FnExactLogFlushOpsUptoSaid : Prop := fnExactLogFlushOpsUptoRow.holds Try.pinned (OpenSpec.upto fnExactLogFlushOpsSpec)

end Rows
end Go.Proofs.Ytmnhflanhchdeaa
