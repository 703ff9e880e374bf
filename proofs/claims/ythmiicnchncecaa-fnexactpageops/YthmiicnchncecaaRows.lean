/-
  No cell of these rows narrows 'for every input' (looked for: loops, veiled, ifaces, maps, wideKeys, modest, calm, conditions, laid).
  DERIVED. THE GIVEN ROWS OF THIS SEAT. 4 by the template 'for every input the law returns true; each argument reads behind the call as it read before'; 0 by the template 'total and deterministic' (their statements: YthmiicnchncecaaTotals.lean).
  GIVEN WITH THE SEED: the statements are not yours to turn. If you find one false, say at which input.
  Laid BY PROGRAM, IN A SANDBOX (cutbox-rows.mjs): the forced cells as the released guide's own fill.sh prints them over the translation b9e98b3ee3987ee0… (all of the seat's roots in one cut). By AI agents, Wed Nov 11 2026. No macro, syntax, notation, axiom, sorry.
-/
import Derived.Test.YthmiicnchncecaaChecked
import GoSem.Claim
import GoSem.ClaimJoined
import GoSem.ClaimMapViews
import Derived.JoinedTies
import Derived.KernelRfl
namespace Go.Proofs.Ythmiicnchncecaa
/- THE CELL 'sum', in the pinned program and in every row, IS THE sha256 OF THE DUMP (.gsa) THAT YthmiicnchncecaaProg.lean LOADS. Nothing in Lean hashes anything: it is a label: what it is worth is what the hold of that sum in a sandbox is worth. -/
noncomputable def Try.pinned : Pinned := { name := "ythmiicnchncecaa", sum := "b9e98b3ee3987ee04253b274be0adc5f7c71e63e5051ba80aad21fe341d58000", checked := Try.checked }
namespace Rows
def none {H : Type} : Left H := { results := [], args := [] }

/-- 'laws.FnExactDiskSectors': WHATEVER THE INPUT: true; the input reads as it did. -/
def fnExactDiskSectorsSpec : ChangeSpec := { name := "fnExactDiskSectors", fn := fun _ => fun
  | [d] => { results := [.lit (.bool true)], args := [d] }
  | _ => none }
def fnExactDiskSectorsRow : OpenClaim := { program := "ythmiicnchncecaa", sum := "b9e98b3ee3987ee04253b274be0adc5f7c71e63e5051ba80aad21fe341d58000", func := "loop.example/s02544/laws.FnExactDiskSectors", spec := "fnExactDiskSectors", apart := false }
def FnExactDiskSectorsSaid : Prop := fnExactDiskSectorsRow.holds Try.pinned (OpenSpec.ofChange fnExactDiskSectorsSpec)

/-- ITS FALSE NEIGHBOUR: 'it returns false'. Refute it at one input. -/
def fnExactDiskSectorsWrong : ChangeSpec := { name := "fnExactDiskSectors", fn := fun _ => fun
  | [d] => { results := [.lit (.bool false)], args := [d] }
  | _ => none }
def FnExactDiskSectorsWrongFalsely : Prop := fnExactDiskSectorsRow.holds Try.pinned (OpenSpec.ofChange fnExactDiskSectorsWrong)

/-- 'laws.FnExactPageSector': WHATEVER THE INPUT: true; the input reads as it did. -/
def fnExactPageSectorSpec : ChangeSpec := { name := "fnExactPageSector", fn := fun _ => fun
  | [d1, d2] => { results := [.lit (.bool true)], args := [d1, d2] }
  | _ => none }
def fnExactPageSectorRow : OpenClaim := { program := "ythmiicnchncecaa", sum := "b9e98b3ee3987ee04253b274be0adc5f7c71e63e5051ba80aad21fe341d58000", func := "loop.example/s02544/laws.FnExactPageSector", spec := "fnExactPageSector", apart := false }
def FnExactPageSectorSaid : Prop := fnExactPageSectorRow.holds Try.pinned (OpenSpec.ofChange fnExactPageSectorSpec)

/-- ITS FALSE NEIGHBOUR: 'it returns false'. Refute it at one input. -/
def fnExactPageSectorWrong : ChangeSpec := { name := "fnExactPageSector", fn := fun _ => fun
  | [d1, d2] => { results := [.lit (.bool false)], args := [d1, d2] }
  | _ => none }
def FnExactPageSectorWrongFalsely : Prop := fnExactPageSectorRow.holds Try.pinned (OpenSpec.ofChange fnExactPageSectorWrong)

/-- 'laws.FnExactPageOps': WHATEVER THE INPUT: true; the input reads as it did. -/
def fnExactPageOpsSpec : ChangeSpec := { name := "fnExactPageOps", fn := fun _ => fun
  | [d1, d2, d3] => { results := [.lit (.bool true)], args := [d1, d2, d3] }
  | _ => none }
def fnExactPageOpsRow : OpenClaim := { program := "ythmiicnchncecaa", sum := "b9e98b3ee3987ee04253b274be0adc5f7c71e63e5051ba80aad21fe341d58000", func := "loop.example/s02544/laws.FnExactPageOps", spec := "fnExactPageOps", apart := false }
def FnExactPageOpsSaid : Prop := fnExactPageOpsRow.holds Try.pinned (OpenSpec.ofChange fnExactPageOpsSpec)

/-- ITS FALSE NEIGHBOUR: 'it returns false'. Refute it at one input. -/
def fnExactPageOpsWrong : ChangeSpec := { name := "fnExactPageOps", fn := fun _ => fun
  | [d1, d2, d3] => { results := [.lit (.bool false)], args := [d1, d2, d3] }
  | _ => none }
def FnExactPageOpsWrongFalsely : Prop := fnExactPageOpsRow.holds Try.pinned (OpenSpec.ofChange fnExactPageOpsWrong)

/-- 'laws.FnExactRestartBound': WHATEVER THE INPUT: true; the input reads as it did. -/
def fnExactRestartBoundSpec : ChangeSpec := { name := "fnExactRestartBound", fn := fun _ => fun
  | [d] => { results := [.lit (.bool true)], args := [d] }
  | _ => none }
def fnExactRestartBoundRow : OpenClaim := { program := "ythmiicnchncecaa", sum := "b9e98b3ee3987ee04253b274be0adc5f7c71e63e5051ba80aad21fe341d58000", func := "loop.example/s02544/laws.FnExactRestartBound", spec := "fnExactRestartBound", apart := false }
def FnExactRestartBoundSaid : Prop := fnExactRestartBoundRow.holds Try.pinned (OpenSpec.ofChange fnExactRestartBoundSpec)

/-- ITS FALSE NEIGHBOUR: 'it returns false'. Refute it at one input. -/
def fnExactRestartBoundWrong : ChangeSpec := { name := "fnExactRestartBound", fn := fun _ => fun
  | [d] => { results := [.lit (.bool false)], args := [d] }
  | _ => none }
def FnExactRestartBoundWrongFalsely : Prop := fnExactRestartBoundRow.holds Try.pinned (OpenSpec.ofChange fnExactRestartBoundWrong)

/- THE SECOND FORM. 'bulk': how many values and letters a reading holds, each counted each time it is reached (what is shared counts as often as it is met; a slice's spare places count too). A statement '..UptoSaid' is the law's where the arguments, and the package variables that the reading takes, are together of bulk at most 1048576: NARROWER than '..Said'. Prove '..Said' where nothing that the law and all that it calls make is longer than what came in: it says more and counts as full. Else prove '..UptoSaid'. A law counts once. -/
mutual
def uptoBulk {H : Type} : DataW H → Nat
  | .lit (.string bytes) => bytes.length + 1
  | .lit _ => 1
  | .nil => 1
  | .ptr d => uptoBulk d + 1
  | .slice elems spare => uptoBulkAll elems + uptoBulkAll spare + 1
  | .agg parts => uptoBulkAll parts + 1
  | .iface _ d => uptoBulk d + 1
  | .map entries => uptoBulkEntries entries + 1
  | .held _ => 1
def uptoBulkAll {H : Type} : List (DataW H) → Nat
  | [] => 0
  | d :: r => uptoBulk d + uptoBulkAll r
def uptoBulkEntries {H : Type} : List (Lit × DataW H) → Nat
  | [] => 0
  | x :: r => uptoBulkEntry x + uptoBulkEntries r
def uptoBulkEntry {H : Type} : Lit × DataW H → Nat
  | (.string bytes, d) => bytes.length + uptoBulk d + 1
  | (_, d) => uptoBulk d + 1
 end
def uptoSmall : (H : Type) → List (DataW H) → Bool := fun _ ds => decide (uptoBulkAll ds ≤ 1048576)
def OpenSpec.upto (s : _root_.Go.ChangeSpec) : _root_.Go.OpenSpec := { _root_.Go.OpenSpec.ofChange s with cond := some uptoSmall }

/-- 'laws.FnExactDiskSectors', WHERE WHAT IT READS IS OF BULK AT MOST 1048576: true; the input reads as it did. -/
def fnExactDiskSectorsUptoRow : OpenClaim := { program := "ythmiicnchncecaa", sum := "b9e98b3ee3987ee04253b274be0adc5f7c71e63e5051ba80aad21fe341d58000", func := "loop.example/s02544/laws.FnExactDiskSectors", spec := "fnExactDiskSectors", apart := false, narrowed := true }
def FnExactDiskSectorsUptoSaid : Prop := fnExactDiskSectorsUptoRow.holds Try.pinned (OpenSpec.upto fnExactDiskSectorsSpec)

/-- 'laws.FnExactPageSector', WHERE WHAT IT READS IS OF BULK AT MOST 1048576: true; the input reads as it did. -/
def fnExactPageSectorUptoRow : OpenClaim := { program := "ythmiicnchncecaa", sum := "b9e98b3ee3987ee04253b274be0adc5f7c71e63e5051ba80aad21fe341d58000", func := "loop.example/s02544/laws.FnExactPageSector", spec := "fnExactPageSector", apart := false, narrowed := true }
def FnExactPageSectorUptoSaid : Prop := fnExactPageSectorUptoRow.holds Try.pinned (OpenSpec.upto fnExactPageSectorSpec)

/-- 'laws.FnExactPageOps', WHERE WHAT IT READS IS OF BULK AT MOST 1048576: true; the input reads as it did. -/
def fnExactPageOpsUptoRow : OpenClaim := { program := "ythmiicnchncecaa", sum := "b9e98b3ee3987ee04253b274be0adc5f7c71e63e5051ba80aad21fe341d58000", func := "loop.example/s02544/laws.FnExactPageOps", spec := "fnExactPageOps", apart := false, narrowed := true }
def FnExactPageOpsUptoSaid : Prop := fnExactPageOpsUptoRow.holds Try.pinned (OpenSpec.upto fnExactPageOpsSpec)

/-- 'laws.FnExactRestartBound', WHERE WHAT IT READS IS OF BULK AT MOST 1048576: true; the input reads as it did. -/
def fnExactRestartBoundUptoRow : OpenClaim := { program := "ythmiicnchncecaa", sum := "b9e98b3ee3987ee04253b274be0adc5f7c71e63e5051ba80aad21fe341d58000", func := "loop.example/s02544/laws.FnExactRestartBound", spec := "fnExactRestartBound", apart := false, narrowed := true }
def FnExactRestartBoundUptoSaid : Prop := fnExactRestartBoundUptoRow.holds Try.pinned (OpenSpec.upto fnExactRestartBoundSpec)

end Rows
end Go.Proofs.Ythmiicnchncecaa
