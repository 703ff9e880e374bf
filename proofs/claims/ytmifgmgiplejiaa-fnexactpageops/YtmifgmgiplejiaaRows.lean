/-
  No cell of these rows narrows 'for every input' (looked for: loops, veiled, ifaces, maps, wideKeys, modest, calm, conditions, laid).
  DERIVED. THE GIVEN ROWS OF THIS SEAT. 4 by the template 'for every input the law returns true; each argument reads behind the call as it read before'; 0 by the template 'total and deterministic' (their statements: YtmifgmgiplejiaaTotals.lean).
  GIVEN WITH THE SEED: the statements are not yours to turn. If you find one false, say at which input.
  Laid BY PROGRAM, IN A SANDBOX (cutbox-rows.mjs): the forced cells as the released guide's own fill.sh prints them over the translation 96cf6246fd66cd6b… (all of the seat's roots in one cut). By AI agents, Wed Nov 11 2026. No macro, syntax, notation, axiom, sorry.
-/
import Derived.Test.YtmifgmgiplejiaaChecked
import GoSem.Claim
import GoSem.ClaimJoined
import GoSem.ClaimMapViews
import Derived.JoinedTies
import Derived.KernelRfl
namespace Go.Proofs.Ytmifgmgiplejiaa
/- THE CELL 'sum', in the pinned program and in every row, IS THE sha256 OF THE DUMP (.gsa) THAT YtmifgmgiplejiaaProg.lean LOADS. Nothing in Lean hashes anything: it is a label: what it is worth is what the hold of that sum in a sandbox is worth. -/
noncomputable def Try.pinned : Pinned := { name := "ytmifgmgiplejiaa", sum := "96cf6246fd66cd6bf55885ceca79b43e24d6b5bd43c74a88cfdd589ddbc9b838", checked := Try.checked }
namespace Rows
def none {H : Type} : Left H := { results := [], args := [] }

/-- 'laws.FnExactDiskSectors': WHATEVER THE INPUT: true; the input reads as it did. -/
def fnExactDiskSectorsSpec : ChangeSpec := { name := "fnExactDiskSectors", fn := fun _ => fun
  | [d] => { results := [.lit (.bool true)], args := [d] }
  | _ => none }
def fnExactDiskSectorsRow : OpenClaim := { program := "ytmifgmgiplejiaa", sum := "96cf6246fd66cd6bf55885ceca79b43e24d6b5bd43c74a88cfdd589ddbc9b838", func := "loop.example/s02544/laws.FnExactDiskSectors", spec := "fnExactDiskSectors", apart := false }
def FnExactDiskSectorsSaid : Prop := fnExactDiskSectorsRow.holds Try.pinned (OpenSpec.ofChange fnExactDiskSectorsSpec)

/-- ITS FALSE NEIGHBOUR: 'it returns false'. Refute it at one input. -/
def fnExactDiskSectorsWrong : ChangeSpec := { name := "fnExactDiskSectors", fn := fun _ => fun
  | [d] => { results := [.lit (.bool false)], args := [d] }
  | _ => none }
def FnExactDiskSectorsWrongFalsely : Prop := fnExactDiskSectorsRow.holds Try.pinned (OpenSpec.ofChange fnExactDiskSectorsWrong)

/-- 'laws.FnExactPageSector': WHATEVER THE INPUT: true; the input reads as it did. -/
def fnExactPageSectorSpec : ChangeSpec := { name := "fnExactPageSector", fn := fun _ => fun
  | [d1, d2] => { results := [.lit (.bool true)], args := [d1, d2] }
  | _ => none }
def fnExactPageSectorRow : OpenClaim := { program := "ytmifgmgiplejiaa", sum := "96cf6246fd66cd6bf55885ceca79b43e24d6b5bd43c74a88cfdd589ddbc9b838", func := "loop.example/s02544/laws.FnExactPageSector", spec := "fnExactPageSector", apart := false }
def FnExactPageSectorSaid : Prop := fnExactPageSectorRow.holds Try.pinned (OpenSpec.ofChange fnExactPageSectorSpec)

/-- ITS FALSE NEIGHBOUR: 'it returns false'. Refute it at one input. -/
def fnExactPageSectorWrong : ChangeSpec := { name := "fnExactPageSector", fn := fun _ => fun
  | [d1, d2] => { results := [.lit (.bool false)], args := [d1, d2] }
  | _ => none }
def FnExactPageSectorWrongFalsely : Prop := fnExactPageSectorRow.holds Try.pinned (OpenSpec.ofChange fnExactPageSectorWrong)

/-- 'laws.FnExactReadPage': WHATEVER THE INPUT: true; the input reads as it did. -/
def fnExactReadPageSpec : ChangeSpec := { name := "fnExactReadPage", fn := fun _ => fun
  | [d1, d2, d3] => { results := [.lit (.bool true)], args := [d1, d2, d3] }
  | _ => none }
def fnExactReadPageRow : OpenClaim := { program := "ytmifgmgiplejiaa", sum := "96cf6246fd66cd6bf55885ceca79b43e24d6b5bd43c74a88cfdd589ddbc9b838", func := "loop.example/s02544/laws.FnExactReadPage", spec := "fnExactReadPage", apart := false }
def FnExactReadPageSaid : Prop := fnExactReadPageRow.holds Try.pinned (OpenSpec.ofChange fnExactReadPageSpec)

/-- ITS FALSE NEIGHBOUR: 'it returns false'. Refute it at one input. -/
def fnExactReadPageWrong : ChangeSpec := { name := "fnExactReadPage", fn := fun _ => fun
  | [d1, d2, d3] => { results := [.lit (.bool false)], args := [d1, d2, d3] }
  | _ => none }
def FnExactReadPageWrongFalsely : Prop := fnExactReadPageRow.holds Try.pinned (OpenSpec.ofChange fnExactReadPageWrong)

/-- 'laws.FnExactPageOps': WHATEVER THE INPUT: true; the input reads as it did. -/
def fnExactPageOpsSpec : ChangeSpec := { name := "fnExactPageOps", fn := fun _ => fun
  | [d1, d2, d3] => { results := [.lit (.bool true)], args := [d1, d2, d3] }
  | _ => none }
def fnExactPageOpsRow : OpenClaim := { program := "ytmifgmgiplejiaa", sum := "96cf6246fd66cd6bf55885ceca79b43e24d6b5bd43c74a88cfdd589ddbc9b838", func := "loop.example/s02544/laws.FnExactPageOps", spec := "fnExactPageOps", apart := false }
def FnExactPageOpsSaid : Prop := fnExactPageOpsRow.holds Try.pinned (OpenSpec.ofChange fnExactPageOpsSpec)

/-- ITS FALSE NEIGHBOUR: 'it returns false'. Refute it at one input. -/
def fnExactPageOpsWrong : ChangeSpec := { name := "fnExactPageOps", fn := fun _ => fun
  | [d1, d2, d3] => { results := [.lit (.bool false)], args := [d1, d2, d3] }
  | _ => none }
def FnExactPageOpsWrongFalsely : Prop := fnExactPageOpsRow.holds Try.pinned (OpenSpec.ofChange fnExactPageOpsWrong)

/- THE SECOND FORM. 'bulk': how many values and letters a reading holds, each counted each time it is reached (what is shared counts as often as it is met; a slice's spare places count too). A statement '..UptoSaid' is the law's where the arguments, and the package variables that the reading takes, are together of bulk at most 1048576: NARROWER than '..Said'. Prove '..Said' where nothing that the law and all that it calls make is longer than what came in: it says more and counts as full. Else prove '..UptoSaid'. A law counts once. -/
mutual
def uptoBulk {H : Type} : DataW H → Nat
  | .lit (.string bytes) => bytes.length + 1
  | .lit _ => 1
  | .nil => 1
  | .ptr d => uptoBulk d + 1
  | .slice elems spare => uptoBulkAll elems + uptoBulkAll spare + 1
  | .agg parts => uptoBulkAll parts + 1
  | .iface _ d => uptoBulk d + 1
  | .map entries => uptoBulkEntries entries + 1
  | .held _ => 1
def uptoBulkAll {H : Type} : List (DataW H) → Nat
  | [] => 0
  | d :: r => uptoBulk d + uptoBulkAll r
def uptoBulkEntries {H : Type} : List (Lit × DataW H) → Nat
  | [] => 0
  | x :: r => uptoBulkEntry x + uptoBulkEntries r
def uptoBulkEntry {H : Type} : Lit × DataW H → Nat
  | (.string bytes, d) => bytes.length + uptoBulk d + 1
  | (_, d) => uptoBulk d + 1
 end
def uptoSmall : (H : Type) → List (DataW H) → Bool := fun _ ds => decide (uptoBulkAll ds ≤ 1048576)
def OpenSpec.upto (s : _root_.Go.ChangeSpec) : _root_.Go.OpenSpec := { _root_.Go.OpenSpec.ofChange s with cond := some uptoSmall }

/-- 'laws.FnExactDiskSectors', WHERE WHAT IT READS IS OF BULK AT MOST 1048576: true; the input reads as it did. -/
def fnExactDiskSectorsUptoRow : OpenClaim := { program := "ytmifgmgiplejiaa", sum := "96cf6246fd66cd6bf55885ceca79b43e24d6b5bd43c74a88cfdd589ddbc9b838", func := "loop.example/s02544/laws.FnExactDiskSectors", spec := "fnExactDiskSectors", apart := false, narrowed := true }
def FnExactDiskSectorsUptoSaid : Prop := fnExactDiskSectorsUptoRow.holds Try.pinned (OpenSpec.upto fnExactDiskSectorsSpec)

/-- 'laws.FnExactPageSector', WHERE WHAT IT READS IS OF BULK AT MOST 1048576: true; the input reads as it did. -/
def fnExactPageSectorUptoRow : OpenClaim := { program := "ytmifgmgiplejiaa", sum := "96cf6246fd66cd6bf55885ceca79b43e24d6b5bd43c74a88cfdd589ddbc9b838", func := "loop.example/s02544/laws.FnExactPageSector", spec := "fnExactPageSector", apart := false, narrowed := true }
def FnExactPageSectorUptoSaid : Prop := fnExactPageSectorUptoRow.holds Try.pinned (OpenSpec.upto fnExactPageSectorSpec)

/-- 'laws.FnExactReadPage', WHERE WHAT IT READS IS OF BULK AT MOST 1048576: true; the input reads as it did. -/
def fnExactReadPageUptoRow : OpenClaim := { program := "ytmifgmgiplejiaa", sum := "96cf6246fd66cd6bf55885ceca79b43e24d6b5bd43c74a88cfdd589ddbc9b838", func := "loop.example/s02544/laws.FnExactReadPage", spec := "fnExactReadPage", apart := false, narrowed := true }
def FnExactReadPageUptoSaid : Prop := fnExactReadPageUptoRow.holds Try.pinned (OpenSpec.upto fnExactReadPageSpec)

/-- 'laws.FnExactPageOps', WHERE WHAT IT READS IS OF BULK AT MOST 1048576: true; the input reads as it did. -/
def fnExactPageOpsUptoRow : OpenClaim := { program := "ytmifgmgiplejiaa", sum := "96cf6246fd66cd6bf55885ceca79b43e24d6b5bd43c74a88cfdd589ddbc9b838", func := "loop.example/s02544/laws.FnExactPageOps", spec := "fnExactPageOps", apart := false, narrowed := true }
def FnExactPageOpsUptoSaid : Prop := fnExactPageOpsUptoRow.holds Try.pinned (OpenSpec.upto fnExactPageOpsSpec)

end Rows
end Go.Proofs.Ytmifgmgiplejiaa
