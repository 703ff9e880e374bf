/-
  No cell of these rows narrows 'for every input' (looked for: loops, veiled, ifaces, maps, wideKeys, modest, calm, conditions, laid).
  DERIVED. THE GIVEN ROWS OF THIS SEAT. 4 by the template 'for every input the law returns true; each argument reads behind the call as it read before'; 0 by the template 'total and deterministic' (their statements: YtknmledgpgkhpaaTotals.lean).
  GIVEN WITH THE SEED: the statements are not yours to turn. If you find one false, say at which input.
  Laid BY PROGRAM, IN A SANDBOX (cutbox-rows.mjs): the forced cells as the released guide's own fill.sh prints them over the translation 84877ab36955c9c6… (all of the seat's roots in one cut). By AI agents, Wed Nov 11 2026. No macro, syntax, notation, axiom, sorry.
-/
import Derived.Test.YtknmledgpgkhpaaChecked
import GoSem.Claim
import GoSem.ClaimJoined
import GoSem.ClaimMapViews
import Derived.JoinedTies
import Derived.KernelRfl
namespace Go.Proofs.Ytknmledgpgkhpaa
/- THE CELL 'sum', in the pinned program and in every row, IS THE sha256 OF THE DUMP (.gsa) THAT YtknmledgpgkhpaaProg.lean LOADS. Nothing in Lean hashes anything: it is a label: what it is worth is what the hold of that sum in a sandbox is worth. -/
noncomputable def Try.pinned : Pinned := { name := "ytknmledgpgkhpaa", sum := "84877ab36955c9c6bb4b1b8bb640ea4edb3275b43d46177af6fd2aeff1b94d23", checked := Try.checked }
namespace Rows
def none {H : Type} : Left H := { results := [], args := [] }

/-- 'laws.FnRedo': WHATEVER THE INPUT: true; the input reads as it did. -/
def fnRedoSpec : ChangeSpec := { name := "fnRedo", fn := fun _ => fun
  | [d1, d2] => { results := [.lit (.bool true)], args := [d1, d2] }
  | _ => none }
def fnRedoRow : OpenClaim := { program := "ytknmledgpgkhpaa", sum := "84877ab36955c9c6bb4b1b8bb640ea4edb3275b43d46177af6fd2aeff1b94d23", func := "loop.example/s02544/laws.FnRedo", spec := "fnRedo", apart := false }
def FnRedoSaid : Prop := fnRedoRow.holds Try.pinned (OpenSpec.ofChange fnRedoSpec)

/-- ITS FALSE NEIGHBOUR: 'it returns false'. Refute it at one input. -/
def fnRedoWrong : ChangeSpec := { name := "fnRedo", fn := fun _ => fun
  | [d1, d2] => { results := [.lit (.bool false)], args := [d1, d2] }
  | _ => none }
def FnRedoWrongFalsely : Prop := fnRedoRow.holds Try.pinned (OpenSpec.ofChange fnRedoWrong)

/-- 'laws.FnExactLastImage': WHATEVER THE INPUT: true; the input reads as it did. -/
def fnExactLastImageSpec : ChangeSpec := { name := "fnExactLastImage", fn := fun _ => fun
  | [d1, d2] => { results := [.lit (.bool true)], args := [d1, d2] }
  | _ => none }
def fnExactLastImageRow : OpenClaim := { program := "ytknmledgpgkhpaa", sum := "84877ab36955c9c6bb4b1b8bb640ea4edb3275b43d46177af6fd2aeff1b94d23", func := "loop.example/s02544/laws.FnExactLastImage", spec := "fnExactLastImage", unfollowed := true, recurses := true, apart := false }
def FnExactLastImageSaid : Prop := fnExactLastImageRow.holds Try.pinned (OpenSpec.ofChange fnExactLastImageSpec)

/-- ITS FALSE NEIGHBOUR: 'it returns false'. Refute it at one input. -/
def fnExactLastImageWrong : ChangeSpec := { name := "fnExactLastImage", fn := fun _ => fun
  | [d1, d2] => { results := [.lit (.bool false)], args := [d1, d2] }
  | _ => none }
def FnExactLastImageWrongFalsely : Prop := fnExactLastImageRow.holds Try.pinned (OpenSpec.ofChange fnExactLastImageWrong)

/-- 'laws.FnExactRedoPage': WHATEVER THE INPUT: true; the input reads as it did. -/
def fnExactRedoPageSpec : ChangeSpec := { name := "fnExactRedoPage", fn := fun _ => fun
  | [d1, d2, d3, d4] => { results := [.lit (.bool true)], args := [d1, d2, d3, d4] }
  | _ => none }
def fnExactRedoPageRow : OpenClaim := { program := "ytknmledgpgkhpaa", sum := "84877ab36955c9c6bb4b1b8bb640ea4edb3275b43d46177af6fd2aeff1b94d23", func := "loop.example/s02544/laws.FnExactRedoPage", spec := "fnExactRedoPage", apart := false }
def FnExactRedoPageSaid : Prop := fnExactRedoPageRow.holds Try.pinned (OpenSpec.ofChange fnExactRedoPageSpec)

/-- ITS FALSE NEIGHBOUR: 'it returns false'. Refute it at one input. -/
def fnExactRedoPageWrong : ChangeSpec := { name := "fnExactRedoPage", fn := fun _ => fun
  | [d1, d2, d3, d4] => { results := [.lit (.bool false)], args := [d1, d2, d3, d4] }
  | _ => none }
def FnExactRedoPageWrongFalsely : Prop := fnExactRedoPageRow.holds Try.pinned (OpenSpec.ofChange fnExactRedoPageWrong)

/-- 'laws.FnExactPlanUndo': WHATEVER THE INPUT: true; the input reads as it did. -/
def fnExactPlanUndoSpec : ChangeSpec := { name := "fnExactPlanUndo", fn := fun _ => fun
  | [d1, d2] => { results := [.lit (.bool true)], args := [d1, d2] }
  | _ => none }
def fnExactPlanUndoRow : OpenClaim := { program := "ytknmledgpgkhpaa", sum := "84877ab36955c9c6bb4b1b8bb640ea4edb3275b43d46177af6fd2aeff1b94d23", func := "loop.example/s02544/laws.FnExactPlanUndo", spec := "fnExactPlanUndo", unfollowed := true, recurses := true, apart := false }
def FnExactPlanUndoSaid : Prop := fnExactPlanUndoRow.holds Try.pinned (OpenSpec.ofChange fnExactPlanUndoSpec)

/-- ITS FALSE NEIGHBOUR: 'it returns false'. Refute it at one input. -/
def fnExactPlanUndoWrong : ChangeSpec := { name := "fnExactPlanUndo", fn := fun _ => fun
  | [d1, d2] => { results := [.lit (.bool false)], args := [d1, d2] }
  | _ => none }
def FnExactPlanUndoWrongFalsely : Prop := fnExactPlanUndoRow.holds Try.pinned (OpenSpec.ofChange fnExactPlanUndoWrong)

/- THE SECOND FORM. 'bulk': how many values and letters a reading holds, each counted each time it is reached (what is shared counts as often as it is met; a slice's spare places count too). A statement '..UptoSaid' is the law's where the arguments, and the package variables that the reading takes, are together of bulk at most 1048576: NARROWER than '..Said'. Prove '..Said' where nothing that the law and all that it calls make is longer than what came in: it says more and counts as full. Else prove '..UptoSaid'. A law counts once. -/
mutual
def uptoBulk {H : Type} : DataW H → Nat
  | .lit (.string bytes) => bytes.length + 1
  | .lit _ => 1
  | .nil => 1
  | .ptr d => uptoBulk d + 1
  | .slice elems spare => uptoBulkAll elems + uptoBulkAll spare + 1
  | .agg parts => uptoBulkAll parts + 1
  | .iface _ d => uptoBulk d + 1
  | .map entries => uptoBulkEntries entries + 1
  | .held _ => 1
def uptoBulkAll {H : Type} : List (DataW H) → Nat
  | [] => 0
  | d :: r => uptoBulk d + uptoBulkAll r
def uptoBulkEntries {H : Type} : List (Lit × DataW H) → Nat
  | [] => 0
  | x :: r => uptoBulkEntry x + uptoBulkEntries r
def uptoBulkEntry {H : Type} : Lit × DataW H → Nat
  | (.string bytes, d) => bytes.length + uptoBulk d + 1
  | (_, d) => uptoBulk d + 1
 end
def uptoSmall : (H : Type) → List (DataW H) → Bool := fun _ ds => decide (uptoBulkAll ds ≤ 1048576)
def OpenSpec.upto (s : _root_.Go.ChangeSpec) : _root_.Go.OpenSpec := { _root_.Go.OpenSpec.ofChange s with cond := some uptoSmall }

/-- 'laws.FnRedo', WHERE WHAT IT READS IS OF BULK AT MOST 1048576: true; the input reads as it did. -/
def fnRedoUptoRow : OpenClaim := { program := "ytknmledgpgkhpaa", sum := "84877ab36955c9c6bb4b1b8bb640ea4edb3275b43d46177af6fd2aeff1b94d23", func := "loop.example/s02544/laws.FnRedo", spec := "fnRedo", apart := false, narrowed := true }
def FnRedoUptoSaid : Prop := fnRedoUptoRow.holds Try.pinned (OpenSpec.upto fnRedoSpec)

/-- 'laws.FnExactLastImage', WHERE WHAT IT READS IS OF BULK AT MOST 1048576: true; the input reads as it did. -/
def fnExactLastImageUptoRow : OpenClaim := { program := "ytknmledgpgkhpaa", sum := "84877ab36955c9c6bb4b1b8bb640ea4edb3275b43d46177af6fd2aeff1b94d23", func := "loop.example/s02544/laws.FnExactLastImage", spec := "fnExactLastImage", unfollowed := true, recurses := true, apart := false, narrowed := true }
def FnExactLastImageUptoSaid : Prop := fnExactLastImageUptoRow.holds Try.pinned (OpenSpec.upto fnExactLastImageSpec)

/-- 'laws.FnExactRedoPage', WHERE WHAT IT READS IS OF BULK AT MOST 1048576: true; the input reads as it did. -/
def fnExactRedoPageUptoRow : OpenClaim := { program := "ytknmledgpgkhpaa", sum := "84877ab36955c9c6bb4b1b8bb640ea4edb3275b43d46177af6fd2aeff1b94d23", func := "loop.example/s02544/laws.FnExactRedoPage", spec := "fnExactRedoPage", apart := false, narrowed := true }
def FnExactRedoPageUptoSaid : Prop := fnExactRedoPageUptoRow.holds Try.pinned (OpenSpec.upto fnExactRedoPageSpec)

/-- 'laws.FnExactPlanUndo', WHERE WHAT IT READS IS OF BULK AT MOST 1048576: true; the input reads as it did. -/
def fnExactPlanUndoUptoRow : OpenClaim := { program := "ytknmledgpgkhpaa", sum := "84877ab36955c9c6bb4b1b8bb640ea4edb3275b43d46177af6fd2aeff1b94d23", func := "loop.example/s02544/laws.FnExactPlanUndo", spec := "fnExactPlanUndo", unfollowed := true, recurses := true, apart := false, narrowed := true }
def FnExactPlanUndoUptoSaid : Prop := fnExactPlanUndoUptoRow.holds Try.pinned (OpenSpec.upto fnExactPlanUndoSpec)

end Rows
end Go.Proofs.Ytknmledgpgkhpaa
