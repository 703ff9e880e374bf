/-
  No cell of these rows narrows 'for every input' (looked for: loops, veiled, ifaces, maps, wideKeys, modest, calm, conditions, laid).
  DERIVED. THE GIVEN ROWS OF THIS SEAT. 5 by the template 'for every input the law returns true; each argument reads behind the call as it read before'; 0 by the template 'total and deterministic' (their statements: YtmpfpgelaipmnabTotals.lean).
  GIVEN WITH THE SEED: the statements are not yours to turn. If you find one false, say at which input.
  Laid BY PROGRAM, IN A SANDBOX (cutbox-rows.mjs): the forced cells as the released guide's own fill.sh prints them over the translation 7041d4d2664a22ae… (all of the seat's roots in one cut). By AI agents, Wed Nov 11 2026. No macro, syntax, notation, axiom, sorry.
-/
import Derived.Test.YtmpfpgelaipmnabChecked
import GoSem.Claim
import GoSem.ClaimJoined
import GoSem.ClaimMapViews
import Derived.JoinedTies
import Derived.KernelRfl
namespace Go.Proofs.Ytmpfpgelaipmnab
/- THE CELL 'sum', in the pinned program and in every row, IS THE sha256 OF THE DUMP (.gsa) THAT YtmpfpgelaipmnabProg.lean LOADS. Nothing in Lean hashes anything: it is a label: what it is worth is what the hold of that sum in a sandbox is worth. -/
noncomputable def Try.pinned : Pinned := { name := "ytmpfpgelaipmnab", sum := "7041d4d2664a22aef3bd5f733562dc569df1b59114413e98685c5e633c21bf60", checked := Try.checked }
namespace Rows
def none {H : Type} : Left H := { results := [], args := [] }

/-- 'laws.FnExactHoldFree': WHATEVER THE INPUT: true; the input reads as it did. -/
def fnExactHoldFreeSpec : ChangeSpec := { name := "fnExactHoldFree", fn := fun _ => fun
  | [d1, d2] => { results := [.lit (.bool true)], args := [d1, d2] }
  | _ => none }
def fnExactHoldFreeRow : OpenClaim := { program := "ytmpfpgelaipmnab", sum := "7041d4d2664a22aef3bd5f733562dc569df1b59114413e98685c5e633c21bf60", func := "loop.example/s02544/laws.FnExactHoldFree", spec := "fnExactHoldFree", unfollowed := true, recurses := true, apart := false }
def FnExactHoldFreeSaid : Prop := fnExactHoldFreeRow.holds Try.pinned (OpenSpec.ofChange fnExactHoldFreeSpec)

/-- ITS FALSE NEIGHBOUR: 'it returns false'. Refute it at one input. -/
def fnExactHoldFreeWrong : ChangeSpec := { name := "fnExactHoldFree", fn := fun _ => fun
  | [d1, d2] => { results := [.lit (.bool false)], args := [d1, d2] }
  | _ => none }
def FnExactHoldFreeWrongFalsely : Prop := fnExactHoldFreeRow.holds Try.pinned (OpenSpec.ofChange fnExactHoldFreeWrong)

/-- 'laws.FnExactRoomLeft': WHATEVER THE INPUT: true; the input reads as it did. -/
def fnExactRoomLeftSpec : ChangeSpec := { name := "fnExactRoomLeft", fn := fun _ => fun
  | [d1, d2, d3] => { results := [.lit (.bool true)], args := [d1, d2, d3] }
  | _ => none }
def fnExactRoomLeftRow : OpenClaim := { program := "ytmpfpgelaipmnab", sum := "7041d4d2664a22aef3bd5f733562dc569df1b59114413e98685c5e633c21bf60", func := "loop.example/s02544/laws.FnExactRoomLeft", spec := "fnExactRoomLeft", unfollowed := true, recurses := true, apart := false }
def FnExactRoomLeftSaid : Prop := fnExactRoomLeftRow.holds Try.pinned (OpenSpec.ofChange fnExactRoomLeftSpec)

/-- ITS FALSE NEIGHBOUR: 'it returns false'. Refute it at one input. -/
def fnExactRoomLeftWrong : ChangeSpec := { name := "fnExactRoomLeft", fn := fun _ => fun
  | [d1, d2, d3] => { results := [.lit (.bool false)], args := [d1, d2, d3] }
  | _ => none }
def FnExactRoomLeftWrongFalsely : Prop := fnExactRoomLeftRow.holds Try.pinned (OpenSpec.ofChange fnExactRoomLeftWrong)

/-- 'laws.FnExactRoomFor': WHATEVER THE INPUT: true; the input reads as it did. -/
def fnExactRoomForSpec : ChangeSpec := { name := "fnExactRoomFor", fn := fun _ => fun
  | [d1, d2, d3, d4] => { results := [.lit (.bool true)], args := [d1, d2, d3, d4] }
  | _ => none }
def fnExactRoomForRow : OpenClaim := { program := "ytmpfpgelaipmnab", sum := "7041d4d2664a22aef3bd5f733562dc569df1b59114413e98685c5e633c21bf60", func := "loop.example/s02544/laws.FnExactRoomFor", spec := "fnExactRoomFor", unfollowed := true, recurses := true, apart := false }
def FnExactRoomForSaid : Prop := fnExactRoomForRow.holds Try.pinned (OpenSpec.ofChange fnExactRoomForSpec)

/-- ITS FALSE NEIGHBOUR: 'it returns false'. Refute it at one input. -/
def fnExactRoomForWrong : ChangeSpec := { name := "fnExactRoomFor", fn := fun _ => fun
  | [d1, d2, d3, d4] => { results := [.lit (.bool false)], args := [d1, d2, d3, d4] }
  | _ => none }
def FnExactRoomForWrongFalsely : Prop := fnExactRoomForRow.holds Try.pinned (OpenSpec.ofChange fnExactRoomForWrong)

/-- 'laws.FnExactFreshId': WHATEVER THE INPUT: true; the input reads as it did. -/
def fnExactFreshIdSpec : ChangeSpec := { name := "fnExactFreshId", fn := fun _ => fun
  | [d1, d2, d3, d4, d5] => { results := [.lit (.bool true)], args := [d1, d2, d3, d4, d5] }
  | _ => none }
def fnExactFreshIdRow : OpenClaim := { program := "ytmpfpgelaipmnab", sum := "7041d4d2664a22aef3bd5f733562dc569df1b59114413e98685c5e633c21bf60", func := "loop.example/s02544/laws.FnExactFreshId", spec := "fnExactFreshId", unfollowed := true, recurses := true, apart := false }
def FnExactFreshIdSaid : Prop := fnExactFreshIdRow.holds Try.pinned (OpenSpec.ofChange fnExactFreshIdSpec)

/-- ITS FALSE NEIGHBOUR: 'it returns false'. Refute it at one input. -/
def fnExactFreshIdWrong : ChangeSpec := { name := "fnExactFreshId", fn := fun _ => fun
  | [d1, d2, d3, d4, d5] => { results := [.lit (.bool false)], args := [d1, d2, d3, d4, d5] }
  | _ => none }
def FnExactFreshIdWrongFalsely : Prop := fnExactFreshIdRow.holds Try.pinned (OpenSpec.ofChange fnExactFreshIdWrong)

/-- 'laws.FnHolds': WHATEVER THE INPUT: true; the input reads as it did. -/
def fnHoldsSpec : ChangeSpec := { name := "fnHolds", fn := fun _ => fun
  | [d1, d2] => { results := [.lit (.bool true)], args := [d1, d2] }
  | _ => none }
def fnHoldsRow : OpenClaim := { program := "ytmpfpgelaipmnab", sum := "7041d4d2664a22aef3bd5f733562dc569df1b59114413e98685c5e633c21bf60", func := "loop.example/s02544/laws.FnHolds", spec := "fnHolds", inPlace := ["slices.overlaps[loop.example/s02544/impl.Hold]"], unfollowed := true, recurses := true, apart := false }
def FnHoldsSaid : Prop := fnHoldsRow.holds Try.pinned (OpenSpec.ofChange fnHoldsSpec)

/-- ITS FALSE NEIGHBOUR: 'it returns false'. Refute it at one input. -/
def fnHoldsWrong : ChangeSpec := { name := "fnHolds", fn := fun _ => fun
  | [d1, d2] => { results := [.lit (.bool false)], args := [d1, d2] }
  | _ => none }
def FnHoldsWrongFalsely : Prop := fnHoldsRow.holds Try.pinned (OpenSpec.ofChange fnHoldsWrong)

/- THE SECOND FORM. 'bulk': how many values and letters a reading holds, each counted each time it is reached (what is shared counts as often as it is met; a slice's spare places count too). A statement '..UptoSaid' is the law's where the arguments, and the package variables that the reading takes, are together of bulk at most 1048576: NARROWER than '..Said'. Prove '..Said' where nothing that the law and all that it calls make is longer than what came in: it says more and counts as full. Else prove '..UptoSaid'. A law counts once. -/
mutual
def uptoBulk {H : Type} : DataW H → Nat
  | .lit (.string bytes) => bytes.length + 1
  | .lit _ => 1
  | .nil => 1
  | .ptr d => uptoBulk d + 1
  | .slice elems spare => uptoBulkAll elems + uptoBulkAll spare + 1
  | .agg parts => uptoBulkAll parts + 1
  | .iface _ d => uptoBulk d + 1
  | .map entries => uptoBulkEntries entries + 1
  | .held _ => 1
def uptoBulkAll {H : Type} : List (DataW H) → Nat
  | [] => 0
  | d :: r => uptoBulk d + uptoBulkAll r
def uptoBulkEntries {H : Type} : List (Lit × DataW H) → Nat
  | [] => 0
  | x :: r => uptoBulkEntry x + uptoBulkEntries r
def uptoBulkEntry {H : Type} : Lit × DataW H → Nat
  | (.string bytes, d) => bytes.length + uptoBulk d + 1
  | (_, d) => uptoBulk d + 1
 end
def uptoSmall : (H : Type) → List (DataW H) → Bool := fun _ ds => decide (uptoBulkAll ds ≤ 1048576)
def OpenSpec.upto (s : _root_.Go.ChangeSpec) : _root_.Go.OpenSpec := { _root_.Go.OpenSpec.ofChange s with cond := some uptoSmall }

/-- 'laws.FnExactHoldFree', WHERE WHAT IT READS IS OF BULK AT MOST 1048576: true; the input reads as it did. -/
def fnExactHoldFreeUptoRow : OpenClaim := { program := "ytmpfpgelaipmnab", sum := "7041d4d2664a22aef3bd5f733562dc569df1b59114413e98685c5e633c21bf60", func := "loop.example/s02544/laws.FnExactHoldFree", spec := "fnExactHoldFree", unfollowed := true, recurses := true, apart := false, narrowed := true }
def FnExactHoldFreeUptoSaid : Prop := fnExactHoldFreeUptoRow.holds Try.pinned (OpenSpec.upto fnExactHoldFreeSpec)

/-- 'laws.FnExactRoomLeft', WHERE WHAT IT READS IS OF BULK AT MOST 1048576: true; the input reads as it did. -/
def fnExactRoomLeftUptoRow : OpenClaim := { program := "ytmpfpgelaipmnab", sum := "7041d4d2664a22aef3bd5f733562dc569df1b59114413e98685c5e633c21bf60", func := "loop.example/s02544/laws.FnExactRoomLeft", spec := "fnExactRoomLeft", unfollowed := true, recurses := true, apart := false, narrowed := true }
def FnExactRoomLeftUptoSaid : Prop := fnExactRoomLeftUptoRow.holds Try.pinned (OpenSpec.upto fnExactRoomLeftSpec)

/-- 'laws.FnExactRoomFor', WHERE WHAT IT READS IS OF BULK AT MOST 1048576: true; the input reads as it did. -/
def fnExactRoomForUptoRow : OpenClaim := { program := "ytmpfpgelaipmnab", sum := "7041d4d2664a22aef3bd5f733562dc569df1b59114413e98685c5e633c21bf60", func := "loop.example/s02544/laws.FnExactRoomFor", spec := "fnExactRoomFor", unfollowed := true, recurses := true, apart := false, narrowed := true }
def FnExactRoomForUptoSaid : Prop := fnExactRoomForUptoRow.holds Try.pinned (OpenSpec.upto fnExactRoomForSpec)

/-- 'laws.FnExactFreshId', WHERE WHAT IT READS IS OF BULK AT MOST 1048576: true; the input reads as it did. -/
def fnExactFreshIdUptoRow : OpenClaim := { program := "ytmpfpgelaipmnab", sum := "7041d4d2664a22aef3bd5f733562dc569df1b59114413e98685c5e633c21bf60", func := "loop.example/s02544/laws.FnExactFreshId", spec := "fnExactFreshId", unfollowed := true, recurses := true, apart := false, narrowed := true }
def FnExactFreshIdUptoSaid : Prop := fnExactFreshIdUptoRow.holds Try.pinned (OpenSpec.upto fnExactFreshIdSpec)

/-- 'laws.FnHolds', WHERE WHAT IT READS IS OF BULK AT MOST 1048576: true; the input reads as it did. -/
def fnHoldsUptoRow : OpenClaim := { program := "ytmpfpgelaipmnab", sum := "7041d4d2664a22aef3bd5f733562dc569df1b59114413e98685c5e633c21bf60", func := "loop.example/s02544/laws.FnHolds", spec := "fnHolds", inPlace := ["slices.overlaps[loop.example/s02544/impl.Hold]"], unfollowed := true, recurses := true, apart := false, narrowed := true }
def FnHoldsUptoSaid : Prop := fnHoldsUptoRow.holds Try.pinned (OpenSpec.upto fnHoldsSpec)

end Rows
end Go.Proofs.Ytmpfpgelaipmnab
