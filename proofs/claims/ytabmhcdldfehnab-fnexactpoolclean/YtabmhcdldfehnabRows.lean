/-
  No cell of these rows narrows 'for every input' (looked for: loops, veiled, ifaces, maps, wideKeys, modest, calm, conditions, laid).
  DERIVED. THE GIVEN ROWS OF THIS SEAT. 2 by the template 'for every input the law returns true; each argument reads behind the call as it read before'; 0 by the template 'total and deterministic' (their statements: YtabmhcdldfehnabTotals.lean).
  GIVEN WITH THE SEED: the statements are not yours to turn. If you find one false, say at which input.
  Laid BY PROGRAM, IN A SANDBOX (cutbox-rows.mjs): the forced cells as the released guide's own fill.sh prints them over the translation 847bd2b153a6a2d9… (all of the seat's roots in one cut). By AI agents, Wed Nov 11 2026. No macro, syntax, notation, axiom, sorry.
-/
import Derived.Test.YtabmhcdldfehnabChecked
import GoSem.Claim
import GoSem.ClaimJoined
import GoSem.ClaimMapViews
import Derived.JoinedTies
import Derived.KernelRfl
namespace Go.Proofs.Ytabmhcdldfehnab
/- THE CELL 'sum', in the pinned program and in every row, IS THE sha256 OF THE DUMP (.gsa) THAT YtabmhcdldfehnabProg.lean LOADS. Nothing in Lean hashes anything: it is a label: what it is worth is what the hold of that sum in a sandbox is worth. -/
noncomputable def Try.pinned : Pinned := { name := "ytabmhcdldfehnab", sum := "847bd2b153a6a2d9d0c1f9bbbf5cacb4d1ebad2bb8828122195ec97886508f9c", checked := Try.checked }
namespace Rows
def none {H : Type} : Left H := { results := [], args := [] }

/-- 'laws.FnExactPoolClean': WHATEVER THE INPUT: true; the input reads as it did. -/
def fnExactPoolCleanSpec : ChangeSpec := { name := "fnExactPoolClean", fn := fun _ => fun
  | [d1, d2] => { results := [.lit (.bool true)], args := [d1, d2] }
  | _ => none }
def fnExactPoolCleanRow : OpenClaim := { program := "ytabmhcdldfehnab", sum := "847bd2b153a6a2d9d0c1f9bbbf5cacb4d1ebad2bb8828122195ec97886508f9c", func := "loop.example/s02544/laws.FnExactPoolClean", spec := "fnExactPoolClean", unfollowed := true, recurses := true, apart := false }
def FnExactPoolCleanSaid : Prop := fnExactPoolCleanRow.holds Try.pinned (OpenSpec.ofChange fnExactPoolCleanSpec)

/-- ITS FALSE NEIGHBOUR: 'it returns false'. Refute it at one input. -/
def fnExactPoolCleanWrong : ChangeSpec := { name := "fnExactPoolClean", fn := fun _ => fun
  | [d1, d2] => { results := [.lit (.bool false)], args := [d1, d2] }
  | _ => none }
def FnExactPoolCleanWrongFalsely : Prop := fnExactPoolCleanRow.holds Try.pinned (OpenSpec.ofChange fnExactPoolCleanWrong)

/-- 'laws.FnExactPoolVictim': WHATEVER THE INPUT: true; the input reads as it did. -/
def fnExactPoolVictimSpec : ChangeSpec := { name := "fnExactPoolVictim", fn := fun _ => fun
  | [d] => { results := [.lit (.bool true)], args := [d] }
  | _ => none }
def fnExactPoolVictimRow : OpenClaim := { program := "ytabmhcdldfehnab", sum := "847bd2b153a6a2d9d0c1f9bbbf5cacb4d1ebad2bb8828122195ec97886508f9c", func := "loop.example/s02544/laws.FnExactPoolVictim", spec := "fnExactPoolVictim", unfollowed := true, recurses := true, apart := false }
def FnExactPoolVictimSaid : Prop := fnExactPoolVictimRow.holds Try.pinned (OpenSpec.ofChange fnExactPoolVictimSpec)

/-- ITS FALSE NEIGHBOUR: 'it returns false'. Refute it at one input. -/
def fnExactPoolVictimWrong : ChangeSpec := { name := "fnExactPoolVictim", fn := fun _ => fun
  | [d] => { results := [.lit (.bool false)], args := [d] }
  | _ => none }
def FnExactPoolVictimWrongFalsely : Prop := fnExactPoolVictimRow.holds Try.pinned (OpenSpec.ofChange fnExactPoolVictimWrong)

/- THE SECOND FORM. 'bulk': how many values and letters a reading holds, each counted each time it is reached (what is shared counts as often as it is met; a slice's spare places count too). A statement '..UptoSaid' is the law's where the arguments, and the package variables that the reading takes, are together of bulk at most 1048576: NARROWER than '..Said'. Prove '..Said' where nothing that the law and all that it calls make is longer than what came in: it says more and counts as full. Else prove '..UptoSaid'. A law counts once. -/
mutual
def uptoBulk {H : Type} : DataW H → Nat
  | .lit (.string bytes) => bytes.length + 1
  | .lit _ => 1
  | .nil => 1
  | .ptr d => uptoBulk d + 1
  | .slice elems spare => uptoBulkAll elems + uptoBulkAll spare + 1
  | .agg parts => uptoBulkAll parts + 1
  | .iface _ d => uptoBulk d + 1
  | .map entries => uptoBulkEntries entries + 1
  | .held _ => 1
def uptoBulkAll {H : Type} : List (DataW H) → Nat
  | [] => 0
  | d :: r => uptoBulk d + uptoBulkAll r
def uptoBulkEntries {H : Type} : List (Lit × DataW H) → Nat
  | [] => 0
  | x :: r => uptoBulkEntry x + uptoBulkEntries r
def uptoBulkEntry {H : Type} : Lit × DataW H → Nat
  | (.string bytes, d) => bytes.length + uptoBulk d + 1
  | (_, d) => uptoBulk d + 1
 end
def uptoSmall : (H : Type) → List (DataW H) → Bool := fun _ ds => decide (uptoBulkAll ds ≤ 1048576)
def OpenSpec.upto (s : _root_.Go.ChangeSpec) : _root_.Go.OpenSpec := { _root_.Go.OpenSpec.ofChange s with cond := some uptoSmall }

/-- 'laws.FnExactPoolClean', WHERE WHAT IT READS IS OF BULK AT MOST 1048576: true; the input reads as it did. -/
def fnExactPoolCleanUptoRow : OpenClaim := { program := "ytabmhcdldfehnab", sum := "847bd2b153a6a2d9d0c1f9bbbf5cacb4d1ebad2bb8828122195ec97886508f9c", func := "loop.example/s02544/laws.FnExactPoolClean", spec := "fnExactPoolClean", unfollowed := true, recurses := true, apart := false, narrowed := true }
def FnExactPoolCleanUptoSaid : Prop := fnExactPoolCleanUptoRow.holds Try.pinned (OpenSpec.upto fnExactPoolCleanSpec)

/-- 'laws.FnExactPoolVictim', WHERE WHAT IT READS IS OF BULK AT MOST 1048576: true; the input reads as it did. -/
def fnExactPoolVictimUptoRow : OpenClaim := { program := "ytabmhcdldfehnab", sum := "847bd2b153a6a2d9d0c1f9bbbf5cacb4d1ebad2bb8828122195ec97886508f9c", func := "loop.example/s02544/laws.FnExactPoolVictim", spec := "fnExactPoolVictim", unfollowed := true, recurses := true, apart := false, narrowed := true }
def FnExactPoolVictimUptoSaid : Prop := fnExactPoolVictimUptoRow.holds Try.pinned (OpenSpec.upto fnExactPoolVictimSpec)

end Rows
end Go.Proofs.Ytabmhcdldfehnab
