/-
  No cell of these rows narrows 'for every input' (looked for: loops, veiled, ifaces, maps, wideKeys, modest, calm, conditions, laid).
  DERIVED. THE GIVEN ROWS OF THIS SEAT. 6 by the template 'for every input the law returns true; each argument reads behind the call as it read before'; 0 by the template 'total and deterministic' (their statements: YtelijknekfipfaaTotals.lean).
  GIVEN WITH THE SEED: the statements are not yours to turn. If you find one false, say at which input.
  Laid BY PROGRAM, IN A SANDBOX (cutbox-rows.mjs): the forced cells as the released guide's own fill.sh prints them over the translation 5d86ed3ca6e259ab… (all of the seat's roots in one cut). By AI agents, Wed Nov 11 2026. No macro, syntax, notation, axiom, sorry.
-/
import Derived.Test.YtelijknekfipfaaChecked
import GoSem.Claim
import GoSem.ClaimJoined
import GoSem.ClaimMapViews
import Derived.JoinedTies
import Derived.KernelRfl
namespace Go.Proofs.Ytelijknekfipfaa
/- THE CELL 'sum', in the pinned program and in every row, IS THE sha256 OF THE DUMP (.gsa) THAT YtelijknekfipfaaProg.lean LOADS. Nothing in Lean hashes anything: it is a label: what it is worth is what the hold of that sum in a sandbox is worth. -/
noncomputable def Try.pinned : Pinned := { name := "ytelijknekfipfaa", sum := "5d86ed3ca6e259ab7cfdf0e1632c1583199eca8d65d510c8fa0a985af543bfc4", checked := Try.checked }
namespace Rows
def none {H : Type} : Left H := { results := [], args := [] }

/-- 'laws.FnLocks': WHATEVER THE INPUT: true; the input reads as it did. -/
def fnLocksSpec : ChangeSpec := { name := "fnLocks", fn := fun _ => fun
  | [d] => { results := [.lit (.bool true)], args := [d] }
  | _ => none }
def fnLocksRow : OpenClaim := { program := "ytelijknekfipfaa", sum := "5d86ed3ca6e259ab7cfdf0e1632c1583199eca8d65d510c8fa0a985af543bfc4", func := "loop.example/s02544/laws.FnLocks", spec := "fnLocks", unfollowed := true, recurses := true, apart := false }
def FnLocksSaid : Prop := fnLocksRow.holds Try.pinned (OpenSpec.ofChange fnLocksSpec)

/-- ITS FALSE NEIGHBOUR: 'it returns false'. Refute it at one input. -/
def fnLocksWrong : ChangeSpec := { name := "fnLocks", fn := fun _ => fun
  | [d] => { results := [.lit (.bool false)], args := [d] }
  | _ => none }
def FnLocksWrongFalsely : Prop := fnLocksRow.holds Try.pinned (OpenSpec.ofChange fnLocksWrong)

/-- 'laws.FnExactLocksFault': WHATEVER THE INPUT: true; the input reads as it did. -/
def fnExactLocksFaultSpec : ChangeSpec := { name := "fnExactLocksFault", fn := fun _ => fun
  | [d] => { results := [.lit (.bool true)], args := [d] }
  | _ => none }
def fnExactLocksFaultRow : OpenClaim := { program := "ytelijknekfipfaa", sum := "5d86ed3ca6e259ab7cfdf0e1632c1583199eca8d65d510c8fa0a985af543bfc4", func := "loop.example/s02544/laws.FnExactLocksFault", spec := "fnExactLocksFault", unfollowed := true, recurses := true, apart := false }
def FnExactLocksFaultSaid : Prop := fnExactLocksFaultRow.holds Try.pinned (OpenSpec.ofChange fnExactLocksFaultSpec)

/-- ITS FALSE NEIGHBOUR: 'it returns false'. Refute it at one input. -/
def fnExactLocksFaultWrong : ChangeSpec := { name := "fnExactLocksFault", fn := fun _ => fun
  | [d] => { results := [.lit (.bool false)], args := [d] }
  | _ => none }
def FnExactLocksFaultWrongFalsely : Prop := fnExactLocksFaultRow.holds Try.pinned (OpenSpec.ofChange fnExactLocksFaultWrong)

/-- 'laws.FnExactLockMode': WHATEVER THE INPUT: true; the input reads as it did. -/
def fnExactLockModeSpec : ChangeSpec := { name := "fnExactLockMode", fn := fun _ => fun
  | [d1, d2, d3] => { results := [.lit (.bool true)], args := [d1, d2, d3] }
  | _ => none }
def fnExactLockModeRow : OpenClaim := { program := "ytelijknekfipfaa", sum := "5d86ed3ca6e259ab7cfdf0e1632c1583199eca8d65d510c8fa0a985af543bfc4", func := "loop.example/s02544/laws.FnExactLockMode", spec := "fnExactLockMode", unfollowed := true, recurses := true, apart := false }
def FnExactLockModeSaid : Prop := fnExactLockModeRow.holds Try.pinned (OpenSpec.ofChange fnExactLockModeSpec)

/-- ITS FALSE NEIGHBOUR: 'it returns false'. Refute it at one input. -/
def fnExactLockModeWrong : ChangeSpec := { name := "fnExactLockMode", fn := fun _ => fun
  | [d1, d2, d3] => { results := [.lit (.bool false)], args := [d1, d2, d3] }
  | _ => none }
def FnExactLockModeWrongFalsely : Prop := fnExactLockModeRow.holds Try.pinned (OpenSpec.ofChange fnExactLockModeWrong)

/-- 'laws.FnExactLockOthers': WHATEVER THE INPUT: true; the input reads as it did. -/
def fnExactLockOthersSpec : ChangeSpec := { name := "fnExactLockOthers", fn := fun _ => fun
  | [d1, d2, d3] => { results := [.lit (.bool true)], args := [d1, d2, d3] }
  | _ => none }
def fnExactLockOthersRow : OpenClaim := { program := "ytelijknekfipfaa", sum := "5d86ed3ca6e259ab7cfdf0e1632c1583199eca8d65d510c8fa0a985af543bfc4", func := "loop.example/s02544/laws.FnExactLockOthers", spec := "fnExactLockOthers", unfollowed := true, recurses := true, apart := false }
def FnExactLockOthersSaid : Prop := fnExactLockOthersRow.holds Try.pinned (OpenSpec.ofChange fnExactLockOthersSpec)

/-- ITS FALSE NEIGHBOUR: 'it returns false'. Refute it at one input. -/
def fnExactLockOthersWrong : ChangeSpec := { name := "fnExactLockOthers", fn := fun _ => fun
  | [d1, d2, d3] => { results := [.lit (.bool false)], args := [d1, d2, d3] }
  | _ => none }
def FnExactLockOthersWrongFalsely : Prop := fnExactLockOthersRow.holds Try.pinned (OpenSpec.ofChange fnExactLockOthersWrong)

/-- 'laws.FnExactLockAsk': WHATEVER THE INPUT: true; the input reads as it did. -/
def fnExactLockAskSpec : ChangeSpec := { name := "fnExactLockAsk", fn := fun _ => fun
  | [d1, d2, d3, d4] => { results := [.lit (.bool true)], args := [d1, d2, d3, d4] }
  | _ => none }
def fnExactLockAskRow : OpenClaim := { program := "ytelijknekfipfaa", sum := "5d86ed3ca6e259ab7cfdf0e1632c1583199eca8d65d510c8fa0a985af543bfc4", func := "loop.example/s02544/laws.FnExactLockAsk", spec := "fnExactLockAsk", unfollowed := true, recurses := true, apart := false }
def FnExactLockAskSaid : Prop := fnExactLockAskRow.holds Try.pinned (OpenSpec.ofChange fnExactLockAskSpec)

/-- ITS FALSE NEIGHBOUR: 'it returns false'. Refute it at one input. -/
def fnExactLockAskWrong : ChangeSpec := { name := "fnExactLockAsk", fn := fun _ => fun
  | [d1, d2, d3, d4] => { results := [.lit (.bool false)], args := [d1, d2, d3, d4] }
  | _ => none }
def FnExactLockAskWrongFalsely : Prop := fnExactLockAskRow.holds Try.pinned (OpenSpec.ofChange fnExactLockAskWrong)

/-- 'laws.FnExactLockFree': WHATEVER THE INPUT: true; the input reads as it did. -/
def fnExactLockFreeSpec : ChangeSpec := { name := "fnExactLockFree", fn := fun _ => fun
  | [d1, d2] => { results := [.lit (.bool true)], args := [d1, d2] }
  | _ => none }
def fnExactLockFreeRow : OpenClaim := { program := "ytelijknekfipfaa", sum := "5d86ed3ca6e259ab7cfdf0e1632c1583199eca8d65d510c8fa0a985af543bfc4", func := "loop.example/s02544/laws.FnExactLockFree", spec := "fnExactLockFree", unfollowed := true, recurses := true, apart := false }
def FnExactLockFreeSaid : Prop := fnExactLockFreeRow.holds Try.pinned (OpenSpec.ofChange fnExactLockFreeSpec)

/-- ITS FALSE NEIGHBOUR: 'it returns false'. Refute it at one input. -/
def fnExactLockFreeWrong : ChangeSpec := { name := "fnExactLockFree", fn := fun _ => fun
  | [d1, d2] => { results := [.lit (.bool false)], args := [d1, d2] }
  | _ => none }
def FnExactLockFreeWrongFalsely : Prop := fnExactLockFreeRow.holds Try.pinned (OpenSpec.ofChange fnExactLockFreeWrong)

/- THE SECOND FORM. 'bulk': how many values and letters a reading holds, each counted each time it is reached (what is shared counts as often as it is met; a slice's spare places count too). A statement '..UptoSaid' is the law's where the arguments, and the package variables that the reading takes, are together of bulk at most 1048576: NARROWER than '..Said'. Prove '..Said' where nothing that the law and all that it calls make is longer than what came in: it says more and counts as full. Else prove '..UptoSaid'. A law counts once. -/
mutual
def uptoBulk {H : Type} : DataW H → Nat
  | .lit (.string bytes) => bytes.length + 1
  | .lit _ => 1
  | .nil => 1
  | .ptr d => uptoBulk d + 1
  | .slice elems spare => uptoBulkAll elems + uptoBulkAll spare + 1
  | .agg parts => uptoBulkAll parts + 1
  | .iface _ d => uptoBulk d + 1
  | .map entries => uptoBulkEntries entries + 1
  | .held _ => 1
def uptoBulkAll {H : Type} : List (DataW H) → Nat
  | [] => 0
  | d :: r => uptoBulk d + uptoBulkAll r
def uptoBulkEntries {H : Type} : List (Lit × DataW H) → Nat
  | [] => 0
  | x :: r => uptoBulkEntry x + uptoBulkEntries r
def uptoBulkEntry {H : Type} : Lit × DataW H → Nat
  | (.string bytes, d) => bytes.length + uptoBulk d + 1
  | (_, d) => uptoBulk d + 1
 end
def uptoSmall : (H : Type) → List (DataW H) → Bool := fun _ ds => decide (uptoBulkAll ds ≤ 1048576)
def OpenSpec.upto (s : _root_.Go.ChangeSpec) : _root_.Go.OpenSpec := { _root_.Go.OpenSpec.ofChange s with cond := some uptoSmall }

/-- 'laws.FnLocks', WHERE WHAT IT READS IS OF BULK AT MOST 1048576: true; the input reads as it did. -/
def fnLocksUptoRow : OpenClaim := { program := "ytelijknekfipfaa", sum := "5d86ed3ca6e259ab7cfdf0e1632c1583199eca8d65d510c8fa0a985af543bfc4", func := "loop.example/s02544/laws.FnLocks", spec := "fnLocks", unfollowed := true, recurses := true, apart := false, narrowed := true }
def FnLocksUptoSaid : Prop := fnLocksUptoRow.holds Try.pinned (OpenSpec.upto fnLocksSpec)

/-- 'laws.FnExactLocksFault', WHERE WHAT IT READS IS OF BULK AT MOST 1048576: true; the input reads as it did. -/
def fnExactLocksFaultUptoRow : OpenClaim := { program := "ytelijknekfipfaa", sum := "5d86ed3ca6e259ab7cfdf0e1632c1583199eca8d65d510c8fa0a985af543bfc4", func := "loop.example/s02544/laws.FnExactLocksFault", spec := "fnExactLocksFault", unfollowed := true, recurses := true, apart := false, narrowed := true }
def FnExactLocksFaultUptoSaid : Prop := fnExactLocksFaultUptoRow.holds Try.pinned (OpenSpec.upto fnExactLocksFaultSpec)

/-- 'laws.FnExactLockMode', WHERE WHAT IT READS IS OF BULK AT MOST 1048576: true; the input reads as it did. -/
def fnExactLockModeUptoRow : OpenClaim := { program := "ytelijknekfipfaa", sum := "5d86ed3ca6e259ab7cfdf0e1632c1583199eca8d65d510c8fa0a985af543bfc4", func := "loop.example/s02544/laws.FnExactLockMode", spec := "fnExactLockMode", unfollowed := true, recurses := true, apart := false, narrowed := true }
def FnExactLockModeUptoSaid : Prop := fnExactLockModeUptoRow.holds Try.pinned (OpenSpec.upto fnExactLockModeSpec)

/-- 'laws.FnExactLockOthers', WHERE WHAT IT READS IS OF BULK AT MOST 1048576: true; the input reads as it did. -/
def fnExactLockOthersUptoRow : OpenClaim := { program := "ytelijknekfipfaa", sum := "5d86ed3ca6e259ab7cfdf0e1632c1583199eca8d65d510c8fa0a985af543bfc4", func := "loop.example/s02544/laws.FnExactLockOthers", spec := "fnExactLockOthers", unfollowed := true, recurses := true, apart := false, narrowed := true }
def FnExactLockOthersUptoSaid : Prop := fnExactLockOthersUptoRow.holds Try.pinned (OpenSpec.upto fnExactLockOthersSpec)

/-- 'laws.FnExactLockAsk', WHERE WHAT IT READS IS OF BULK AT MOST 1048576: true; the input reads as it did. -/
def fnExactLockAskUptoRow : OpenClaim := { program := "ytelijknekfipfaa", sum := "5d86ed3ca6e259ab7cfdf0e1632c1583199eca8d65d510c8fa0a985af543bfc4", func := "loop.example/s02544/laws.FnExactLockAsk", spec := "fnExactLockAsk", unfollowed := true, recurses := true, apart := false, narrowed := true }
def FnExactLockAskUptoSaid : Prop := fnExactLockAskUptoRow.holds Try.pinned (OpenSpec.upto fnExactLockAskSpec)

/-- 'laws.FnExactLockFree', WHERE WHAT IT READS IS OF BULK AT MOST 1048576: true; the input reads as it did. -/
def fnExactLockFreeUptoRow : OpenClaim := { program := "ytelijknekfipfaa", sum := "5d86ed3ca6e259ab7cfdf0e1632c1583199eca8d65d510c8fa0a985af543bfc4", func := "loop.example/s02544/laws.FnExactLockFree", spec := "fnExactLockFree", unfollowed := true, recurses := true, apart := false, narrowed := true }
def FnExactLockFreeUptoSaid : Prop := fnExactLockFreeUptoRow.holds Try.pinned (OpenSpec.upto fnExactLockFreeSpec)

end Rows
end Go.Proofs.Ytelijknekfipfaa
