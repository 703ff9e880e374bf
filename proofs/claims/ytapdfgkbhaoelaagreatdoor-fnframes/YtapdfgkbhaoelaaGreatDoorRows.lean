/-
  NARROWER THAN 'FOR EVERY INPUT', by the rows' own cells (each row's printed sentence says how): FnFrames: ifaces, laid.
  DERIVED. THE GIVEN ROWS OF THIS SEAT. 1 by the template 'for every input the law returns true; each argument reads behind the call as it read before'; 0 by the template 'total and deterministic' (their statements: YtapdfgkbhaoelaaGreatDoorTotals.lean).
  GIVEN WITH THE SEED: the statements are not yours to turn. If you find one false, say at which input.
  Laid BY PROGRAM, IN A SANDBOX (cutbox-rows.mjs): the forced cells as the released guide's own fill.sh prints them over the translation 9753b087909c47cd… (all of the seat's roots in one cut). By AI agents, Wed Nov 11 2026. No macro, syntax, notation, axiom, sorry.
-/
import Derived.Test.YtapdfgkbhaoelaaGreatDoorChecked
import GoSem.Claim
import GoSem.ClaimJoined
import GoSem.ClaimMapViews
import Derived.JoinedTies
import Derived.KernelRfl
namespace Go.Proofs.YtapdfgkbhaoelaaGreatDoor
/- THE CELL 'sum', in the pinned program and in every row, IS THE sha256 OF THE DUMP (.gsa) THAT YtapdfgkbhaoelaaGreatDoorProg.lean LOADS. Nothing in Lean hashes anything: it is a label: what it is worth is what the hold of that sum in a sandbox is worth. -/
noncomputable def Tryz.pinned : Pinned := { name := "ytapdfgkbhaoelaagreatdoor", sum := "9753b087909c47cd2e254f0ae442835a3925203c92a3ebb77f3ff1d850ad986b", checked := Tryz.checked }
namespace Rows
def none {H : Type} : Left H := { results := [], args := [] }

/- WHAT THE LISTED PACKAGE-LEVEL VARIABLES READ AS WHEN THE CALL BEGINS. Each datum BY PROGRAM (the guide's laid-datum.mjs) off the statement by which the dump's own 'gosem.cut.vars' lays the variable. In a bare row this is a premise. The card (YtapdfgkbhaoelaaGreatDoorCards.lean) ties it to the program's text. -/
def laid_loop_example_s02544_impl_errMasterSeq {H : Type} : DataW H := .iface "*errors.errorString" (.ptr (.agg [.lit (.string [116, 104, 101, 32, 110, 117, 109, 98, 101, 114, 32, 111, 102, 32, 116, 104, 101, 32, 109, 97, 115, 116, 101, 114, 32, 105, 115, 32, 111, 117, 116, 32, 111, 102, 32, 105, 116, 115, 32, 98, 111, 117, 110, 100, 115])]))
def laid_loop_example_s02544_impl_errMasterEpoch {H : Type} : DataW H := .iface "*errors.errorString" (.ptr (.agg [.lit (.string [116, 104, 101, 32, 101, 112, 111, 99, 104, 32, 111, 102, 32, 116, 104, 101, 32, 109, 97, 115, 116, 101, 114, 32, 105, 115, 32, 111, 117, 116, 32, 111, 102, 32, 105, 116, 115, 32, 98, 111, 117, 110, 100, 115])]))
def laid_loop_example_s02544_impl_errMasterPlaces {H : Type} : DataW H := .iface "*errors.errorString" (.ptr (.agg [.lit (.string [116, 104, 101, 32, 112, 108, 97, 99, 101, 115, 32, 111, 102, 32, 116, 104, 101, 32, 109, 97, 115, 116, 101, 114, 32, 97, 114, 101, 32, 111, 117, 116, 32, 111, 102, 32, 116, 104, 101, 105, 114, 32, 111, 114, 100, 101, 114])]))
def laid_loop_example_s02544_impl_errMasterLength {H : Type} : DataW H := .iface "*errors.errorString" (.ptr (.agg [.lit (.string [116, 104, 101, 32, 98, 121, 116, 101, 115, 32, 97, 114, 101, 32, 110, 111, 32, 119, 104, 111, 108, 101, 32, 115, 101, 99, 116, 111, 114])]))
def laid_loop_example_s02544_impl_errMasterForm {H : Type} : DataW H := .iface "*errors.errorString" (.ptr (.agg [.lit (.string [116, 104, 101, 32, 115, 101, 99, 116, 111, 114, 32, 105, 115, 32, 110, 111, 116, 32, 116, 104, 101, 32, 111, 110, 101, 32, 116, 104, 97, 116, 32, 105, 116, 115, 32, 110, 117, 109, 98, 101, 114, 115, 32, 109, 97, 107, 101])]))

/-- 'laws.FnFrames': WHATEVER THE INPUT: true; the input reads as it did. -/
def fnFramesSpec : ChangeSpec := { name := "fnFrames", vars := ["loop.example/s02544/impl.errMasterSeq", "loop.example/s02544/impl.errMasterEpoch", "loop.example/s02544/impl.errMasterPlaces", "loop.example/s02544/impl.errMasterLength", "loop.example/s02544/impl.errMasterForm"], fn := fun _ => fun
  | [d1, d2, g1, g2, g3, g4, g5] => { results := [.lit (.bool true)], args := [d1, d2], vars := [g1, g2, g3, g4, g5] }
  | _ => none }
def fnFramesRow : OpenClaim := { program := "ytapdfgkbhaoelaagreatdoor", sum := "9753b087909c47cd2e254f0ae442835a3925203c92a3ebb77f3ff1d850ad986b", func := "loop.example/s02544/laws.FnFrames", spec := "fnFrames", inPlace := ["sync/atomic.LoadUint32", "(*internal/sync.Mutex).Lock", "internal/race.Disable", "sync/atomic.CompareAndSwapInt32", "internal/race.Enable", "internal/race.Acquire", "(*internal/sync.Mutex).lockSlow", "internal/sync.runtime_canSpin", "internal/sync.runtime_doSpin", "internal/sync.throw", "internal/sync.runtime_nanotime", "internal/sync.runtime_SemacquireMutex", "sync/atomic.AddInt32", "(*internal/sync.Mutex).Unlock", "internal/race.ReleaseMerge", "(*internal/sync.Mutex).unlockSlow", "internal/sync.fatal", "internal/sync.runtime_Semrelease", "sync/atomic.StoreUint32"], unfollowed := true, recurses := true, named := ["loop.example/s02544/impl.errMasterSeq", "loop.example/s02544/impl.errMasterEpoch", "loop.example/s02544/impl.errMasterPlaces", "loop.example/s02544/impl.errMasterLength", "loop.example/s02544/impl.errMasterForm"], ifaces := true, apart := false, laid := [("loop.example/s02544/impl.errMasterSeq", laid_loop_example_s02544_impl_errMasterSeq), ("loop.example/s02544/impl.errMasterEpoch", laid_loop_example_s02544_impl_errMasterEpoch), ("loop.example/s02544/impl.errMasterPlaces", laid_loop_example_s02544_impl_errMasterPlaces), ("loop.example/s02544/impl.errMasterLength", laid_loop_example_s02544_impl_errMasterLength), ("loop.example/s02544/impl.errMasterForm", laid_loop_example_s02544_impl_errMasterForm)] }
def FnFramesSaid : Prop := fnFramesRow.holds Tryz.pinned (OpenSpec.ofChange fnFramesSpec)

/-- ITS FALSE NEIGHBOUR: 'it returns false'. Refute it at one input. -/
def fnFramesWrong : ChangeSpec := { name := "fnFrames", vars := ["loop.example/s02544/impl.errMasterSeq", "loop.example/s02544/impl.errMasterEpoch", "loop.example/s02544/impl.errMasterPlaces", "loop.example/s02544/impl.errMasterLength", "loop.example/s02544/impl.errMasterForm"], fn := fun _ => fun
  | [d1, d2, g1, g2, g3, g4, g5] => { results := [.lit (.bool false)], args := [d1, d2], vars := [g1, g2, g3, g4, g5] }
  | _ => none }
def FnFramesWrongFalsely : Prop := fnFramesRow.holds Tryz.pinned (OpenSpec.ofChange fnFramesWrong)

/- THE SECOND FORM. 'bulk': how many values and letters a reading holds, each counted each time it is reached (what is shared counts as often as it is met; a slice's spare places count too). A statement '..UptoSaid' is the law's where the arguments, and the package variables that the reading takes, are together of bulk at most 1048576: NARROWER than '..Said'. Prove '..Said' where nothing that the law and all that it calls make is longer than what came in: it says more and counts as full. Else prove '..UptoSaid'. A law counts once. -/
mutual
def uptoBulk {H : Type} : DataW H → Nat
  | .lit (.string bytes) => bytes.length + 1
  | .lit _ => 1
  | .nil => 1
  | .ptr d => uptoBulk d + 1
  | .slice elems spare => uptoBulkAll elems + uptoBulkAll spare + 1
  | .agg parts => uptoBulkAll parts + 1
  | .iface _ d => uptoBulk d + 1
  | .map entries => uptoBulkEntries entries + 1
  | .held _ => 1
def uptoBulkAll {H : Type} : List (DataW H) → Nat
  | [] => 0
  | d :: r => uptoBulk d + uptoBulkAll r
def uptoBulkEntries {H : Type} : List (Lit × DataW H) → Nat
  | [] => 0
  | x :: r => uptoBulkEntry x + uptoBulkEntries r
def uptoBulkEntry {H : Type} : Lit × DataW H → Nat
  | (.string bytes, d) => bytes.length + uptoBulk d + 1
  | (_, d) => uptoBulk d + 1
 end
def uptoSmall : (H : Type) → List (DataW H) → Bool := fun _ ds => decide (uptoBulkAll ds ≤ 1048576)
def OpenSpec.upto (s : _root_.Go.ChangeSpec) : _root_.Go.OpenSpec := { _root_.Go.OpenSpec.ofChange s with cond := some uptoSmall }

/-- 'laws.FnFrames', WHERE WHAT IT READS IS OF BULK AT MOST 1048576: true; the input reads as it did. -/
def fnFramesUptoRow : OpenClaim := { program := "ytapdfgkbhaoelaagreatdoor", sum := "9753b087909c47cd2e254f0ae442835a3925203c92a3ebb77f3ff1d850ad986b", func := "loop.example/s02544/laws.FnFrames", spec := "fnFrames", inPlace := ["sync/atomic.LoadUint32", "(*internal/sync.Mutex).Lock", "internal/race.Disable", "sync/atomic.CompareAndSwapInt32", "internal/race.Enable", "internal/race.Acquire", "(*internal/sync.Mutex).lockSlow", "internal/sync.runtime_canSpin", "internal/sync.runtime_doSpin", "internal/sync.throw", "internal/sync.runtime_nanotime", "internal/sync.runtime_SemacquireMutex", "sync/atomic.AddInt32", "(*internal/sync.Mutex).Unlock", "internal/race.ReleaseMerge", "(*internal/sync.Mutex).unlockSlow", "internal/sync.fatal", "internal/sync.runtime_Semrelease", "sync/atomic.StoreUint32"], unfollowed := true, recurses := true, named := ["loop.example/s02544/impl.errMasterSeq", "loop.example/s02544/impl.errMasterEpoch", "loop.example/s02544/impl.errMasterPlaces", "loop.example/s02544/impl.errMasterLength", "loop.example/s02544/impl.errMasterForm"], ifaces := true, apart := false, laid := [("loop.example/s02544/impl.errMasterSeq", laid_loop_example_s02544_impl_errMasterSeq), ("loop.example/s02544/impl.errMasterEpoch", laid_loop_example_s02544_impl_errMasterEpoch), ("loop.example/s02544/impl.errMasterPlaces", laid_loop_example_s02544_impl_errMasterPlaces), ("loop.example/s02544/impl.errMasterLength", laid_loop_example_s02544_impl_errMasterLength), ("loop.example/s02544/impl.errMasterForm", laid_loop_example_s02544_impl_errMasterForm)], narrowed := true }
def FnFramesUptoSaid : Prop := fnFramesUptoRow.holds Tryz.pinned (OpenSpec.upto fnFramesSpec)

end Rows
end Go.Proofs.YtapdfgkbhaoelaaGreatDoor
