/-
  NARROWER THAN 'FOR EVERY INPUT', by the rows' own cells (each row's printed sentence says how): FnMasters: ifaces, laid · FnExactDecodeMaster: ifaces, laid · FnExactEncodeMaster: ifaces, laid · FnExactMasterFault: ifaces, laid · FnExactMasterOps: ifaces, laid · FnExactPickMaster: ifaces, laid.
  DERIVED. THE GIVEN ROWS OF THIS SEAT. 6 by the template 'for every input the law returns true; each argument reads behind the call as it read before'; 0 by the template 'total and deterministic' (their statements: YtnkollbhicmdhaaDoorTotals.lean).
  GIVEN WITH THE SEED: the statements are not yours to turn. If you find one false, say at which input.
  Laid BY PROGRAM, IN A SANDBOX (cutbox-rows.mjs): the forced cells as the released guide's own fill.sh prints them over the translation f0f8b82220a78473… (all of the seat's roots in one cut). By AI agents, Wed Nov 11 2026. No macro, syntax, notation, axiom, sorry.
-/
import Derived.Test.YtnkollbhicmdhaaDoorChecked
import GoSem.Claim
import GoSem.ClaimJoined
import GoSem.ClaimMapViews
import Derived.JoinedTies
import Derived.KernelRfl
namespace Go.Proofs.YtnkollbhicmdhaaDoor
/- THE CELL 'sum', in the pinned program and in every row, IS THE sha256 OF THE DUMP (.gsa) THAT YtnkollbhicmdhaaDoorProg.lean LOADS. Nothing in Lean hashes anything: it is a label: what it is worth is what the hold of that sum in a sandbox is worth. -/
noncomputable def Tryd.pinned : Pinned := { name := "ytnkollbhicmdhaadoor", sum := "f0f8b82220a784736d4fbab63729aba77453c2afed2f2035e5c0fb7445c892f7", checked := Tryd.checked }
namespace Rows
def none {H : Type} : Left H := { results := [], args := [] }

/- WHAT THE LISTED PACKAGE-LEVEL VARIABLES READ AS WHEN THE CALL BEGINS. Each datum BY PROGRAM (the guide's laid-datum.mjs) off the statement by which the dump's own 'gosem.cut.vars' lays the variable. In a bare row this is a premise. The card (YtnkollbhicmdhaaDoorCards.lean) ties it to the program's text. -/
def laid_loop_example_s02544_impl_errMasterSeq {H : Type} : DataW H := .iface "*errors.errorString" (.ptr (.agg [.lit (.string [116, 104, 101, 32, 110, 117, 109, 98, 101, 114, 32, 111, 102, 32, 116, 104, 101, 32, 109, 97, 115, 116, 101, 114, 32, 105, 115, 32, 111, 117, 116, 32, 111, 102, 32, 105, 116, 115, 32, 98, 111, 117, 110, 100, 115])]))
def laid_loop_example_s02544_impl_errMasterEpoch {H : Type} : DataW H := .iface "*errors.errorString" (.ptr (.agg [.lit (.string [116, 104, 101, 32, 101, 112, 111, 99, 104, 32, 111, 102, 32, 116, 104, 101, 32, 109, 97, 115, 116, 101, 114, 32, 105, 115, 32, 111, 117, 116, 32, 111, 102, 32, 105, 116, 115, 32, 98, 111, 117, 110, 100, 115])]))
def laid_loop_example_s02544_impl_errMasterPlaces {H : Type} : DataW H := .iface "*errors.errorString" (.ptr (.agg [.lit (.string [116, 104, 101, 32, 112, 108, 97, 99, 101, 115, 32, 111, 102, 32, 116, 104, 101, 32, 109, 97, 115, 116, 101, 114, 32, 97, 114, 101, 32, 111, 117, 116, 32, 111, 102, 32, 116, 104, 101, 105, 114, 32, 111, 114, 100, 101, 114])]))
def laid_loop_example_s02544_impl_errMasterLength {H : Type} : DataW H := .iface "*errors.errorString" (.ptr (.agg [.lit (.string [116, 104, 101, 32, 98, 121, 116, 101, 115, 32, 97, 114, 101, 32, 110, 111, 32, 119, 104, 111, 108, 101, 32, 115, 101, 99, 116, 111, 114])]))
def laid_loop_example_s02544_impl_errMasterForm {H : Type} : DataW H := .iface "*errors.errorString" (.ptr (.agg [.lit (.string [116, 104, 101, 32, 115, 101, 99, 116, 111, 114, 32, 105, 115, 32, 110, 111, 116, 32, 116, 104, 101, 32, 111, 110, 101, 32, 116, 104, 97, 116, 32, 105, 116, 115, 32, 110, 117, 109, 98, 101, 114, 115, 32, 109, 97, 107, 101])]))

/-- 'laws.FnMasters': WHATEVER THE INPUT: true; the input reads as it did. -/
def fnMastersSpec : ChangeSpec := { name := "fnMasters", vars := ["loop.example/s02544/impl.errMasterLength", "loop.example/s02544/impl.errMasterForm", "loop.example/s02544/impl.errMasterSeq", "loop.example/s02544/impl.errMasterEpoch", "loop.example/s02544/impl.errMasterPlaces"], fn := fun _ => fun
  | [d1, d2, g1, g2, g3, g4, g5] => { results := [.lit (.bool true)], args := [d1, d2], vars := [g1, g2, g3, g4, g5] }
  | _ => none }
def fnMastersRow : OpenClaim := { program := "ytnkollbhicmdhaadoor", sum := "f0f8b82220a784736d4fbab63729aba77453c2afed2f2035e5c0fb7445c892f7", func := "loop.example/s02544/laws.FnMasters", spec := "fnMasters", inPlace := ["sync/atomic.LoadUint32", "(*internal/sync.Mutex).Lock", "internal/race.Disable", "sync/atomic.CompareAndSwapInt32", "internal/race.Enable", "internal/race.Acquire", "(*internal/sync.Mutex).lockSlow", "internal/sync.runtime_canSpin", "internal/sync.runtime_doSpin", "internal/sync.throw", "internal/sync.runtime_nanotime", "internal/sync.runtime_SemacquireMutex", "sync/atomic.AddInt32", "(*internal/sync.Mutex).Unlock", "internal/race.ReleaseMerge", "(*internal/sync.Mutex).unlockSlow", "internal/sync.fatal", "internal/sync.runtime_Semrelease", "sync/atomic.StoreUint32"], unfollowed := true, recurses := true, named := ["loop.example/s02544/impl.errMasterLength", "loop.example/s02544/impl.errMasterForm", "loop.example/s02544/impl.errMasterSeq", "loop.example/s02544/impl.errMasterEpoch", "loop.example/s02544/impl.errMasterPlaces"], ifaces := true, apart := false, laid := [("loop.example/s02544/impl.errMasterSeq", laid_loop_example_s02544_impl_errMasterSeq), ("loop.example/s02544/impl.errMasterEpoch", laid_loop_example_s02544_impl_errMasterEpoch), ("loop.example/s02544/impl.errMasterPlaces", laid_loop_example_s02544_impl_errMasterPlaces), ("loop.example/s02544/impl.errMasterLength", laid_loop_example_s02544_impl_errMasterLength), ("loop.example/s02544/impl.errMasterForm", laid_loop_example_s02544_impl_errMasterForm)] }
def FnMastersSaid : Prop := fnMastersRow.holds Tryd.pinned (OpenSpec.ofChange fnMastersSpec)

/-- ITS FALSE NEIGHBOUR: 'it returns false'. Refute it at one input. -/
def fnMastersWrong : ChangeSpec := { name := "fnMasters", vars := ["loop.example/s02544/impl.errMasterLength", "loop.example/s02544/impl.errMasterForm", "loop.example/s02544/impl.errMasterSeq", "loop.example/s02544/impl.errMasterEpoch", "loop.example/s02544/impl.errMasterPlaces"], fn := fun _ => fun
  | [d1, d2, g1, g2, g3, g4, g5] => { results := [.lit (.bool false)], args := [d1, d2], vars := [g1, g2, g3, g4, g5] }
  | _ => none }
def FnMastersWrongFalsely : Prop := fnMastersRow.holds Tryd.pinned (OpenSpec.ofChange fnMastersWrong)

/-- 'laws.FnExactDecodeMaster': WHATEVER THE INPUT: true; the input reads as it did. -/
def fnExactDecodeMasterSpec : ChangeSpec := { name := "fnExactDecodeMaster", vars := ["loop.example/s02544/impl.errMasterLength", "loop.example/s02544/impl.errMasterForm", "loop.example/s02544/impl.errMasterSeq", "loop.example/s02544/impl.errMasterEpoch", "loop.example/s02544/impl.errMasterPlaces"], fn := fun _ => fun
  | [d, g1, g2, g3, g4, g5] => { results := [.lit (.bool true)], args := [d], vars := [g1, g2, g3, g4, g5] }
  | _ => none }
def fnExactDecodeMasterRow : OpenClaim := { program := "ytnkollbhicmdhaadoor", sum := "f0f8b82220a784736d4fbab63729aba77453c2afed2f2035e5c0fb7445c892f7", func := "loop.example/s02544/laws.FnExactDecodeMaster", spec := "fnExactDecodeMaster", inPlace := ["sync/atomic.LoadUint32", "(*internal/sync.Mutex).Lock", "internal/race.Disable", "sync/atomic.CompareAndSwapInt32", "internal/race.Enable", "internal/race.Acquire", "(*internal/sync.Mutex).lockSlow", "internal/sync.runtime_canSpin", "internal/sync.runtime_doSpin", "internal/sync.throw", "internal/sync.runtime_nanotime", "internal/sync.runtime_SemacquireMutex", "sync/atomic.AddInt32", "(*internal/sync.Mutex).Unlock", "internal/race.ReleaseMerge", "(*internal/sync.Mutex).unlockSlow", "internal/sync.fatal", "internal/sync.runtime_Semrelease", "sync/atomic.StoreUint32"], unfollowed := true, recurses := true, named := ["loop.example/s02544/impl.errMasterLength", "loop.example/s02544/impl.errMasterForm", "loop.example/s02544/impl.errMasterSeq", "loop.example/s02544/impl.errMasterEpoch", "loop.example/s02544/impl.errMasterPlaces"], ifaces := true, apart := false, laid := [("loop.example/s02544/impl.errMasterSeq", laid_loop_example_s02544_impl_errMasterSeq), ("loop.example/s02544/impl.errMasterEpoch", laid_loop_example_s02544_impl_errMasterEpoch), ("loop.example/s02544/impl.errMasterPlaces", laid_loop_example_s02544_impl_errMasterPlaces), ("loop.example/s02544/impl.errMasterLength", laid_loop_example_s02544_impl_errMasterLength), ("loop.example/s02544/impl.errMasterForm", laid_loop_example_s02544_impl_errMasterForm)] }
def FnExactDecodeMasterSaid : Prop := fnExactDecodeMasterRow.holds Tryd.pinned (OpenSpec.ofChange fnExactDecodeMasterSpec)

/-- ITS FALSE NEIGHBOUR: 'it returns false'. Refute it at one input. -/
def fnExactDecodeMasterWrong : ChangeSpec := { name := "fnExactDecodeMaster", vars := ["loop.example/s02544/impl.errMasterLength", "loop.example/s02544/impl.errMasterForm", "loop.example/s02544/impl.errMasterSeq", "loop.example/s02544/impl.errMasterEpoch", "loop.example/s02544/impl.errMasterPlaces"], fn := fun _ => fun
  | [d, g1, g2, g3, g4, g5] => { results := [.lit (.bool false)], args := [d], vars := [g1, g2, g3, g4, g5] }
  | _ => none }
def FnExactDecodeMasterWrongFalsely : Prop := fnExactDecodeMasterRow.holds Tryd.pinned (OpenSpec.ofChange fnExactDecodeMasterWrong)

/-- 'laws.FnExactEncodeMaster': WHATEVER THE INPUT: true; the input reads as it did. -/
def fnExactEncodeMasterSpec : ChangeSpec := { name := "fnExactEncodeMaster", vars := ["loop.example/s02544/impl.errMasterSeq", "loop.example/s02544/impl.errMasterEpoch", "loop.example/s02544/impl.errMasterPlaces"], fn := fun _ => fun
  | [d, g1, g2, g3] => { results := [.lit (.bool true)], args := [d], vars := [g1, g2, g3] }
  | _ => none }
def fnExactEncodeMasterRow : OpenClaim := { program := "ytnkollbhicmdhaadoor", sum := "f0f8b82220a784736d4fbab63729aba77453c2afed2f2035e5c0fb7445c892f7", func := "loop.example/s02544/laws.FnExactEncodeMaster", spec := "fnExactEncodeMaster", inPlace := ["sync/atomic.LoadUint32", "(*internal/sync.Mutex).Lock", "internal/race.Disable", "sync/atomic.CompareAndSwapInt32", "internal/race.Enable", "internal/race.Acquire", "(*internal/sync.Mutex).lockSlow", "internal/sync.runtime_canSpin", "internal/sync.runtime_doSpin", "internal/sync.throw", "internal/sync.runtime_nanotime", "internal/sync.runtime_SemacquireMutex", "sync/atomic.AddInt32", "(*internal/sync.Mutex).Unlock", "internal/race.ReleaseMerge", "(*internal/sync.Mutex).unlockSlow", "internal/sync.fatal", "internal/sync.runtime_Semrelease", "sync/atomic.StoreUint32"], unfollowed := true, recurses := true, named := ["loop.example/s02544/impl.errMasterSeq", "loop.example/s02544/impl.errMasterEpoch", "loop.example/s02544/impl.errMasterPlaces"], ifaces := true, apart := false, laid := [("loop.example/s02544/impl.errMasterSeq", laid_loop_example_s02544_impl_errMasterSeq), ("loop.example/s02544/impl.errMasterEpoch", laid_loop_example_s02544_impl_errMasterEpoch), ("loop.example/s02544/impl.errMasterPlaces", laid_loop_example_s02544_impl_errMasterPlaces)] }
def FnExactEncodeMasterSaid : Prop := fnExactEncodeMasterRow.holds Tryd.pinned (OpenSpec.ofChange fnExactEncodeMasterSpec)

/-- ITS FALSE NEIGHBOUR: 'it returns false'. Refute it at one input. -/
def fnExactEncodeMasterWrong : ChangeSpec := { name := "fnExactEncodeMaster", vars := ["loop.example/s02544/impl.errMasterSeq", "loop.example/s02544/impl.errMasterEpoch", "loop.example/s02544/impl.errMasterPlaces"], fn := fun _ => fun
  | [d, g1, g2, g3] => { results := [.lit (.bool false)], args := [d], vars := [g1, g2, g3] }
  | _ => none }
def FnExactEncodeMasterWrongFalsely : Prop := fnExactEncodeMasterRow.holds Tryd.pinned (OpenSpec.ofChange fnExactEncodeMasterWrong)

/-- 'laws.FnExactMasterFault': WHATEVER THE INPUT: true; the input reads as it did. -/
def fnExactMasterFaultSpec : ChangeSpec := { name := "fnExactMasterFault", vars := ["loop.example/s02544/impl.errMasterSeq", "loop.example/s02544/impl.errMasterEpoch", "loop.example/s02544/impl.errMasterPlaces"], fn := fun _ => fun
  | [d, g1, g2, g3] => { results := [.lit (.bool true)], args := [d], vars := [g1, g2, g3] }
  | _ => none }
def fnExactMasterFaultRow : OpenClaim := { program := "ytnkollbhicmdhaadoor", sum := "f0f8b82220a784736d4fbab63729aba77453c2afed2f2035e5c0fb7445c892f7", func := "loop.example/s02544/laws.FnExactMasterFault", spec := "fnExactMasterFault", inPlace := ["internal/reflectlite.TypeOf"], unfollowed := true, recurses := true, named := ["loop.example/s02544/impl.errMasterSeq", "loop.example/s02544/impl.errMasterEpoch", "loop.example/s02544/impl.errMasterPlaces"], ifaces := true, apart := false, laid := [("loop.example/s02544/impl.errMasterSeq", laid_loop_example_s02544_impl_errMasterSeq), ("loop.example/s02544/impl.errMasterEpoch", laid_loop_example_s02544_impl_errMasterEpoch), ("loop.example/s02544/impl.errMasterPlaces", laid_loop_example_s02544_impl_errMasterPlaces)] }
def FnExactMasterFaultSaid : Prop := fnExactMasterFaultRow.holds Tryd.pinned (OpenSpec.ofChange fnExactMasterFaultSpec)

/-- ITS FALSE NEIGHBOUR: 'it returns false'. Refute it at one input. -/
def fnExactMasterFaultWrong : ChangeSpec := { name := "fnExactMasterFault", vars := ["loop.example/s02544/impl.errMasterSeq", "loop.example/s02544/impl.errMasterEpoch", "loop.example/s02544/impl.errMasterPlaces"], fn := fun _ => fun
  | [d, g1, g2, g3] => { results := [.lit (.bool false)], args := [d], vars := [g1, g2, g3] }
  | _ => none }
def FnExactMasterFaultWrongFalsely : Prop := fnExactMasterFaultRow.holds Tryd.pinned (OpenSpec.ofChange fnExactMasterFaultWrong)

/-- 'laws.FnExactMasterOps': WHATEVER THE INPUT: true; the input reads as it did. -/
def fnExactMasterOpsSpec : ChangeSpec := { name := "fnExactMasterOps", vars := ["loop.example/s02544/impl.errMasterSeq", "loop.example/s02544/impl.errMasterEpoch", "loop.example/s02544/impl.errMasterPlaces"], fn := fun _ => fun
  | [d1, d2, g1, g2, g3] => { results := [.lit (.bool true)], args := [d1, d2], vars := [g1, g2, g3] }
  | _ => none }
def fnExactMasterOpsRow : OpenClaim := { program := "ytnkollbhicmdhaadoor", sum := "f0f8b82220a784736d4fbab63729aba77453c2afed2f2035e5c0fb7445c892f7", func := "loop.example/s02544/laws.FnExactMasterOps", spec := "fnExactMasterOps", inPlace := ["sync/atomic.LoadUint32", "(*internal/sync.Mutex).Lock", "internal/race.Disable", "sync/atomic.CompareAndSwapInt32", "internal/race.Enable", "internal/race.Acquire", "(*internal/sync.Mutex).lockSlow", "internal/sync.runtime_canSpin", "internal/sync.runtime_doSpin", "internal/sync.throw", "internal/sync.runtime_nanotime", "internal/sync.runtime_SemacquireMutex", "sync/atomic.AddInt32", "(*internal/sync.Mutex).Unlock", "internal/race.ReleaseMerge", "(*internal/sync.Mutex).unlockSlow", "internal/sync.fatal", "internal/sync.runtime_Semrelease", "sync/atomic.StoreUint32"], unfollowed := true, recurses := true, named := ["loop.example/s02544/impl.errMasterSeq", "loop.example/s02544/impl.errMasterEpoch", "loop.example/s02544/impl.errMasterPlaces"], ifaces := true, apart := false, laid := [("loop.example/s02544/impl.errMasterSeq", laid_loop_example_s02544_impl_errMasterSeq), ("loop.example/s02544/impl.errMasterEpoch", laid_loop_example_s02544_impl_errMasterEpoch), ("loop.example/s02544/impl.errMasterPlaces", laid_loop_example_s02544_impl_errMasterPlaces)] }
def FnExactMasterOpsSaid : Prop := fnExactMasterOpsRow.holds Tryd.pinned (OpenSpec.ofChange fnExactMasterOpsSpec)

/-- ITS FALSE NEIGHBOUR: 'it returns false'. Refute it at one input. -/
def fnExactMasterOpsWrong : ChangeSpec := { name := "fnExactMasterOps", vars := ["loop.example/s02544/impl.errMasterSeq", "loop.example/s02544/impl.errMasterEpoch", "loop.example/s02544/impl.errMasterPlaces"], fn := fun _ => fun
  | [d1, d2, g1, g2, g3] => { results := [.lit (.bool false)], args := [d1, d2], vars := [g1, g2, g3] }
  | _ => none }
def FnExactMasterOpsWrongFalsely : Prop := fnExactMasterOpsRow.holds Tryd.pinned (OpenSpec.ofChange fnExactMasterOpsWrong)

/-- 'laws.FnExactPickMaster': WHATEVER THE INPUT: true; the input reads as it did. -/
def fnExactPickMasterSpec : ChangeSpec := { name := "fnExactPickMaster", vars := ["loop.example/s02544/impl.errMasterLength", "loop.example/s02544/impl.errMasterForm", "loop.example/s02544/impl.errMasterSeq", "loop.example/s02544/impl.errMasterEpoch", "loop.example/s02544/impl.errMasterPlaces"], fn := fun _ => fun
  | [d, g1, g2, g3, g4, g5] => { results := [.lit (.bool true)], args := [d], vars := [g1, g2, g3, g4, g5] }
  | _ => none }
def fnExactPickMasterRow : OpenClaim := { program := "ytnkollbhicmdhaadoor", sum := "f0f8b82220a784736d4fbab63729aba77453c2afed2f2035e5c0fb7445c892f7", func := "loop.example/s02544/laws.FnExactPickMaster", spec := "fnExactPickMaster", inPlace := ["sync/atomic.LoadUint32", "(*internal/sync.Mutex).Lock", "internal/race.Disable", "sync/atomic.CompareAndSwapInt32", "internal/race.Enable", "internal/race.Acquire", "(*internal/sync.Mutex).lockSlow", "internal/sync.runtime_canSpin", "internal/sync.runtime_doSpin", "internal/sync.throw", "internal/sync.runtime_nanotime", "internal/sync.runtime_SemacquireMutex", "sync/atomic.AddInt32", "(*internal/sync.Mutex).Unlock", "internal/race.ReleaseMerge", "(*internal/sync.Mutex).unlockSlow", "internal/sync.fatal", "internal/sync.runtime_Semrelease", "sync/atomic.StoreUint32"], unfollowed := true, recurses := true, named := ["loop.example/s02544/impl.errMasterLength", "loop.example/s02544/impl.errMasterForm", "loop.example/s02544/impl.errMasterSeq", "loop.example/s02544/impl.errMasterEpoch", "loop.example/s02544/impl.errMasterPlaces"], ifaces := true, apart := false, laid := [("loop.example/s02544/impl.errMasterSeq", laid_loop_example_s02544_impl_errMasterSeq), ("loop.example/s02544/impl.errMasterEpoch", laid_loop_example_s02544_impl_errMasterEpoch), ("loop.example/s02544/impl.errMasterPlaces", laid_loop_example_s02544_impl_errMasterPlaces), ("loop.example/s02544/impl.errMasterLength", laid_loop_example_s02544_impl_errMasterLength), ("loop.example/s02544/impl.errMasterForm", laid_loop_example_s02544_impl_errMasterForm)] }
def FnExactPickMasterSaid : Prop := fnExactPickMasterRow.holds Tryd.pinned (OpenSpec.ofChange fnExactPickMasterSpec)

/-- ITS FALSE NEIGHBOUR: 'it returns false'. Refute it at one input. -/
def fnExactPickMasterWrong : ChangeSpec := { name := "fnExactPickMaster", vars := ["loop.example/s02544/impl.errMasterLength", "loop.example/s02544/impl.errMasterForm", "loop.example/s02544/impl.errMasterSeq", "loop.example/s02544/impl.errMasterEpoch", "loop.example/s02544/impl.errMasterPlaces"], fn := fun _ => fun
  | [d, g1, g2, g3, g4, g5] => { results := [.lit (.bool false)], args := [d], vars := [g1, g2, g3, g4, g5] }
  | _ => none }
def FnExactPickMasterWrongFalsely : Prop := fnExactPickMasterRow.holds Tryd.pinned (OpenSpec.ofChange fnExactPickMasterWrong)

/- THE SECOND FORM. 'bulk': how many values and letters a reading holds, each counted each time it is reached (what is shared counts as often as it is met; a slice's spare places count too). A statement '..UptoSaid' is the law's where the arguments, and the package variables that the reading takes, are together of bulk at most 1048576: NARROWER than '..Said'. Prove '..Said' where nothing that the law and all that it calls make is longer than what came in: it says more and counts as full. Else prove '..UptoSaid'. A law counts once. -/
mutual
def uptoBulk {H : Type} : DataW H → Nat
  | .lit (.string bytes) => bytes.length + 1
  | .lit _ => 1
  | .nil => 1
  | .ptr d => uptoBulk d + 1
  | .slice elems spare => uptoBulkAll elems + uptoBulkAll spare + 1
  | .agg parts => uptoBulkAll parts + 1
  | .iface _ d => uptoBulk d + 1
  | .map entries => uptoBulkEntries entries + 1
  | .held _ => 1
def uptoBulkAll {H : Type} : List (DataW H) → Nat
  | [] => 0
  | d :: r => uptoBulk d + uptoBulkAll r
def uptoBulkEntries {H : Type} : List (Lit × DataW H) → Nat
  | [] => 0
  | x :: r => uptoBulkEntry x + uptoBulkEntries r
def uptoBulkEntry {H : Type} : Lit × DataW H → Nat
  | (.string bytes, d) => bytes.length + uptoBulk d + 1
  | (_, d) => uptoBulk d + 1
 end
def uptoSmall : (H : Type) → List (DataW H) → Bool := fun _ ds => decide (uptoBulkAll ds ≤ 1048576)
def OpenSpec.upto (s : _root_.Go.ChangeSpec) : _root_.Go.OpenSpec := { _root_.Go.OpenSpec.ofChange s with cond := some uptoSmall }

/-- 'laws.FnMasters', WHERE WHAT IT READS IS OF BULK AT MOST 1048576: true; the input reads as it did. -/
def fnMastersUptoRow : OpenClaim := { program := "ytnkollbhicmdhaadoor", sum := "f0f8b82220a784736d4fbab63729aba77453c2afed2f2035e5c0fb7445c892f7", func := "loop.example/s02544/laws.FnMasters", spec := "fnMasters", inPlace := ["sync/atomic.LoadUint32", "(*internal/sync.Mutex).Lock", "internal/race.Disable", "sync/atomic.CompareAndSwapInt32", "internal/race.Enable", "internal/race.Acquire", "(*internal/sync.Mutex).lockSlow", "internal/sync.runtime_canSpin", "internal/sync.runtime_doSpin", "internal/sync.throw", "internal/sync.runtime_nanotime", "internal/sync.runtime_SemacquireMutex", "sync/atomic.AddInt32", "(*internal/sync.Mutex).Unlock", "internal/race.ReleaseMerge", "(*internal/sync.Mutex).unlockSlow", "internal/sync.fatal", "internal/sync.runtime_Semrelease", "sync/atomic.StoreUint32"], unfollowed := true, recurses := true, named := ["loop.example/s02544/impl.errMasterLength", "loop.example/s02544/impl.errMasterForm", "loop.example/s02544/impl.errMasterSeq", "loop.example/s02544/impl.errMasterEpoch", "loop.example/s02544/impl.errMasterPlaces"], ifaces := true, apart := false, laid := [("loop.example/s02544/impl.errMasterSeq", laid_loop_example_s02544_impl_errMasterSeq), ("loop.example/s02544/impl.errMasterEpoch", laid_loop_example_s02544_impl_errMasterEpoch), ("loop.example/s02544/impl.errMasterPlaces", laid_loop_example_s02544_impl_errMasterPlaces), ("loop.example/s02544/impl.errMasterLength", laid_loop_example_s02544_impl_errMasterLength), ("loop.example/s02544/impl.errMasterForm", laid_loop_example_s02544_impl_errMasterForm)], narrowed := true }
def FnMastersUptoSaid : Prop := fnMastersUptoRow.holds Tryd.pinned (OpenSpec.upto fnMastersSpec)

/-- 'laws.FnExactDecodeMaster', WHERE WHAT IT READS IS OF BULK AT MOST 1048576: true; the input reads as it did. -/
def fnExactDecodeMasterUptoRow : OpenClaim := { program := "ytnkollbhicmdhaadoor", sum := "f0f8b82220a784736d4fbab63729aba77453c2afed2f2035e5c0fb7445c892f7", func := "loop.example/s02544/laws.FnExactDecodeMaster", spec := "fnExactDecodeMaster", inPlace := ["sync/atomic.LoadUint32", "(*internal/sync.Mutex).Lock", "internal/race.Disable", "sync/atomic.CompareAndSwapInt32", "internal/race.Enable", "internal/race.Acquire", "(*internal/sync.Mutex).lockSlow", "internal/sync.runtime_canSpin", "internal/sync.runtime_doSpin", "internal/sync.throw", "internal/sync.runtime_nanotime", "internal/sync.runtime_SemacquireMutex", "sync/atomic.AddInt32", "(*internal/sync.Mutex).Unlock", "internal/race.ReleaseMerge", "(*internal/sync.Mutex).unlockSlow", "internal/sync.fatal", "internal/sync.runtime_Semrelease", "sync/atomic.StoreUint32"], unfollowed := true, recurses := true, named := ["loop.example/s02544/impl.errMasterLength", "loop.example/s02544/impl.errMasterForm", "loop.example/s02544/impl.errMasterSeq", "loop.example/s02544/impl.errMasterEpoch", "loop.example/s02544/impl.errMasterPlaces"], ifaces := true, apart := false, laid := [("loop.example/s02544/impl.errMasterSeq", laid_loop_example_s02544_impl_errMasterSeq), ("loop.example/s02544/impl.errMasterEpoch", laid_loop_example_s02544_impl_errMasterEpoch), ("loop.example/s02544/impl.errMasterPlaces", laid_loop_example_s02544_impl_errMasterPlaces), ("loop.example/s02544/impl.errMasterLength", laid_loop_example_s02544_impl_errMasterLength), ("loop.example/s02544/impl.errMasterForm", laid_loop_example_s02544_impl_errMasterForm)], narrowed := true }
def FnExactDecodeMasterUptoSaid : Prop := fnExactDecodeMasterUptoRow.holds Tryd.pinned (OpenSpec.upto fnExactDecodeMasterSpec)

/-- 'laws.FnExactEncodeMaster', WHERE WHAT IT READS IS OF BULK AT MOST 1048576: true; the input reads as it did. -/
def fnExactEncodeMasterUptoRow : OpenClaim := { program := "ytnkollbhicmdhaadoor", sum := "f0f8b82220a784736d4fbab63729aba77453c2afed2f2035e5c0fb7445c892f7", func := "loop.example/s02544/laws.FnExactEncodeMaster", spec := "fnExactEncodeMaster", inPlace := ["sync/atomic.LoadUint32", "(*internal/sync.Mutex).Lock", "internal/race.Disable", "sync/atomic.CompareAndSwapInt32", "internal/race.Enable", "internal/race.Acquire", "(*internal/sync.Mutex).lockSlow", "internal/sync.runtime_canSpin", "internal/sync.runtime_doSpin", "internal/sync.throw", "internal/sync.runtime_nanotime", "internal/sync.runtime_SemacquireMutex", "sync/atomic.AddInt32", "(*internal/sync.Mutex).Unlock", "internal/race.ReleaseMerge", "(*internal/sync.Mutex).unlockSlow", "internal/sync.fatal", "internal/sync.runtime_Semrelease", "sync/atomic.StoreUint32"], unfollowed := true, recurses := true, named := ["loop.example/s02544/impl.errMasterSeq", "loop.example/s02544/impl.errMasterEpoch", "loop.example/s02544/impl.errMasterPlaces"], ifaces := true, apart := false, laid := [("loop.example/s02544/impl.errMasterSeq", laid_loop_example_s02544_impl_errMasterSeq), ("loop.example/s02544/impl.errMasterEpoch", laid_loop_example_s02544_impl_errMasterEpoch), ("loop.example/s02544/impl.errMasterPlaces", laid_loop_example_s02544_impl_errMasterPlaces)], narrowed := true }
def FnExactEncodeMasterUptoSaid : Prop := fnExactEncodeMasterUptoRow.holds Tryd.pinned (OpenSpec.upto fnExactEncodeMasterSpec)

/-- 'laws.FnExactMasterFault', WHERE WHAT IT READS IS OF BULK AT MOST 1048576: true; the input reads as it did. -/
def fnExactMasterFaultUptoRow : OpenClaim := { program := "ytnkollbhicmdhaadoor", sum := "f0f8b82220a784736d4fbab63729aba77453c2afed2f2035e5c0fb7445c892f7", func := "loop.example/s02544/laws.FnExactMasterFault", spec := "fnExactMasterFault", inPlace := ["internal/reflectlite.TypeOf"], unfollowed := true, recurses := true, named := ["loop.example/s02544/impl.errMasterSeq", "loop.example/s02544/impl.errMasterEpoch", "loop.example/s02544/impl.errMasterPlaces"], ifaces := true, apart := false, laid := [("loop.example/s02544/impl.errMasterSeq", laid_loop_example_s02544_impl_errMasterSeq), ("loop.example/s02544/impl.errMasterEpoch", laid_loop_example_s02544_impl_errMasterEpoch), ("loop.example/s02544/impl.errMasterPlaces", laid_loop_example_s02544_impl_errMasterPlaces)], narrowed := true }
def FnExactMasterFaultUptoSaid : Prop := fnExactMasterFaultUptoRow.holds Tryd.pinned (OpenSpec.upto fnExactMasterFaultSpec)

/-- 'laws.FnExactMasterOps', WHERE WHAT IT READS IS OF BULK AT MOST 1048576: true; the input reads as it did. -/
def fnExactMasterOpsUptoRow : OpenClaim := { program := "ytnkollbhicmdhaadoor", sum := "f0f8b82220a784736d4fbab63729aba77453c2afed2f2035e5c0fb7445c892f7", func := "loop.example/s02544/laws.FnExactMasterOps", spec := "fnExactMasterOps", inPlace := ["sync/atomic.LoadUint32", "(*internal/sync.Mutex).Lock", "internal/race.Disable", "sync/atomic.CompareAndSwapInt32", "internal/race.Enable", "internal/race.Acquire", "(*internal/sync.Mutex).lockSlow", "internal/sync.runtime_canSpin", "internal/sync.runtime_doSpin", "internal/sync.throw", "internal/sync.runtime_nanotime", "internal/sync.runtime_SemacquireMutex", "sync/atomic.AddInt32", "(*internal/sync.Mutex).Unlock", "internal/race.ReleaseMerge", "(*internal/sync.Mutex).unlockSlow", "internal/sync.fatal", "internal/sync.runtime_Semrelease", "sync/atomic.StoreUint32"], unfollowed := true, recurses := true, named := ["loop.example/s02544/impl.errMasterSeq", "loop.example/s02544/impl.errMasterEpoch", "loop.example/s02544/impl.errMasterPlaces"], ifaces := true, apart := false, laid := [("loop.example/s02544/impl.errMasterSeq", laid_loop_example_s02544_impl_errMasterSeq), ("loop.example/s02544/impl.errMasterEpoch", laid_loop_example_s02544_impl_errMasterEpoch), ("loop.example/s02544/impl.errMasterPlaces", laid_loop_example_s02544_impl_errMasterPlaces)], narrowed := true }
def FnExactMasterOpsUptoSaid : Prop := fnExactMasterOpsUptoRow.holds Tryd.pinned (OpenSpec.upto fnExactMasterOpsSpec)

/-- 'laws.FnExactPickMaster', WHERE WHAT IT READS IS OF BULK AT MOST 1048576: true; the input reads as it did. -/
def fnExactPickMasterUptoRow : OpenClaim := { program := "ytnkollbhicmdhaadoor", sum := "f0f8b82220a784736d4fbab63729aba77453c2afed2f2035e5c0fb7445c892f7", func := "loop.example/s02544/laws.FnExactPickMaster", spec := "fnExactPickMaster", inPlace := ["sync/atomic.LoadUint32", "(*internal/sync.Mutex).Lock", "internal/race.Disable", "sync/atomic.CompareAndSwapInt32", "internal/race.Enable", "internal/race.Acquire", "(*internal/sync.Mutex).lockSlow", "internal/sync.runtime_canSpin", "internal/sync.runtime_doSpin", "internal/sync.throw", "internal/sync.runtime_nanotime", "internal/sync.runtime_SemacquireMutex", "sync/atomic.AddInt32", "(*internal/sync.Mutex).Unlock", "internal/race.ReleaseMerge", "(*internal/sync.Mutex).unlockSlow", "internal/sync.fatal", "internal/sync.runtime_Semrelease", "sync/atomic.StoreUint32"], unfollowed := true, recurses := true, named := ["loop.example/s02544/impl.errMasterLength", "loop.example/s02544/impl.errMasterForm", "loop.example/s02544/impl.errMasterSeq", "loop.example/s02544/impl.errMasterEpoch", "loop.example/s02544/impl.errMasterPlaces"], ifaces := true, apart := false, laid := [("loop.example/s02544/impl.errMasterSeq", laid_loop_example_s02544_impl_errMasterSeq), ("loop.example/s02544/impl.errMasterEpoch", laid_loop_example_s02544_impl_errMasterEpoch), ("loop.example/s02544/impl.errMasterPlaces", laid_loop_example_s02544_impl_errMasterPlaces), ("loop.example/s02544/impl.errMasterLength", laid_loop_example_s02544_impl_errMasterLength), ("loop.example/s02544/impl.errMasterForm", laid_loop_example_s02544_impl_errMasterForm)], narrowed := true }
def FnExactPickMasterUptoSaid : Prop := fnExactPickMasterUptoRow.holds Tryd.pinned (OpenSpec.upto fnExactPickMasterSpec)

end Rows
end Go.Proofs.YtnkollbhicmdhaaDoor
