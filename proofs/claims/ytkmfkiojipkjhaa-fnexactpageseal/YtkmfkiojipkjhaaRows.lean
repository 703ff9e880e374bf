/-
  No cell of these rows narrows 'for every input' (looked for: loops, veiled, ifaces, maps, wideKeys, modest, calm, conditions, laid).
  DERIVED. THE GIVEN ROWS OF THIS SEAT. 6 by the template 'for every input the law returns true; each argument reads behind the call as it read before'; 0 by the template 'total and deterministic' (their statements: YtkmfkiojipkjhaaTotals.lean).
  GIVEN WITH THE SEED: the statements are not yours to turn. If you find one false, say at which input.
  Laid BY PROGRAM, IN A SANDBOX (cutbox-rows.mjs): the forced cells as the released guide's own fill.sh prints them over the translation a64d1621fb0d627f… (all of the seat's roots in one cut). By AI agents, Wed Nov 11 2026. No macro, syntax, notation, axiom, sorry.
-/
import Derived.Test.YtkmfkiojipkjhaaChecked
import GoSem.Claim
import GoSem.ClaimJoined
import GoSem.ClaimMapViews
import Derived.JoinedTies
import Derived.KernelRfl
namespace Go.Proofs.Ytkmfkiojipkjhaa
/- THE CELL 'sum', in the pinned program and in every row, IS THE sha256 OF THE DUMP (.gsa) THAT YtkmfkiojipkjhaaProg.lean LOADS. Nothing in Lean hashes anything: it is a label: what it is worth is what the hold of that sum in a sandbox is worth. -/
noncomputable def Try.pinned : Pinned := { name := "ytkmfkiojipkjhaa", sum := "a64d1621fb0d627f02c46f3095df72d59391962ef87a879f8a9bb39fda957bc9", checked := Try.checked }
namespace Rows
def none {H : Type} : Left H := { results := [], args := [] }

/-- 'laws.FnExactRedoPage': WHATEVER THE INPUT: true; the input reads as it did. -/
def fnExactRedoPageSpec : ChangeSpec := { name := "fnExactRedoPage", fn := fun _ => fun
  | [d1, d2, d3, d4] => { results := [.lit (.bool true)], args := [d1, d2, d3, d4] }
  | _ => none }
def fnExactRedoPageRow : OpenClaim := { program := "ytkmfkiojipkjhaa", sum := "a64d1621fb0d627f02c46f3095df72d59391962ef87a879f8a9bb39fda957bc9", func := "loop.example/s02544/laws.FnExactRedoPage", spec := "fnExactRedoPage", apart := false }
def FnExactRedoPageSaid : Prop := fnExactRedoPageRow.holds Try.pinned (OpenSpec.ofChange fnExactRedoPageSpec)

/-- ITS FALSE NEIGHBOUR: 'it returns false'. Refute it at one input. -/
def fnExactRedoPageWrong : ChangeSpec := { name := "fnExactRedoPage", fn := fun _ => fun
  | [d1, d2, d3, d4] => { results := [.lit (.bool false)], args := [d1, d2, d3, d4] }
  | _ => none }
def FnExactRedoPageWrongFalsely : Prop := fnExactRedoPageRow.holds Try.pinned (OpenSpec.ofChange fnExactRedoPageWrong)

/-- 'laws.FnExactPageSeal': WHATEVER THE INPUT: true; the input reads as it did. -/
def fnExactPageSealSpec : ChangeSpec := { name := "fnExactPageSeal", fn := fun _ => fun
  | [d] => { results := [.lit (.bool true)], args := [d] }
  | _ => none }
def fnExactPageSealRow : OpenClaim := { program := "ytkmfkiojipkjhaa", sum := "a64d1621fb0d627f02c46f3095df72d59391962ef87a879f8a9bb39fda957bc9", func := "loop.example/s02544/laws.FnExactPageSeal", spec := "fnExactPageSeal", inPlace := ["sync/atomic.LoadUint32", "(*internal/sync.Mutex).Lock", "internal/race.Disable", "sync/atomic.CompareAndSwapInt32", "internal/race.Enable", "internal/race.Acquire", "(*internal/sync.Mutex).lockSlow", "internal/sync.runtime_canSpin", "internal/sync.runtime_doSpin", "internal/sync.throw", "internal/sync.runtime_nanotime", "internal/sync.runtime_SemacquireMutex", "sync/atomic.AddInt32", "(*internal/sync.Mutex).Unlock", "internal/race.ReleaseMerge", "(*internal/sync.Mutex).unlockSlow", "internal/sync.fatal", "internal/sync.runtime_Semrelease", "sync/atomic.StoreUint32"], unfollowed := true, recurses := true, apart := false }
def FnExactPageSealSaid : Prop := fnExactPageSealRow.holds Try.pinned (OpenSpec.ofChange fnExactPageSealSpec)

/-- ITS FALSE NEIGHBOUR: 'it returns false'. Refute it at one input. -/
def fnExactPageSealWrong : ChangeSpec := { name := "fnExactPageSeal", fn := fun _ => fun
  | [d] => { results := [.lit (.bool false)], args := [d] }
  | _ => none }
def FnExactPageSealWrongFalsely : Prop := fnExactPageSealRow.holds Try.pinned (OpenSpec.ofChange fnExactPageSealWrong)

/-- 'laws.FnExactPageWhole': WHATEVER THE INPUT: true; the input reads as it did. -/
def fnExactPageWholeSpec : ChangeSpec := { name := "fnExactPageWhole", fn := fun _ => fun
  | [d] => { results := [.lit (.bool true)], args := [d] }
  | _ => none }
def fnExactPageWholeRow : OpenClaim := { program := "ytkmfkiojipkjhaa", sum := "a64d1621fb0d627f02c46f3095df72d59391962ef87a879f8a9bb39fda957bc9", func := "loop.example/s02544/laws.FnExactPageWhole", spec := "fnExactPageWhole", inPlace := ["sync/atomic.LoadUint32", "(*internal/sync.Mutex).Lock", "internal/race.Disable", "sync/atomic.CompareAndSwapInt32", "internal/race.Enable", "internal/race.Acquire", "(*internal/sync.Mutex).lockSlow", "internal/sync.runtime_canSpin", "internal/sync.runtime_doSpin", "internal/sync.throw", "internal/sync.runtime_nanotime", "internal/sync.runtime_SemacquireMutex", "sync/atomic.AddInt32", "(*internal/sync.Mutex).Unlock", "internal/race.ReleaseMerge", "(*internal/sync.Mutex).unlockSlow", "internal/sync.fatal", "internal/sync.runtime_Semrelease", "sync/atomic.StoreUint32"], unfollowed := true, recurses := true, apart := false }
def FnExactPageWholeSaid : Prop := fnExactPageWholeRow.holds Try.pinned (OpenSpec.ofChange fnExactPageWholeSpec)

/-- ITS FALSE NEIGHBOUR: 'it returns false'. Refute it at one input. -/
def fnExactPageWholeWrong : ChangeSpec := { name := "fnExactPageWhole", fn := fun _ => fun
  | [d] => { results := [.lit (.bool false)], args := [d] }
  | _ => none }
def FnExactPageWholeWrongFalsely : Prop := fnExactPageWholeRow.holds Try.pinned (OpenSpec.ofChange fnExactPageWholeWrong)

/-- 'laws.FnExactPageLSN': WHATEVER THE INPUT: true; the input reads as it did. -/
def fnExactPageLSNSpec : ChangeSpec := { name := "fnExactPageLSN", fn := fun _ => fun
  | [d] => { results := [.lit (.bool true)], args := [d] }
  | _ => none }
def fnExactPageLSNRow : OpenClaim := { program := "ytkmfkiojipkjhaa", sum := "a64d1621fb0d627f02c46f3095df72d59391962ef87a879f8a9bb39fda957bc9", func := "loop.example/s02544/laws.FnExactPageLSN", spec := "fnExactPageLSN", apart := false }
def FnExactPageLSNSaid : Prop := fnExactPageLSNRow.holds Try.pinned (OpenSpec.ofChange fnExactPageLSNSpec)

/-- ITS FALSE NEIGHBOUR: 'it returns false'. Refute it at one input. -/
def fnExactPageLSNWrong : ChangeSpec := { name := "fnExactPageLSN", fn := fun _ => fun
  | [d] => { results := [.lit (.bool false)], args := [d] }
  | _ => none }
def FnExactPageLSNWrongFalsely : Prop := fnExactPageLSNRow.holds Try.pinned (OpenSpec.ofChange fnExactPageLSNWrong)

/-- 'laws.FnExactPageGet': WHATEVER THE INPUT: true; the input reads as it did. -/
def fnExactPageGetSpec : ChangeSpec := { name := "fnExactPageGet", fn := fun _ => fun
  | [d1, d2] => { results := [.lit (.bool true)], args := [d1, d2] }
  | _ => none }
def fnExactPageGetRow : OpenClaim := { program := "ytkmfkiojipkjhaa", sum := "a64d1621fb0d627f02c46f3095df72d59391962ef87a879f8a9bb39fda957bc9", func := "loop.example/s02544/laws.FnExactPageGet", spec := "fnExactPageGet", apart := false }
def FnExactPageGetSaid : Prop := fnExactPageGetRow.holds Try.pinned (OpenSpec.ofChange fnExactPageGetSpec)

/-- ITS FALSE NEIGHBOUR: 'it returns false'. Refute it at one input. -/
def fnExactPageGetWrong : ChangeSpec := { name := "fnExactPageGet", fn := fun _ => fun
  | [d1, d2] => { results := [.lit (.bool false)], args := [d1, d2] }
  | _ => none }
def FnExactPageGetWrongFalsely : Prop := fnExactPageGetRow.holds Try.pinned (OpenSpec.ofChange fnExactPageGetWrong)

/-- 'laws.FnExactPageUsed': WHATEVER THE INPUT: true; the input reads as it did. -/
def fnExactPageUsedSpec : ChangeSpec := { name := "fnExactPageUsed", fn := fun _ => fun
  | [d] => { results := [.lit (.bool true)], args := [d] }
  | _ => none }
def fnExactPageUsedRow : OpenClaim := { program := "ytkmfkiojipkjhaa", sum := "a64d1621fb0d627f02c46f3095df72d59391962ef87a879f8a9bb39fda957bc9", func := "loop.example/s02544/laws.FnExactPageUsed", spec := "fnExactPageUsed", apart := false }
def FnExactPageUsedSaid : Prop := fnExactPageUsedRow.holds Try.pinned (OpenSpec.ofChange fnExactPageUsedSpec)

/-- ITS FALSE NEIGHBOUR: 'it returns false'. Refute it at one input. -/
def fnExactPageUsedWrong : ChangeSpec := { name := "fnExactPageUsed", fn := fun _ => fun
  | [d] => { results := [.lit (.bool false)], args := [d] }
  | _ => none }
def FnExactPageUsedWrongFalsely : Prop := fnExactPageUsedRow.holds Try.pinned (OpenSpec.ofChange fnExactPageUsedWrong)

/- THE SECOND FORM. 'bulk': how many values and letters a reading holds, each counted each time it is reached (what is shared counts as often as it is met; a slice's spare places count too). A statement '..UptoSaid' is the law's where the arguments, and the package variables that the reading takes, are together of bulk at most 1048576: NARROWER than '..Said'. Prove '..Said' where nothing that the law and all that it calls make is longer than what came in: it says more and counts as full. Else prove '..UptoSaid'. A law counts once. -/
mutual
def uptoBulk {H : Type} : DataW H → Nat
  | .lit (.string bytes) => bytes.length + 1
  | .lit _ => 1
  | .nil => 1
  | .ptr d => uptoBulk d + 1
  | .slice elems spare => uptoBulkAll elems + uptoBulkAll spare + 1
  | .agg parts => uptoBulkAll parts + 1
  | .iface _ d => uptoBulk d + 1
  | .map entries => uptoBulkEntries entries + 1
  | .held _ => 1
def uptoBulkAll {H : Type} : List (DataW H) → Nat
  | [] => 0
  | d :: r => uptoBulk d + uptoBulkAll r
def uptoBulkEntries {H : Type} : List (Lit × DataW H) → Nat
  | [] => 0
  | x :: r => uptoBulkEntry x + uptoBulkEntries r
def uptoBulkEntry {H : Type} : Lit × DataW H → Nat
  | (.string bytes, d) => bytes.length + uptoBulk d + 1
  | (_, d) => uptoBulk d + 1
 end
def uptoSmall : (H : Type) → List (DataW H) → Bool := fun _ ds => decide (uptoBulkAll ds ≤ 1048576)
def OpenSpec.upto (s : _root_.Go.ChangeSpec) : _root_.Go.OpenSpec := { _root_.Go.OpenSpec.ofChange s with cond := some uptoSmall }

/-- 'laws.FnExactRedoPage', WHERE WHAT IT READS IS OF BULK AT MOST 1048576: true; the input reads as it did. -/
def fnExactRedoPageUptoRow : OpenClaim := { program := "ytkmfkiojipkjhaa", sum := "a64d1621fb0d627f02c46f3095df72d59391962ef87a879f8a9bb39fda957bc9", func := "loop.example/s02544/laws.FnExactRedoPage", spec := "fnExactRedoPage", apart := false, narrowed := true }
def FnExactRedoPageUptoSaid : Prop := fnExactRedoPageUptoRow.holds Try.pinned (OpenSpec.upto fnExactRedoPageSpec)

/-- 'laws.FnExactPageSeal', WHERE WHAT IT READS IS OF BULK AT MOST 1048576: true; the input reads as it did. -/
def fnExactPageSealUptoRow : OpenClaim := { program := "ytkmfkiojipkjhaa", sum := "a64d1621fb0d627f02c46f3095df72d59391962ef87a879f8a9bb39fda957bc9", func := "loop.example/s02544/laws.FnExactPageSeal", spec := "fnExactPageSeal", inPlace := ["sync/atomic.LoadUint32", "(*internal/sync.Mutex).Lock", "internal/race.Disable", "sync/atomic.CompareAndSwapInt32", "internal/race.Enable", "internal/race.Acquire", "(*internal/sync.Mutex).lockSlow", "internal/sync.runtime_canSpin", "internal/sync.runtime_doSpin", "internal/sync.throw", "internal/sync.runtime_nanotime", "internal/sync.runtime_SemacquireMutex", "sync/atomic.AddInt32", "(*internal/sync.Mutex).Unlock", "internal/race.ReleaseMerge", "(*internal/sync.Mutex).unlockSlow", "internal/sync.fatal", "internal/sync.runtime_Semrelease", "sync/atomic.StoreUint32"], unfollowed := true, recurses := true, apart := false, narrowed := true }
def FnExactPageSealUptoSaid : Prop := fnExactPageSealUptoRow.holds Try.pinned (OpenSpec.upto fnExactPageSealSpec)

/-- 'laws.FnExactPageWhole', WHERE WHAT IT READS IS OF BULK AT MOST 1048576: true; the input reads as it did. -/
def fnExactPageWholeUptoRow : OpenClaim := { program := "ytkmfkiojipkjhaa", sum := "a64d1621fb0d627f02c46f3095df72d59391962ef87a879f8a9bb39fda957bc9", func := "loop.example/s02544/laws.FnExactPageWhole", spec := "fnExactPageWhole", inPlace := ["sync/atomic.LoadUint32", "(*internal/sync.Mutex).Lock", "internal/race.Disable", "sync/atomic.CompareAndSwapInt32", "internal/race.Enable", "internal/race.Acquire", "(*internal/sync.Mutex).lockSlow", "internal/sync.runtime_canSpin", "internal/sync.runtime_doSpin", "internal/sync.throw", "internal/sync.runtime_nanotime", "internal/sync.runtime_SemacquireMutex", "sync/atomic.AddInt32", "(*internal/sync.Mutex).Unlock", "internal/race.ReleaseMerge", "(*internal/sync.Mutex).unlockSlow", "internal/sync.fatal", "internal/sync.runtime_Semrelease", "sync/atomic.StoreUint32"], unfollowed := true, recurses := true, apart := false, narrowed := true }
def FnExactPageWholeUptoSaid : Prop := fnExactPageWholeUptoRow.holds Try.pinned (OpenSpec.upto fnExactPageWholeSpec)

/-- 'laws.FnExactPageLSN', WHERE WHAT IT READS IS OF BULK AT MOST 1048576: true; the input reads as it did. -/
def fnExactPageLSNUptoRow : OpenClaim := { program := "ytkmfkiojipkjhaa", sum := "a64d1621fb0d627f02c46f3095df72d59391962ef87a879f8a9bb39fda957bc9", func := "loop.example/s02544/laws.FnExactPageLSN", spec := "fnExactPageLSN", apart := false, narrowed := true }
def FnExactPageLSNUptoSaid : Prop := fnExactPageLSNUptoRow.holds Try.pinned (OpenSpec.upto fnExactPageLSNSpec)

/-- 'laws.FnExactPageGet', WHERE WHAT IT READS IS OF BULK AT MOST 1048576: true; the input reads as it did. -/
def fnExactPageGetUptoRow : OpenClaim := { program := "ytkmfkiojipkjhaa", sum := "a64d1621fb0d627f02c46f3095df72d59391962ef87a879f8a9bb39fda957bc9", func := "loop.example/s02544/laws.FnExactPageGet", spec := "fnExactPageGet", apart := false, narrowed := true }
def FnExactPageGetUptoSaid : Prop := fnExactPageGetUptoRow.holds Try.pinned (OpenSpec.upto fnExactPageGetSpec)

/-- 'laws.FnExactPageUsed', WHERE WHAT IT READS IS OF BULK AT MOST 1048576: true; the input reads as it did. -/
def fnExactPageUsedUptoRow : OpenClaim := { program := "ytkmfkiojipkjhaa", sum := "a64d1621fb0d627f02c46f3095df72d59391962ef87a879f8a9bb39fda957bc9", func := "loop.example/s02544/laws.FnExactPageUsed", spec := "fnExactPageUsed", apart := false, narrowed := true }
def FnExactPageUsedUptoSaid : Prop := fnExactPageUsedUptoRow.holds Try.pinned (OpenSpec.upto fnExactPageUsedSpec)

end Rows
end Go.Proofs.Ytkmfkiojipkjhaa
