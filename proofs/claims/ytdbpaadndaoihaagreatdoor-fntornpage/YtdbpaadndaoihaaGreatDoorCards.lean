/-
  DERIVED. GIVEN WITH THE SEED: THE CARDS: each row of YtdbpaadndaoihaaGreatDoorRows.lean that lists a variable, with what it lists TIED to the program's text (the seventh form; the later family's looks); each row that meets fmt, with fmt's text TOLD by the authors' own Lean function (tested against real Go, not proved from fmt's source: count such statements apart). THE CARD IS WHAT COUNTS. Prove the row's statement (the work); the ties are given (YtdbpaadndaoihaaGreatDoorTie.lean); close each card by the builder's one call (the guide's Derived/Test/ToyasCard.lean, 'card_holds'). Laid BY PROGRAM, IN A SANDBOX (cutbox-door.mjs). By AI agents, Wed Nov 11 2026. No macro, syntax, notation, axiom, sorry.
-/
import Derived.Test.YtdbpaadndaoihaaGreatDoorRows
import GoSem.ClaimSeven
namespace Go.Proofs.YtdbpaadndaoihaaGreatDoor
namespace Rows

/-- THE TIED CARD OF 'laws.FnTornPage'. -/
def fnTornPageCard : Claim7 := { stood := { row := fnTornPageRow, standIns := [], harness := (true, "8c5307f6e1be08f4e65579c13e37d920df9f0992bf089a3eb3dcf29bffc0023b"), looks := true }, kinds := [], alts := [], laidByText := true, laidKinds := [.sentinel, .sentinel, .sentinel], laidTests := true, laidLooks := .later }
def FnTornPageCardSaid : Prop := Claim7.holds Tryz.pinned (.plain (OpenSpec.ofChange fnTornPageSpec)) fnTornPageCard

/-- THE SECOND FORM's CARD OF 'laws.FnTornPage'. -/
def fnTornPageUptoCard : Claim7 := { stood := { row := fnTornPageUptoRow, standIns := [], harness := (true, "8c5307f6e1be08f4e65579c13e37d920df9f0992bf089a3eb3dcf29bffc0023b"), looks := true }, kinds := [], alts := [], laidByText := true, laidKinds := [.sentinel, .sentinel, .sentinel], laidTests := true, laidLooks := .later }
def FnTornPageUptoCardSaid : Prop := Claim7.holds Tryz.pinned (.plain (OpenSpec.upto fnTornPageSpec)) fnTornPageUptoCard
end Rows
end Go.Proofs.YtdbpaadndaoihaaGreatDoor
