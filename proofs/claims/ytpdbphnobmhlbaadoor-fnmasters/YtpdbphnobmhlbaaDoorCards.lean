/-
  DERIVED. GIVEN WITH THE SEED: THE CARDS: each row of YtpdbphnobmhlbaaDoorRows.lean that lists a variable, with what it lists TIED to the program's text (the seventh form; the later family's looks); each row that meets fmt, with fmt's text TOLD by the authors' own Lean function (tested against real Go, not proved from fmt's source: count such statements apart). THE CARD IS WHAT COUNTS. Prove the row's statement (the work); the ties are given (YtpdbphnobmhlbaaDoorTie.lean); close each card by the builder's one call (the guide's Derived/Test/ToyasCard.lean, 'card_holds'). Laid BY PROGRAM, IN A SANDBOX (cutbox-door.mjs). By AI agents, Wed Nov 11 2026. No macro, syntax, notation, axiom, sorry.
-/
import Derived.Test.YtpdbphnobmhlbaaDoorRows
import GoSem.ClaimSeven
namespace Go.Proofs.YtpdbphnobmhlbaaDoor
namespace Rows

/-- THE TIED CARD OF 'laws.FnMasters'. -/
def fnMastersCard : Claim7 := { stood := { row := fnMastersRow, standIns := [], harness := (true, "01354f600c25e5c79f075195e229e8b0fceec1c961c7f8a64483d321e4101a97"), looks := false }, kinds := [], alts := [], laidByText := true, laidKinds := [.sentinel, .sentinel, .sentinel, .sentinel, .sentinel], laidTests := true, laidLooks := .later }
def FnMastersCardSaid : Prop := Claim7.holds Tryd.pinned (.plain (OpenSpec.ofChange fnMastersSpec)) fnMastersCard

/-- THE TIED CARD OF 'laws.FnExactPickMaster'. -/
def fnExactPickMasterCard : Claim7 := { stood := { row := fnExactPickMasterRow, standIns := [], harness := (true, "01354f600c25e5c79f075195e229e8b0fceec1c961c7f8a64483d321e4101a97"), looks := false }, kinds := [], alts := [], laidByText := true, laidKinds := [.sentinel, .sentinel, .sentinel, .sentinel, .sentinel], laidTests := true, laidLooks := .later }
def FnExactPickMasterCardSaid : Prop := Claim7.holds Tryd.pinned (.plain (OpenSpec.ofChange fnExactPickMasterSpec)) fnExactPickMasterCard

/-- THE TIED CARD OF 'laws.FnExactMasterOps'. -/
def fnExactMasterOpsCard : Claim7 := { stood := { row := fnExactMasterOpsRow, standIns := [], harness := (true, "01354f600c25e5c79f075195e229e8b0fceec1c961c7f8a64483d321e4101a97"), looks := false }, kinds := [], alts := [], laidByText := true, laidKinds := [.sentinel, .sentinel, .sentinel], laidTests := true, laidLooks := .later }
def FnExactMasterOpsCardSaid : Prop := Claim7.holds Tryd.pinned (.plain (OpenSpec.ofChange fnExactMasterOpsSpec)) fnExactMasterOpsCard

/-- THE SECOND FORM's CARD OF 'laws.FnMasters'. -/
def fnMastersUptoCard : Claim7 := { stood := { row := fnMastersUptoRow, standIns := [], harness := (true, "01354f600c25e5c79f075195e229e8b0fceec1c961c7f8a64483d321e4101a97"), looks := false }, kinds := [], alts := [], laidByText := true, laidKinds := [.sentinel, .sentinel, .sentinel, .sentinel, .sentinel], laidTests := true, laidLooks := .later }
def FnMastersUptoCardSaid : Prop := Claim7.holds Tryd.pinned (.plain (OpenSpec.upto fnMastersSpec)) fnMastersUptoCard

/-- THE SECOND FORM's CARD OF 'laws.FnExactPickMaster'. -/
def fnExactPickMasterUptoCard : Claim7 := { stood := { row := fnExactPickMasterUptoRow, standIns := [], harness := (true, "01354f600c25e5c79f075195e229e8b0fceec1c961c7f8a64483d321e4101a97"), looks := false }, kinds := [], alts := [], laidByText := true, laidKinds := [.sentinel, .sentinel, .sentinel, .sentinel, .sentinel], laidTests := true, laidLooks := .later }
def FnExactPickMasterUptoCardSaid : Prop := Claim7.holds Tryd.pinned (.plain (OpenSpec.upto fnExactPickMasterSpec)) fnExactPickMasterUptoCard

/-- THE SECOND FORM's CARD OF 'laws.FnExactMasterOps'. -/
def fnExactMasterOpsUptoCard : Claim7 := { stood := { row := fnExactMasterOpsUptoRow, standIns := [], harness := (true, "01354f600c25e5c79f075195e229e8b0fceec1c961c7f8a64483d321e4101a97"), looks := false }, kinds := [], alts := [], laidByText := true, laidKinds := [.sentinel, .sentinel, .sentinel], laidTests := true, laidLooks := .later }
def FnExactMasterOpsUptoCardSaid : Prop := Claim7.holds Tryd.pinned (.plain (OpenSpec.upto fnExactMasterOpsSpec)) fnExactMasterOpsUptoCard
end Rows
end Go.Proofs.YtpdbphnobmhlbaaDoor
