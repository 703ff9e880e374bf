/-
  DERIVED. GIVEN WITH THE SEED: THE CARDS: each row of YtnkollbhicmdhaaDoorRows.lean that lists a variable, with what it lists TIED to the program's text (the seventh form; the later family's looks); each row that meets fmt, with fmt's text TOLD by the authors' own Lean function (tested against real Go, not proved from fmt's source: count such statements apart). THE CARD IS WHAT COUNTS. Prove the row's statement (the work); the ties are given (YtnkollbhicmdhaaDoorTie.lean); close each card by the builder's one call (the guide's Derived/Test/ToyasCard.lean, 'card_holds'). Laid BY PROGRAM, IN A SANDBOX (cutbox-door.mjs). By AI agents, Wed Nov 11 2026. No macro, syntax, notation, axiom, sorry.
-/
import Derived.Test.YtnkollbhicmdhaaDoorRows
import GoSem.ClaimSeven
namespace Go.Proofs.YtnkollbhicmdhaaDoor
namespace Rows

/-- THE TIED CARD OF 'laws.FnMasters'. -/
def fnMastersCard : Claim7 := { stood := { row := fnMastersRow, standIns := [], harness := (true, "a6c7cfbc437da6632fb145fb88e291e2dd18e355d375299a98e4685d3df3213b"), looks := true }, kinds := [], alts := [], laidByText := true, laidKinds := [.sentinel, .sentinel, .sentinel, .sentinel, .sentinel], laidTests := true, laidLooks := .later }
def FnMastersCardSaid : Prop := Claim7.holds Tryd.pinned (.plain (OpenSpec.ofChange fnMastersSpec)) fnMastersCard

/-- THE TIED CARD OF 'laws.FnExactDecodeMaster'. -/
def fnExactDecodeMasterCard : Claim7 := { stood := { row := fnExactDecodeMasterRow, standIns := [], harness := (true, "a6c7cfbc437da6632fb145fb88e291e2dd18e355d375299a98e4685d3df3213b"), looks := true }, kinds := [], alts := [], laidByText := true, laidKinds := [.sentinel, .sentinel, .sentinel, .sentinel, .sentinel], laidTests := true, laidLooks := .later }
def FnExactDecodeMasterCardSaid : Prop := Claim7.holds Tryd.pinned (.plain (OpenSpec.ofChange fnExactDecodeMasterSpec)) fnExactDecodeMasterCard

/-- THE TIED CARD OF 'laws.FnExactEncodeMaster'. -/
def fnExactEncodeMasterCard : Claim7 := { stood := { row := fnExactEncodeMasterRow, standIns := [], harness := (true, "a6c7cfbc437da6632fb145fb88e291e2dd18e355d375299a98e4685d3df3213b"), looks := true }, kinds := [], alts := [], laidByText := true, laidKinds := [.sentinel, .sentinel, .sentinel], laidTests := true, laidLooks := .later }
def FnExactEncodeMasterCardSaid : Prop := Claim7.holds Tryd.pinned (.plain (OpenSpec.ofChange fnExactEncodeMasterSpec)) fnExactEncodeMasterCard

/-- THE TIED CARD OF 'laws.FnExactMasterFault'. -/
def fnExactMasterFaultCard : Claim7 := { stood := { row := fnExactMasterFaultRow, standIns := [], harness := (true, "a6c7cfbc437da6632fb145fb88e291e2dd18e355d375299a98e4685d3df3213b"), looks := true }, kinds := [], alts := [], laidByText := true, laidKinds := [.sentinel, .sentinel, .sentinel], laidTests := true, laidLooks := .later }
def FnExactMasterFaultCardSaid : Prop := Claim7.holds Tryd.pinned (.plain (OpenSpec.ofChange fnExactMasterFaultSpec)) fnExactMasterFaultCard

/-- THE TIED CARD OF 'laws.FnExactMasterOps'. -/
def fnExactMasterOpsCard : Claim7 := { stood := { row := fnExactMasterOpsRow, standIns := [], harness := (true, "a6c7cfbc437da6632fb145fb88e291e2dd18e355d375299a98e4685d3df3213b"), looks := true }, kinds := [], alts := [], laidByText := true, laidKinds := [.sentinel, .sentinel, .sentinel], laidTests := true, laidLooks := .later }
def FnExactMasterOpsCardSaid : Prop := Claim7.holds Tryd.pinned (.plain (OpenSpec.ofChange fnExactMasterOpsSpec)) fnExactMasterOpsCard

/-- THE TIED CARD OF 'laws.FnExactPickMaster'. -/
def fnExactPickMasterCard : Claim7 := { stood := { row := fnExactPickMasterRow, standIns := [], harness := (true, "a6c7cfbc437da6632fb145fb88e291e2dd18e355d375299a98e4685d3df3213b"), looks := true }, kinds := [], alts := [], laidByText := true, laidKinds := [.sentinel, .sentinel, .sentinel, .sentinel, .sentinel], laidTests := true, laidLooks := .later }
def FnExactPickMasterCardSaid : Prop := Claim7.holds Tryd.pinned (.plain (OpenSpec.ofChange fnExactPickMasterSpec)) fnExactPickMasterCard

/-- THE SECOND FORM's CARD OF 'laws.FnMasters'. -/
def fnMastersUptoCard : Claim7 := { stood := { row := fnMastersUptoRow, standIns := [], harness := (true, "a6c7cfbc437da6632fb145fb88e291e2dd18e355d375299a98e4685d3df3213b"), looks := true }, kinds := [], alts := [], laidByText := true, laidKinds := [.sentinel, .sentinel, .sentinel, .sentinel, .sentinel], laidTests := true, laidLooks := .later }
def FnMastersUptoCardSaid : Prop := Claim7.holds Tryd.pinned (.plain (OpenSpec.upto fnMastersSpec)) fnMastersUptoCard

/-- THE SECOND FORM's CARD OF 'laws.FnExactDecodeMaster'. -/
def fnExactDecodeMasterUptoCard : Claim7 := { stood := { row := fnExactDecodeMasterUptoRow, standIns := [], harness := (true, "a6c7cfbc437da6632fb145fb88e291e2dd18e355d375299a98e4685d3df3213b"), looks := true }, kinds := [], alts := [], laidByText := true, laidKinds := [.sentinel, .sentinel, .sentinel, .sentinel, .sentinel], laidTests := true, laidLooks := .later }
def FnExactDecodeMasterUptoCardSaid : Prop := Claim7.holds Tryd.pinned (.plain (OpenSpec.upto fnExactDecodeMasterSpec)) fnExactDecodeMasterUptoCard

/-- THE SECOND FORM's CARD OF 'laws.FnExactEncodeMaster'. -/
def fnExactEncodeMasterUptoCard : Claim7 := { stood := { row := fnExactEncodeMasterUptoRow, standIns := [], harness := (true, "a6c7cfbc437da6632fb145fb88e291e2dd18e355d375299a98e4685d3df3213b"), looks := true }, kinds := [], alts := [], laidByText := true, laidKinds := [.sentinel, .sentinel, .sentinel], laidTests := true, laidLooks := .later }
def FnExactEncodeMasterUptoCardSaid : Prop := Claim7.holds Tryd.pinned (.plain (OpenSpec.upto fnExactEncodeMasterSpec)) fnExactEncodeMasterUptoCard

/-- THE SECOND FORM's CARD OF 'laws.FnExactMasterFault'. -/
def fnExactMasterFaultUptoCard : Claim7 := { stood := { row := fnExactMasterFaultUptoRow, standIns := [], harness := (true, "a6c7cfbc437da6632fb145fb88e291e2dd18e355d375299a98e4685d3df3213b"), looks := true }, kinds := [], alts := [], laidByText := true, laidKinds := [.sentinel, .sentinel, .sentinel], laidTests := true, laidLooks := .later }
def FnExactMasterFaultUptoCardSaid : Prop := Claim7.holds Tryd.pinned (.plain (OpenSpec.upto fnExactMasterFaultSpec)) fnExactMasterFaultUptoCard

/-- THE SECOND FORM's CARD OF 'laws.FnExactMasterOps'. -/
def fnExactMasterOpsUptoCard : Claim7 := { stood := { row := fnExactMasterOpsUptoRow, standIns := [], harness := (true, "a6c7cfbc437da6632fb145fb88e291e2dd18e355d375299a98e4685d3df3213b"), looks := true }, kinds := [], alts := [], laidByText := true, laidKinds := [.sentinel, .sentinel, .sentinel], laidTests := true, laidLooks := .later }
def FnExactMasterOpsUptoCardSaid : Prop := Claim7.holds Tryd.pinned (.plain (OpenSpec.upto fnExactMasterOpsSpec)) fnExactMasterOpsUptoCard

/-- THE SECOND FORM's CARD OF 'laws.FnExactPickMaster'. -/
def fnExactPickMasterUptoCard : Claim7 := { stood := { row := fnExactPickMasterUptoRow, standIns := [], harness := (true, "a6c7cfbc437da6632fb145fb88e291e2dd18e355d375299a98e4685d3df3213b"), looks := true }, kinds := [], alts := [], laidByText := true, laidKinds := [.sentinel, .sentinel, .sentinel, .sentinel, .sentinel], laidTests := true, laidLooks := .later }
def FnExactPickMasterUptoCardSaid : Prop := Claim7.holds Tryd.pinned (.plain (OpenSpec.upto fnExactPickMasterSpec)) fnExactPickMasterUptoCard
end Rows
end Go.Proofs.YtnkollbhicmdhaaDoor
