/-
  DERIVED. GIVEN WITH THE SEED: THE CARDS: each row of YtbilnlgjpchgiaaDoorRows.lean that lists a variable, with what it lists TIED to the program's text (the seventh form; the later family's looks); each row that meets fmt, with fmt's text TOLD by the authors' own Lean function (tested against real Go, not proved from fmt's source: count such statements apart). THE CARD IS WHAT COUNTS. Prove the row's statement (the work); the ties are given (YtbilnlgjpchgiaaDoorTie.lean); close each card by the builder's one call (the guide's Derived/Test/ToyasCard.lean, 'card_holds'). Laid BY PROGRAM, IN A SANDBOX (cutbox-door.mjs). By AI agents, Wed Nov 11 2026. No macro, syntax, notation, axiom, sorry.
-/
import Derived.Test.YtbilnlgjpchgiaaDoorRows
import GoSem.ClaimSeven
namespace Go.Proofs.YtbilnlgjpchgiaaDoor
namespace Rows

/-- THE TIED CARD OF 'laws.FnExactFormatScript'. -/
def fnExactFormatScriptCard : Claim7 := { stood := { row := fnExactFormatScriptRow, standIns := [], harness := (true, "9949a9f8085a106c29cd69ab05ad8b34e69a0920804e879b629dbddee116e598"), looks := false }, kinds := [], alts := [], laidByText := true, laidKinds := [.data, .data, .data, .listed, .data, .data], laidTests := true, laidLooks := .later }
def FnExactFormatScriptCardSaid : Prop := Claim7.holds Tryd.pinned (.plain (OpenSpec.ofChange fnExactFormatScriptSpec)) fnExactFormatScriptCard

/-- THE TIED CARD OF 'laws.FnExactFormatAnswers'. -/
def fnExactFormatAnswersCard : Claim7 := { stood := { row := fnExactFormatAnswersRow, standIns := [], harness := (true, "9949a9f8085a106c29cd69ab05ad8b34e69a0920804e879b629dbddee116e598"), looks := false }, kinds := [], alts := [], laidByText := true, laidKinds := [.data, .data, .data], laidTests := true, laidLooks := .later }
def FnExactFormatAnswersCardSaid : Prop := Claim7.holds Tryd.pinned (.plain (OpenSpec.ofChange fnExactFormatAnswersSpec)) fnExactFormatAnswersCard

/-- THE SECOND FORM's CARD OF 'laws.FnExactFormatScript'. -/
def fnExactFormatScriptUptoCard : Claim7 := { stood := { row := fnExactFormatScriptUptoRow, standIns := [], harness := (true, "9949a9f8085a106c29cd69ab05ad8b34e69a0920804e879b629dbddee116e598"), looks := false }, kinds := [], alts := [], laidByText := true, laidKinds := [.data, .data, .data, .listed, .data, .data], laidTests := true, laidLooks := .later }
def FnExactFormatScriptUptoCardSaid : Prop := Claim7.holds Tryd.pinned (.plain (OpenSpec.upto fnExactFormatScriptSpec)) fnExactFormatScriptUptoCard

/-- THE SECOND FORM's CARD OF 'laws.FnExactFormatAnswers'. -/
def fnExactFormatAnswersUptoCard : Claim7 := { stood := { row := fnExactFormatAnswersUptoRow, standIns := [], harness := (true, "9949a9f8085a106c29cd69ab05ad8b34e69a0920804e879b629dbddee116e598"), looks := false }, kinds := [], alts := [], laidByText := true, laidKinds := [.data, .data, .data], laidTests := true, laidLooks := .later }
def FnExactFormatAnswersUptoCardSaid : Prop := Claim7.holds Tryd.pinned (.plain (OpenSpec.upto fnExactFormatAnswersSpec)) fnExactFormatAnswersUptoCard
end Rows
end Go.Proofs.YtbilnlgjpchgiaaDoor
