/-
  DERIVED. GIVEN WITH THE SEED: THE CARDS: each row of YtfffocfcnigogaaGreatDoorRows.lean that lists a variable, with what it lists TIED to the program's text (the seventh form; the later family's looks); each row that meets fmt, with fmt's text TOLD by the authors' own Lean function (tested against real Go, not proved from fmt's source: count such statements apart). THE CARD IS WHAT COUNTS. Prove the row's statement (the work); the ties are given (YtfffocfcnigogaaGreatDoorTie.lean); close each card by the builder's one call (the guide's Derived/Test/ToyasCard.lean, 'card_holds'). Laid BY PROGRAM, IN A SANDBOX (cutbox-door.mjs). By AI agents, Wed Nov 11 2026. No macro, syntax, notation, axiom, sorry.
-/
import Derived.Test.YtfffocfcnigogaaGreatDoorRows
import GoSem.ClaimSeven
namespace Go.Proofs.YtfffocfcnigogaaGreatDoor
namespace Rows

/-- THE TIED CARD OF 'laws.FnSpoolAdd'. -/
def fnSpoolAddCard : Claim7 := { stood := { row := fnSpoolAddRow, standIns := [], harness := (true, "9aa24b4914d6f0a36fda554372a37adf6dd39d845b6f5cb8bdf30bd227dae7c0"), looks := true }, kinds := [], alts := [], laidByText := true, laidKinds := [.data, .pinned], laidTests := true, laidLooks := .later }
def FnSpoolAddCardSaid : Prop := Claim7.holds Tryz.pinned (.plain (OpenSpec.ofChange fnSpoolAddSpec)) fnSpoolAddCard

/-- THE TIED CARD OF 'laws.FnNotePut'. -/
def fnNotePutCard : Claim7 := { stood := { row := fnNotePutRow, standIns := [], harness := (true, "9aa24b4914d6f0a36fda554372a37adf6dd39d845b6f5cb8bdf30bd227dae7c0"), looks := true }, kinds := [], alts := [], laidByText := true, laidKinds := [.data, .data, .data, .data, .sentinel, .sentinel, .pinned], laidTests := true, laidLooks := .later }
def FnNotePutCardSaid : Prop := Claim7.holds Tryz.pinned (.plain (OpenSpec.ofChange fnNotePutSpec)) fnNotePutCard

/-- THE TIED CARD OF 'laws.FnNoteGet'. -/
def fnNoteGetCard : Claim7 := { stood := { row := fnNoteGetRow, standIns := [], harness := (true, "9aa24b4914d6f0a36fda554372a37adf6dd39d845b6f5cb8bdf30bd227dae7c0"), looks := true }, kinds := [], alts := [], laidByText := true, laidKinds := [.data, .data, .data, .data, .sentinel, .sentinel, .pinned], laidTests := true, laidLooks := .later }
def FnNoteGetCardSaid : Prop := Claim7.holds Tryz.pinned (.plain (OpenSpec.ofChange fnNoteGetSpec)) fnNoteGetCard

/-- THE TIED CARD OF 'laws.FnNoteDo'. -/
def fnNoteDoCard : Claim7 := { stood := { row := fnNoteDoRow, standIns := [], harness := (true, "9aa24b4914d6f0a36fda554372a37adf6dd39d845b6f5cb8bdf30bd227dae7c0"), looks := true }, kinds := [], alts := [], laidByText := true, laidKinds := [.data, .pinned], laidTests := true, laidLooks := .later }
def FnNoteDoCardSaid : Prop := Claim7.holds Tryz.pinned (.plain (OpenSpec.ofChange fnNoteDoSpec)) fnNoteDoCard

/-- THE TIED CARD OF 'laws.FnExactSpoolAdd'. -/
def fnExactSpoolAddCard : Claim7 := { stood := { row := fnExactSpoolAddRow, standIns := [], harness := (true, "9aa24b4914d6f0a36fda554372a37adf6dd39d845b6f5cb8bdf30bd227dae7c0"), looks := true }, kinds := [], alts := [], laidByText := true, laidKinds := [.data, .pinned], laidTests := true, laidLooks := .later }
def FnExactSpoolAddCardSaid : Prop := Claim7.holds Tryz.pinned (.plain (OpenSpec.ofChange fnExactSpoolAddSpec)) fnExactSpoolAddCard

/-- THE TIED CARD OF 'laws.FnExactSpoolDone'. -/
def fnExactSpoolDoneCard : Claim7 := { stood := { row := fnExactSpoolDoneRow, standIns := [], harness := (true, "9aa24b4914d6f0a36fda554372a37adf6dd39d845b6f5cb8bdf30bd227dae7c0"), looks := true }, kinds := [], alts := [], laidByText := true, laidKinds := [.data, .pinned], laidTests := true, laidLooks := .later }
def FnExactSpoolDoneCardSaid : Prop := Claim7.holds Tryz.pinned (.plain (OpenSpec.ofChange fnExactSpoolDoneSpec)) fnExactSpoolDoneCard

/-- THE TIED CARD OF 'laws.FnExactSpoolLater'. -/
def fnExactSpoolLaterCard : Claim7 := { stood := { row := fnExactSpoolLaterRow, standIns := [], harness := (true, "9aa24b4914d6f0a36fda554372a37adf6dd39d845b6f5cb8bdf30bd227dae7c0"), looks := true }, kinds := [], alts := [], laidByText := true, laidKinds := [.data, .pinned], laidTests := true, laidLooks := .later }
def FnExactSpoolLaterCardSaid : Prop := Claim7.holds Tryz.pinned (.plain (OpenSpec.ofChange fnExactSpoolLaterSpec)) fnExactSpoolLaterCard

/-- THE TIED CARD OF 'laws.FnExactNoteGet'. -/
def fnExactNoteGetCard : Claim7 := { stood := { row := fnExactNoteGetRow, standIns := [], harness := (true, "9aa24b4914d6f0a36fda554372a37adf6dd39d845b6f5cb8bdf30bd227dae7c0"), looks := true }, kinds := [], alts := [], laidByText := true, laidKinds := [.data, .data, .data, .data, .sentinel, .sentinel, .pinned], laidTests := true, laidLooks := .later }
def FnExactNoteGetCardSaid : Prop := Claim7.holds Tryz.pinned (.plain (OpenSpec.ofChange fnExactNoteGetSpec)) fnExactNoteGetCard

/-- THE TIED CARD OF 'laws.FnExactNoteDo'. -/
def fnExactNoteDoCard : Claim7 := { stood := { row := fnExactNoteDoRow, standIns := [], harness := (true, "9aa24b4914d6f0a36fda554372a37adf6dd39d845b6f5cb8bdf30bd227dae7c0"), looks := true }, kinds := [], alts := [], laidByText := true, laidKinds := [.data, .pinned], laidTests := true, laidLooks := .later }
def FnExactNoteDoCardSaid : Prop := Claim7.holds Tryz.pinned (.plain (OpenSpec.ofChange fnExactNoteDoSpec)) fnExactNoteDoCard

/-- THE SECOND FORM's CARD OF 'laws.FnSpoolAdd'. -/
def fnSpoolAddUptoCard : Claim7 := { stood := { row := fnSpoolAddUptoRow, standIns := [], harness := (true, "9aa24b4914d6f0a36fda554372a37adf6dd39d845b6f5cb8bdf30bd227dae7c0"), looks := true }, kinds := [], alts := [], laidByText := true, laidKinds := [.data, .pinned], laidTests := true, laidLooks := .later }
def FnSpoolAddUptoCardSaid : Prop := Claim7.holds Tryz.pinned (.plain (OpenSpec.upto fnSpoolAddSpec)) fnSpoolAddUptoCard

/-- THE SECOND FORM's CARD OF 'laws.FnNotePut'. -/
def fnNotePutUptoCard : Claim7 := { stood := { row := fnNotePutUptoRow, standIns := [], harness := (true, "9aa24b4914d6f0a36fda554372a37adf6dd39d845b6f5cb8bdf30bd227dae7c0"), looks := true }, kinds := [], alts := [], laidByText := true, laidKinds := [.data, .data, .data, .data, .sentinel, .sentinel, .pinned], laidTests := true, laidLooks := .later }
def FnNotePutUptoCardSaid : Prop := Claim7.holds Tryz.pinned (.plain (OpenSpec.upto fnNotePutSpec)) fnNotePutUptoCard

/-- THE SECOND FORM's CARD OF 'laws.FnNoteGet'. -/
def fnNoteGetUptoCard : Claim7 := { stood := { row := fnNoteGetUptoRow, standIns := [], harness := (true, "9aa24b4914d6f0a36fda554372a37adf6dd39d845b6f5cb8bdf30bd227dae7c0"), looks := true }, kinds := [], alts := [], laidByText := true, laidKinds := [.data, .data, .data, .data, .sentinel, .sentinel, .pinned], laidTests := true, laidLooks := .later }
def FnNoteGetUptoCardSaid : Prop := Claim7.holds Tryz.pinned (.plain (OpenSpec.upto fnNoteGetSpec)) fnNoteGetUptoCard

/-- THE SECOND FORM's CARD OF 'laws.FnNoteDo'. -/
def fnNoteDoUptoCard : Claim7 := { stood := { row := fnNoteDoUptoRow, standIns := [], harness := (true, "9aa24b4914d6f0a36fda554372a37adf6dd39d845b6f5cb8bdf30bd227dae7c0"), looks := true }, kinds := [], alts := [], laidByText := true, laidKinds := [.data, .pinned], laidTests := true, laidLooks := .later }
def FnNoteDoUptoCardSaid : Prop := Claim7.holds Tryz.pinned (.plain (OpenSpec.upto fnNoteDoSpec)) fnNoteDoUptoCard

/-- THE SECOND FORM's CARD OF 'laws.FnExactSpoolAdd'. -/
def fnExactSpoolAddUptoCard : Claim7 := { stood := { row := fnExactSpoolAddUptoRow, standIns := [], harness := (true, "9aa24b4914d6f0a36fda554372a37adf6dd39d845b6f5cb8bdf30bd227dae7c0"), looks := true }, kinds := [], alts := [], laidByText := true, laidKinds := [.data, .pinned], laidTests := true, laidLooks := .later }
def FnExactSpoolAddUptoCardSaid : Prop := Claim7.holds Tryz.pinned (.plain (OpenSpec.upto fnExactSpoolAddSpec)) fnExactSpoolAddUptoCard

/-- THE SECOND FORM's CARD OF 'laws.FnExactSpoolDone'. -/
def fnExactSpoolDoneUptoCard : Claim7 := { stood := { row := fnExactSpoolDoneUptoRow, standIns := [], harness := (true, "9aa24b4914d6f0a36fda554372a37adf6dd39d845b6f5cb8bdf30bd227dae7c0"), looks := true }, kinds := [], alts := [], laidByText := true, laidKinds := [.data, .pinned], laidTests := true, laidLooks := .later }
def FnExactSpoolDoneUptoCardSaid : Prop := Claim7.holds Tryz.pinned (.plain (OpenSpec.upto fnExactSpoolDoneSpec)) fnExactSpoolDoneUptoCard

/-- THE SECOND FORM's CARD OF 'laws.FnExactSpoolLater'. -/
def fnExactSpoolLaterUptoCard : Claim7 := { stood := { row := fnExactSpoolLaterUptoRow, standIns := [], harness := (true, "9aa24b4914d6f0a36fda554372a37adf6dd39d845b6f5cb8bdf30bd227dae7c0"), looks := true }, kinds := [], alts := [], laidByText := true, laidKinds := [.data, .pinned], laidTests := true, laidLooks := .later }
def FnExactSpoolLaterUptoCardSaid : Prop := Claim7.holds Tryz.pinned (.plain (OpenSpec.upto fnExactSpoolLaterSpec)) fnExactSpoolLaterUptoCard

/-- THE SECOND FORM's CARD OF 'laws.FnExactNoteGet'. -/
def fnExactNoteGetUptoCard : Claim7 := { stood := { row := fnExactNoteGetUptoRow, standIns := [], harness := (true, "9aa24b4914d6f0a36fda554372a37adf6dd39d845b6f5cb8bdf30bd227dae7c0"), looks := true }, kinds := [], alts := [], laidByText := true, laidKinds := [.data, .data, .data, .data, .sentinel, .sentinel, .pinned], laidTests := true, laidLooks := .later }
def FnExactNoteGetUptoCardSaid : Prop := Claim7.holds Tryz.pinned (.plain (OpenSpec.upto fnExactNoteGetSpec)) fnExactNoteGetUptoCard

/-- THE SECOND FORM's CARD OF 'laws.FnExactNoteDo'. -/
def fnExactNoteDoUptoCard : Claim7 := { stood := { row := fnExactNoteDoUptoRow, standIns := [], harness := (true, "9aa24b4914d6f0a36fda554372a37adf6dd39d845b6f5cb8bdf30bd227dae7c0"), looks := true }, kinds := [], alts := [], laidByText := true, laidKinds := [.data, .pinned], laidTests := true, laidLooks := .later }
def FnExactNoteDoUptoCardSaid : Prop := Claim7.holds Tryz.pinned (.plain (OpenSpec.upto fnExactNoteDoSpec)) fnExactNoteDoUptoCard
end Rows
end Go.Proofs.YtfffocfcnigogaaGreatDoor
