/-
  DERIVED. GIVEN WITH THE SEED: THE CARDS: each row of YtcaknjdolfheaaaGreatDoorRows.lean that lists a variable, with what it lists TIED to the program's text (the seventh form; the later family's looks); each row that meets fmt, with fmt's text TOLD by the authors' own Lean function (tested against real Go, not proved from fmt's source: count such statements apart). THE CARD IS WHAT COUNTS. Prove the row's statement (the work); the ties are given (YtcaknjdolfheaaaGreatDoorTie.lean); close each card by the builder's one call (the guide's Derived/Test/ToyasCard.lean, 'card_holds'). Laid BY PROGRAM, IN A SANDBOX (cutbox-door.mjs). By AI agents, Wed Nov 11 2026. No macro, syntax, notation, axiom, sorry.
-/
import Derived.Test.YtcaknjdolfheaaaGreatDoorRows
import GoSem.ClaimSeven
namespace Go.Proofs.YtcaknjdolfheaaaGreatDoor
namespace Rows

/-- THE TIED CARD OF 'laws.FnSpoolAdd'. -/
def fnSpoolAddCard : Claim7 := { stood := { row := fnSpoolAddRow, standIns := [], harness := (true, "eaffed3ab47402077faed7bbeebde78d6bcb43030fff0b94c8d46326f1ff02ad"), looks := true }, kinds := [], alts := [], laidByText := true, laidKinds := [.data, .pinned], laidTests := true, laidLooks := .later }
def FnSpoolAddCardSaid : Prop := Claim7.holds Tryz.pinned (.plain (OpenSpec.ofChange fnSpoolAddSpec)) fnSpoolAddCard

/-- THE TIED CARD OF 'laws.FnNotePut'. -/
def fnNotePutCard : Claim7 := { stood := { row := fnNotePutRow, standIns := [], harness := (true, "eaffed3ab47402077faed7bbeebde78d6bcb43030fff0b94c8d46326f1ff02ad"), looks := true }, kinds := [], alts := [], laidByText := true, laidKinds := [.data, .data, .data, .data, .sentinel, .sentinel, .pinned], laidTests := true, laidLooks := .later }
def FnNotePutCardSaid : Prop := Claim7.holds Tryz.pinned (.plain (OpenSpec.ofChange fnNotePutSpec)) fnNotePutCard

/-- THE TIED CARD OF 'laws.FnNoteGet'. -/
def fnNoteGetCard : Claim7 := { stood := { row := fnNoteGetRow, standIns := [], harness := (true, "eaffed3ab47402077faed7bbeebde78d6bcb43030fff0b94c8d46326f1ff02ad"), looks := true }, kinds := [], alts := [], laidByText := true, laidKinds := [.data, .data, .data, .data, .sentinel, .sentinel, .pinned], laidTests := true, laidLooks := .later }
def FnNoteGetCardSaid : Prop := Claim7.holds Tryz.pinned (.plain (OpenSpec.ofChange fnNoteGetSpec)) fnNoteGetCard

/-- THE TIED CARD OF 'laws.FnNoteDo'. -/
def fnNoteDoCard : Claim7 := { stood := { row := fnNoteDoRow, standIns := [], harness := (true, "eaffed3ab47402077faed7bbeebde78d6bcb43030fff0b94c8d46326f1ff02ad"), looks := true }, kinds := [], alts := [], laidByText := true, laidKinds := [.data, .pinned], laidTests := true, laidLooks := .later }
def FnNoteDoCardSaid : Prop := Claim7.holds Tryz.pinned (.plain (OpenSpec.ofChange fnNoteDoSpec)) fnNoteDoCard

/-- THE TIED CARD OF 'laws.FnExactNoteGet'. -/
def fnExactNoteGetCard : Claim7 := { stood := { row := fnExactNoteGetRow, standIns := [], harness := (true, "eaffed3ab47402077faed7bbeebde78d6bcb43030fff0b94c8d46326f1ff02ad"), looks := true }, kinds := [], alts := [], laidByText := true, laidKinds := [.data, .data, .data, .data, .sentinel, .sentinel, .pinned], laidTests := true, laidLooks := .later }
def FnExactNoteGetCardSaid : Prop := Claim7.holds Tryz.pinned (.plain (OpenSpec.ofChange fnExactNoteGetSpec)) fnExactNoteGetCard

/-- THE TIED CARD OF 'laws.FnExactNoteDo'. -/
def fnExactNoteDoCard : Claim7 := { stood := { row := fnExactNoteDoRow, standIns := [], harness := (true, "eaffed3ab47402077faed7bbeebde78d6bcb43030fff0b94c8d46326f1ff02ad"), looks := true }, kinds := [], alts := [], laidByText := true, laidKinds := [.data, .pinned], laidTests := true, laidLooks := .later }
def FnExactNoteDoCardSaid : Prop := Claim7.holds Tryz.pinned (.plain (OpenSpec.ofChange fnExactNoteDoSpec)) fnExactNoteDoCard

/-- THE TIED CARD OF 'laws.FnJourAdd'. -/
def fnJourAddCard : Claim7 := { stood := { row := fnJourAddRow, standIns := [], harness := (true, "eaffed3ab47402077faed7bbeebde78d6bcb43030fff0b94c8d46326f1ff02ad"), looks := true }, kinds := [], alts := [], laidByText := true, laidKinds := [.data, .data, .data, .data, .sentinel, .sentinel, .pinned], laidTests := true, laidLooks := .later }
def FnJourAddCardSaid : Prop := Claim7.holds Tryz.pinned (.plain (OpenSpec.ofChange fnJourAddSpec)) fnJourAddCard

/-- THE TIED CARD OF 'laws.FnJourTear'. -/
def fnJourTearCard : Claim7 := { stood := { row := fnJourTearRow, standIns := [], harness := (true, "eaffed3ab47402077faed7bbeebde78d6bcb43030fff0b94c8d46326f1ff02ad"), looks := true }, kinds := [], alts := [], laidByText := true, laidKinds := [.data, .data, .data, .data, .sentinel, .sentinel, .pinned], laidTests := true, laidLooks := .later }
def FnJourTearCardSaid : Prop := Claim7.holds Tryz.pinned (.plain (OpenSpec.ofChange fnJourTearSpec)) fnJourTearCard

/-- THE TIED CARD OF 'laws.FnJourRead'. -/
def fnJourReadCard : Claim7 := { stood := { row := fnJourReadRow, standIns := [], harness := (true, "eaffed3ab47402077faed7bbeebde78d6bcb43030fff0b94c8d46326f1ff02ad"), looks := true }, kinds := [], alts := [], laidByText := true, laidKinds := [.data, .data, .data, .data, .sentinel, .sentinel, .pinned], laidTests := true, laidLooks := .later }
def FnJourReadCardSaid : Prop := Claim7.holds Tryz.pinned (.plain (OpenSpec.ofChange fnJourReadSpec)) fnJourReadCard

/-- THE TIED CARD OF 'laws.FnExactJourRead'. -/
def fnExactJourReadCard : Claim7 := { stood := { row := fnExactJourReadRow, standIns := [], harness := (true, "eaffed3ab47402077faed7bbeebde78d6bcb43030fff0b94c8d46326f1ff02ad"), looks := true }, kinds := [], alts := [], laidByText := true, laidKinds := [.data, .data, .data, .data, .sentinel, .sentinel, .pinned], laidTests := true, laidLooks := .later }
def FnExactJourReadCardSaid : Prop := Claim7.holds Tryz.pinned (.plain (OpenSpec.ofChange fnExactJourReadSpec)) fnExactJourReadCard

/-- THE TIED CARD OF 'laws.FnExactJourAdd'. -/
def fnExactJourAddCard : Claim7 := { stood := { row := fnExactJourAddRow, standIns := [], harness := (true, "eaffed3ab47402077faed7bbeebde78d6bcb43030fff0b94c8d46326f1ff02ad"), looks := true }, kinds := [], alts := [], laidByText := true, laidKinds := [.data, .data, .data, .data, .sentinel, .sentinel, .pinned], laidTests := true, laidLooks := .later }
def FnExactJourAddCardSaid : Prop := Claim7.holds Tryz.pinned (.plain (OpenSpec.ofChange fnExactJourAddSpec)) fnExactJourAddCard

/-- THE TIED CARD OF 'laws.FnExactJourTear'. -/
def fnExactJourTearCard : Claim7 := { stood := { row := fnExactJourTearRow, standIns := [], harness := (true, "eaffed3ab47402077faed7bbeebde78d6bcb43030fff0b94c8d46326f1ff02ad"), looks := true }, kinds := [], alts := [], laidByText := true, laidKinds := [.data, .data, .data, .data, .sentinel, .sentinel, .pinned], laidTests := true, laidLooks := .later }
def FnExactJourTearCardSaid : Prop := Claim7.holds Tryz.pinned (.plain (OpenSpec.ofChange fnExactJourTearSpec)) fnExactJourTearCard

/-- THE SECOND FORM's CARD OF 'laws.FnSpoolAdd'. -/
def fnSpoolAddUptoCard : Claim7 := { stood := { row := fnSpoolAddUptoRow, standIns := [], harness := (true, "eaffed3ab47402077faed7bbeebde78d6bcb43030fff0b94c8d46326f1ff02ad"), looks := true }, kinds := [], alts := [], laidByText := true, laidKinds := [.data, .pinned], laidTests := true, laidLooks := .later }
def FnSpoolAddUptoCardSaid : Prop := Claim7.holds Tryz.pinned (.plain (OpenSpec.upto fnSpoolAddSpec)) fnSpoolAddUptoCard

/-- THE SECOND FORM's CARD OF 'laws.FnNotePut'. -/
def fnNotePutUptoCard : Claim7 := { stood := { row := fnNotePutUptoRow, standIns := [], harness := (true, "eaffed3ab47402077faed7bbeebde78d6bcb43030fff0b94c8d46326f1ff02ad"), looks := true }, kinds := [], alts := [], laidByText := true, laidKinds := [.data, .data, .data, .data, .sentinel, .sentinel, .pinned], laidTests := true, laidLooks := .later }
def FnNotePutUptoCardSaid : Prop := Claim7.holds Tryz.pinned (.plain (OpenSpec.upto fnNotePutSpec)) fnNotePutUptoCard

/-- THE SECOND FORM's CARD OF 'laws.FnNoteGet'. -/
def fnNoteGetUptoCard : Claim7 := { stood := { row := fnNoteGetUptoRow, standIns := [], harness := (true, "eaffed3ab47402077faed7bbeebde78d6bcb43030fff0b94c8d46326f1ff02ad"), looks := true }, kinds := [], alts := [], laidByText := true, laidKinds := [.data, .data, .data, .data, .sentinel, .sentinel, .pinned], laidTests := true, laidLooks := .later }
def FnNoteGetUptoCardSaid : Prop := Claim7.holds Tryz.pinned (.plain (OpenSpec.upto fnNoteGetSpec)) fnNoteGetUptoCard

/-- THE SECOND FORM's CARD OF 'laws.FnNoteDo'. -/
def fnNoteDoUptoCard : Claim7 := { stood := { row := fnNoteDoUptoRow, standIns := [], harness := (true, "eaffed3ab47402077faed7bbeebde78d6bcb43030fff0b94c8d46326f1ff02ad"), looks := true }, kinds := [], alts := [], laidByText := true, laidKinds := [.data, .pinned], laidTests := true, laidLooks := .later }
def FnNoteDoUptoCardSaid : Prop := Claim7.holds Tryz.pinned (.plain (OpenSpec.upto fnNoteDoSpec)) fnNoteDoUptoCard

/-- THE SECOND FORM's CARD OF 'laws.FnExactNoteGet'. -/
def fnExactNoteGetUptoCard : Claim7 := { stood := { row := fnExactNoteGetUptoRow, standIns := [], harness := (true, "eaffed3ab47402077faed7bbeebde78d6bcb43030fff0b94c8d46326f1ff02ad"), looks := true }, kinds := [], alts := [], laidByText := true, laidKinds := [.data, .data, .data, .data, .sentinel, .sentinel, .pinned], laidTests := true, laidLooks := .later }
def FnExactNoteGetUptoCardSaid : Prop := Claim7.holds Tryz.pinned (.plain (OpenSpec.upto fnExactNoteGetSpec)) fnExactNoteGetUptoCard

/-- THE SECOND FORM's CARD OF 'laws.FnExactNoteDo'. -/
def fnExactNoteDoUptoCard : Claim7 := { stood := { row := fnExactNoteDoUptoRow, standIns := [], harness := (true, "eaffed3ab47402077faed7bbeebde78d6bcb43030fff0b94c8d46326f1ff02ad"), looks := true }, kinds := [], alts := [], laidByText := true, laidKinds := [.data, .pinned], laidTests := true, laidLooks := .later }
def FnExactNoteDoUptoCardSaid : Prop := Claim7.holds Tryz.pinned (.plain (OpenSpec.upto fnExactNoteDoSpec)) fnExactNoteDoUptoCard

/-- THE SECOND FORM's CARD OF 'laws.FnJourAdd'. -/
def fnJourAddUptoCard : Claim7 := { stood := { row := fnJourAddUptoRow, standIns := [], harness := (true, "eaffed3ab47402077faed7bbeebde78d6bcb43030fff0b94c8d46326f1ff02ad"), looks := true }, kinds := [], alts := [], laidByText := true, laidKinds := [.data, .data, .data, .data, .sentinel, .sentinel, .pinned], laidTests := true, laidLooks := .later }
def FnJourAddUptoCardSaid : Prop := Claim7.holds Tryz.pinned (.plain (OpenSpec.upto fnJourAddSpec)) fnJourAddUptoCard

/-- THE SECOND FORM's CARD OF 'laws.FnJourTear'. -/
def fnJourTearUptoCard : Claim7 := { stood := { row := fnJourTearUptoRow, standIns := [], harness := (true, "eaffed3ab47402077faed7bbeebde78d6bcb43030fff0b94c8d46326f1ff02ad"), looks := true }, kinds := [], alts := [], laidByText := true, laidKinds := [.data, .data, .data, .data, .sentinel, .sentinel, .pinned], laidTests := true, laidLooks := .later }
def FnJourTearUptoCardSaid : Prop := Claim7.holds Tryz.pinned (.plain (OpenSpec.upto fnJourTearSpec)) fnJourTearUptoCard

/-- THE SECOND FORM's CARD OF 'laws.FnJourRead'. -/
def fnJourReadUptoCard : Claim7 := { stood := { row := fnJourReadUptoRow, standIns := [], harness := (true, "eaffed3ab47402077faed7bbeebde78d6bcb43030fff0b94c8d46326f1ff02ad"), looks := true }, kinds := [], alts := [], laidByText := true, laidKinds := [.data, .data, .data, .data, .sentinel, .sentinel, .pinned], laidTests := true, laidLooks := .later }
def FnJourReadUptoCardSaid : Prop := Claim7.holds Tryz.pinned (.plain (OpenSpec.upto fnJourReadSpec)) fnJourReadUptoCard

/-- THE SECOND FORM's CARD OF 'laws.FnExactJourRead'. -/
def fnExactJourReadUptoCard : Claim7 := { stood := { row := fnExactJourReadUptoRow, standIns := [], harness := (true, "eaffed3ab47402077faed7bbeebde78d6bcb43030fff0b94c8d46326f1ff02ad"), looks := true }, kinds := [], alts := [], laidByText := true, laidKinds := [.data, .data, .data, .data, .sentinel, .sentinel, .pinned], laidTests := true, laidLooks := .later }
def FnExactJourReadUptoCardSaid : Prop := Claim7.holds Tryz.pinned (.plain (OpenSpec.upto fnExactJourReadSpec)) fnExactJourReadUptoCard

/-- THE SECOND FORM's CARD OF 'laws.FnExactJourAdd'. -/
def fnExactJourAddUptoCard : Claim7 := { stood := { row := fnExactJourAddUptoRow, standIns := [], harness := (true, "eaffed3ab47402077faed7bbeebde78d6bcb43030fff0b94c8d46326f1ff02ad"), looks := true }, kinds := [], alts := [], laidByText := true, laidKinds := [.data, .data, .data, .data, .sentinel, .sentinel, .pinned], laidTests := true, laidLooks := .later }
def FnExactJourAddUptoCardSaid : Prop := Claim7.holds Tryz.pinned (.plain (OpenSpec.upto fnExactJourAddSpec)) fnExactJourAddUptoCard

/-- THE SECOND FORM's CARD OF 'laws.FnExactJourTear'. -/
def fnExactJourTearUptoCard : Claim7 := { stood := { row := fnExactJourTearUptoRow, standIns := [], harness := (true, "eaffed3ab47402077faed7bbeebde78d6bcb43030fff0b94c8d46326f1ff02ad"), looks := true }, kinds := [], alts := [], laidByText := true, laidKinds := [.data, .data, .data, .data, .sentinel, .sentinel, .pinned], laidTests := true, laidLooks := .later }
def FnExactJourTearUptoCardSaid : Prop := Claim7.holds Tryz.pinned (.plain (OpenSpec.upto fnExactJourTearSpec)) fnExactJourTearUptoCard
end Rows
end Go.Proofs.YtcaknjdolfheaaaGreatDoor
