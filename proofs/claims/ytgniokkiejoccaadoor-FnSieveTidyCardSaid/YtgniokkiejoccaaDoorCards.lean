/-
  DERIVED. GIVEN WITH THE SEED: THE CARDS: each row of YtgniokkiejoccaaDoorRows.lean that lists a variable, with what it lists TIED to the program's text (the seventh form; the later family's looks); each row that meets fmt, with fmt's text TOLD by the authors' own Lean function (tested against real Go, not proved from fmt's source: count such statements apart). THE CARD IS WHAT COUNTS. Prove the row's statement (the work); the ties are given (YtgniokkiejoccaaDoorTie.lean); close each card by the builder's one call (the guide's Derived/Test/ToyasCard.lean, 'card_holds'). Laid BY PROGRAM, IN A SANDBOX (cutbox-door.mjs). By AI agents, Wed Nov 11 2026. No macro, syntax, notation, axiom, sorry.
-/
import Derived.Test.YtgniokkiejoccaaDoorRows
import GoSem.ClaimSeven
namespace Go.Proofs.YtgniokkiejoccaaDoor
namespace Rows

/-- THE TIED CARD OF 'laws.FnSieveFor'. -/
def fnSieveForCard : Claim7 := { stood := { row := fnSieveForRow, standIns := [], harness := (true, "9c2381ac163e3e0f84d1f008097a0a639ea18d3923da41187d5d9148ca014f71"), looks := false }, kinds := [], alts := [], laidByText := true, laidKinds := [.data, .pinned], laidTests := true, laidLooks := .later }
def FnSieveForCardSaid : Prop := Claim7.holds Tryd.pinned (.plain (OpenSpec.ofChange fnSieveForSpec)) fnSieveForCard

/-- THE TIED CARD OF 'laws.FnSieveDo'. -/
def fnSieveDoCard : Claim7 := { stood := { row := fnSieveDoRow, standIns := [], harness := (true, "9c2381ac163e3e0f84d1f008097a0a639ea18d3923da41187d5d9148ca014f71"), looks := false }, kinds := [], alts := [], laidByText := true, laidKinds := [.data, .pinned], laidTests := true, laidLooks := .later }
def FnSieveDoCardSaid : Prop := Claim7.holds Tryd.pinned (.plain (OpenSpec.ofChange fnSieveDoSpec)) fnSieveDoCard

/-- THE TIED CARD OF 'laws.FnSieveTidy'. -/
def fnSieveTidyCard : Claim7 := { stood := { row := fnSieveTidyRow, standIns := [], harness := (true, "9c2381ac163e3e0f84d1f008097a0a639ea18d3923da41187d5d9148ca014f71"), looks := false }, kinds := [], alts := [], laidByText := true, laidKinds := [.data, .pinned], laidTests := true, laidLooks := .later }
def FnSieveTidyCardSaid : Prop := Claim7.holds Tryd.pinned (.plain (OpenSpec.ofChange fnSieveTidySpec)) fnSieveTidyCard

/-- THE TIED CARD OF 'laws.FnExactSieveOk'. -/
def fnExactSieveOkCard : Claim7 := { stood := { row := fnExactSieveOkRow, standIns := [], harness := (true, "9c2381ac163e3e0f84d1f008097a0a639ea18d3923da41187d5d9148ca014f71"), looks := false }, kinds := [], alts := [], laidByText := true, laidKinds := [.data, .pinned], laidTests := true, laidLooks := .later }
def FnExactSieveOkCardSaid : Prop := Claim7.holds Tryd.pinned (.plain (OpenSpec.ofChange fnExactSieveOkSpec)) fnExactSieveOkCard

/-- THE TIED CARD OF 'laws.FnExactSieveFor'. -/
def fnExactSieveForCard : Claim7 := { stood := { row := fnExactSieveForRow, standIns := [], harness := (true, "9c2381ac163e3e0f84d1f008097a0a639ea18d3923da41187d5d9148ca014f71"), looks := false }, kinds := [], alts := [], laidByText := true, laidKinds := [.data, .pinned], laidTests := true, laidLooks := .later }
def FnExactSieveForCardSaid : Prop := Claim7.holds Tryd.pinned (.plain (OpenSpec.ofChange fnExactSieveForSpec)) fnExactSieveForCard

/-- THE TIED CARD OF 'laws.FnExactSieveTidy'. -/
def fnExactSieveTidyCard : Claim7 := { stood := { row := fnExactSieveTidyRow, standIns := [], harness := (true, "9c2381ac163e3e0f84d1f008097a0a639ea18d3923da41187d5d9148ca014f71"), looks := false }, kinds := [], alts := [], laidByText := true, laidKinds := [.data, .pinned], laidTests := true, laidLooks := .later }
def FnExactSieveTidyCardSaid : Prop := Claim7.holds Tryd.pinned (.plain (OpenSpec.ofChange fnExactSieveTidySpec)) fnExactSieveTidyCard

/-- THE SECOND FORM's CARD OF 'laws.FnSieveFor'. -/
def fnSieveForUptoCard : Claim7 := { stood := { row := fnSieveForUptoRow, standIns := [], harness := (true, "9c2381ac163e3e0f84d1f008097a0a639ea18d3923da41187d5d9148ca014f71"), looks := false }, kinds := [], alts := [], laidByText := true, laidKinds := [.data, .pinned], laidTests := true, laidLooks := .later }
def FnSieveForUptoCardSaid : Prop := Claim7.holds Tryd.pinned (.plain (OpenSpec.upto fnSieveForSpec)) fnSieveForUptoCard

/-- THE SECOND FORM's CARD OF 'laws.FnSieveDo'. -/
def fnSieveDoUptoCard : Claim7 := { stood := { row := fnSieveDoUptoRow, standIns := [], harness := (true, "9c2381ac163e3e0f84d1f008097a0a639ea18d3923da41187d5d9148ca014f71"), looks := false }, kinds := [], alts := [], laidByText := true, laidKinds := [.data, .pinned], laidTests := true, laidLooks := .later }
def FnSieveDoUptoCardSaid : Prop := Claim7.holds Tryd.pinned (.plain (OpenSpec.upto fnSieveDoSpec)) fnSieveDoUptoCard

/-- THE SECOND FORM's CARD OF 'laws.FnSieveTidy'. -/
def fnSieveTidyUptoCard : Claim7 := { stood := { row := fnSieveTidyUptoRow, standIns := [], harness := (true, "9c2381ac163e3e0f84d1f008097a0a639ea18d3923da41187d5d9148ca014f71"), looks := false }, kinds := [], alts := [], laidByText := true, laidKinds := [.data, .pinned], laidTests := true, laidLooks := .later }
def FnSieveTidyUptoCardSaid : Prop := Claim7.holds Tryd.pinned (.plain (OpenSpec.upto fnSieveTidySpec)) fnSieveTidyUptoCard

/-- THE SECOND FORM's CARD OF 'laws.FnExactSieveOk'. -/
def fnExactSieveOkUptoCard : Claim7 := { stood := { row := fnExactSieveOkUptoRow, standIns := [], harness := (true, "9c2381ac163e3e0f84d1f008097a0a639ea18d3923da41187d5d9148ca014f71"), looks := false }, kinds := [], alts := [], laidByText := true, laidKinds := [.data, .pinned], laidTests := true, laidLooks := .later }
def FnExactSieveOkUptoCardSaid : Prop := Claim7.holds Tryd.pinned (.plain (OpenSpec.upto fnExactSieveOkSpec)) fnExactSieveOkUptoCard

/-- THE SECOND FORM's CARD OF 'laws.FnExactSieveFor'. -/
def fnExactSieveForUptoCard : Claim7 := { stood := { row := fnExactSieveForUptoRow, standIns := [], harness := (true, "9c2381ac163e3e0f84d1f008097a0a639ea18d3923da41187d5d9148ca014f71"), looks := false }, kinds := [], alts := [], laidByText := true, laidKinds := [.data, .pinned], laidTests := true, laidLooks := .later }
def FnExactSieveForUptoCardSaid : Prop := Claim7.holds Tryd.pinned (.plain (OpenSpec.upto fnExactSieveForSpec)) fnExactSieveForUptoCard

/-- THE SECOND FORM's CARD OF 'laws.FnExactSieveTidy'. -/
def fnExactSieveTidyUptoCard : Claim7 := { stood := { row := fnExactSieveTidyUptoRow, standIns := [], harness := (true, "9c2381ac163e3e0f84d1f008097a0a639ea18d3923da41187d5d9148ca014f71"), looks := false }, kinds := [], alts := [], laidByText := true, laidKinds := [.data, .pinned], laidTests := true, laidLooks := .later }
def FnExactSieveTidyUptoCardSaid : Prop := Claim7.holds Tryd.pinned (.plain (OpenSpec.upto fnExactSieveTidySpec)) fnExactSieveTidyUptoCard
end Rows
end Go.Proofs.YtgniokkiejoccaaDoor
