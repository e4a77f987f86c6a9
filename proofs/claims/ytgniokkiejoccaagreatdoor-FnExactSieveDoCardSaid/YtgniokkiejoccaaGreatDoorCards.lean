/-
  DERIVED. GIVEN WITH THE SEED: THE CARDS: each row of YtgniokkiejoccaaGreatDoorRows.lean that lists a variable, with what it lists TIED to the program's text (the seventh form; the later family's looks); each row that meets fmt, with fmt's text TOLD by the authors' own Lean function (tested against real Go, not proved from fmt's source: count such statements apart). THE CARD IS WHAT COUNTS. Prove the row's statement (the work); the ties are given (YtgniokkiejoccaaGreatDoorTie.lean); close each card by the builder's one call (the guide's Derived/Test/ToyasCard.lean, 'card_holds'). Laid BY PROGRAM, IN A SANDBOX (cutbox-door.mjs). By AI agents, Wed Nov 11 2026. No macro, syntax, notation, axiom, sorry.
-/
import Derived.Test.YtgniokkiejoccaaGreatDoorRows
import GoSem.ClaimSeven
namespace Go.Proofs.YtgniokkiejoccaaGreatDoor
namespace Rows

/-- THE TIED CARD OF 'laws.FnExactSieveDo'. -/
def fnExactSieveDoCard : Claim7 := { stood := { row := fnExactSieveDoRow, standIns := [], harness := (true, "29124245ef43090eedb9b45c50e8b4a7978c1e62434739760604881d67548592"), looks := false }, kinds := [], alts := [], laidByText := true, laidKinds := [.data, .pinned], laidTests := true, laidLooks := .later }
def FnExactSieveDoCardSaid : Prop := Claim7.holds Tryz.pinned (.plain (OpenSpec.ofChange fnExactSieveDoSpec)) fnExactSieveDoCard

/-- THE SECOND FORM's CARD OF 'laws.FnExactSieveDo'. -/
def fnExactSieveDoUptoCard : Claim7 := { stood := { row := fnExactSieveDoUptoRow, standIns := [], harness := (true, "29124245ef43090eedb9b45c50e8b4a7978c1e62434739760604881d67548592"), looks := false }, kinds := [], alts := [], laidByText := true, laidKinds := [.data, .pinned], laidTests := true, laidLooks := .later }
def FnExactSieveDoUptoCardSaid : Prop := Claim7.holds Tryz.pinned (.plain (OpenSpec.upto fnExactSieveDoSpec)) fnExactSieveDoUptoCard
end Rows
end Go.Proofs.YtgniokkiejoccaaGreatDoor
