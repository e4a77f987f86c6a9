/-
  DERIVED. GIVEN WITH THE SEED: THE CARDS: each row of YtecjifbckjclfaaDoorRows.lean that lists a variable, with what it lists TIED to the program's text (the seventh form; the later family's looks); each row that meets fmt, with fmt's text TOLD by the authors' own Lean function (tested against real Go, not proved from fmt's source: count such statements apart). THE CARD IS WHAT COUNTS. Prove the row's statement (the work); the ties are given (YtecjifbckjclfaaDoorTie.lean); close each card by the builder's one call (the guide's Derived/Test/ToyasCard.lean, 'card_holds'). Laid BY PROGRAM, IN A SANDBOX (cutbox-door.mjs). By AI agents, Wed Nov 11 2026. No macro, syntax, notation, axiom, sorry.
-/
import Derived.Test.YtecjifbckjclfaaDoorRows
import GoSem.ClaimSeven
namespace Go.Proofs.YtecjifbckjclfaaDoor
namespace Rows

/-- THE TIED CARD OF 'laws.FnHops'. -/
def fnHopsCard : Claim7 := { stood := { row := fnHopsRow, standIns := [], harness := (true, "4b0096d366cdb13be76950702da0764616526dab8b98ca2fa96f898231cd5b99"), looks := false }, kinds := [], alts := [], laidByText := true, laidKinds := [.data, .pinned], laidTests := true, laidLooks := .later }
def FnHopsCardSaid : Prop := Claim7.holds Tryd.pinned (.plain (OpenSpec.ofChange fnHopsSpec)) fnHopsCard

/-- THE TIED CARD OF 'laws.FnMailPut'. -/
def fnMailPutCard : Claim7 := { stood := { row := fnMailPutRow, standIns := [], harness := (true, "4b0096d366cdb13be76950702da0764616526dab8b98ca2fa96f898231cd5b99"), looks := false }, kinds := [], alts := [], laidByText := true, laidKinds := [.data, .pinned], laidTests := true, laidLooks := .later }
def FnMailPutCardSaid : Prop := Claim7.holds Tryd.pinned (.plain (OpenSpec.ofChange fnMailPutSpec)) fnMailPutCard

/-- THE TIED CARD OF 'laws.FnMailGet'. -/
def fnMailGetCard : Claim7 := { stood := { row := fnMailGetRow, standIns := [], harness := (true, "4b0096d366cdb13be76950702da0764616526dab8b98ca2fa96f898231cd5b99"), looks := false }, kinds := [], alts := [], laidByText := true, laidKinds := [.data, .pinned], laidTests := true, laidLooks := .later }
def FnMailGetCardSaid : Prop := Claim7.holds Tryd.pinned (.plain (OpenSpec.ofChange fnMailGetSpec)) fnMailGetCard

/-- THE TIED CARD OF 'laws.FnWay'. -/
def fnWayCard : Claim7 := { stood := { row := fnWayRow, standIns := [], harness := (true, "4b0096d366cdb13be76950702da0764616526dab8b98ca2fa96f898231cd5b99"), looks := false }, kinds := [], alts := [], laidByText := true, laidKinds := [.data, .pinned], laidTests := true, laidLooks := .later }
def FnWayCardSaid : Prop := Claim7.holds Tryd.pinned (.plain (OpenSpec.ofChange fnWaySpec)) fnWayCard

/-- THE TIED CARD OF 'laws.FnTakes'. -/
def fnTakesCard : Claim7 := { stood := { row := fnTakesRow, standIns := [], harness := (true, "4b0096d366cdb13be76950702da0764616526dab8b98ca2fa96f898231cd5b99"), looks := false }, kinds := [], alts := [], laidByText := true, laidKinds := [.data, .pinned], laidTests := true, laidLooks := .later }
def FnTakesCardSaid : Prop := Claim7.holds Tryd.pinned (.plain (OpenSpec.ofChange fnTakesSpec)) fnTakesCard

/-- THE TIED CARD OF 'laws.FnCliNew'. -/
def fnCliNewCard : Claim7 := { stood := { row := fnCliNewRow, standIns := [], harness := (true, "4b0096d366cdb13be76950702da0764616526dab8b98ca2fa96f898231cd5b99"), looks := false }, kinds := [], alts := [], laidByText := true, laidKinds := [.data, .pinned], laidTests := true, laidLooks := .later }
def FnCliNewCardSaid : Prop := Claim7.holds Tryd.pinned (.plain (OpenSpec.ofChange fnCliNewSpec)) fnCliNewCard

/-- THE TIED CARD OF 'laws.FnCliOuts'. -/
def fnCliOutsCard : Claim7 := { stood := { row := fnCliOutsRow, standIns := [], harness := (true, "4b0096d366cdb13be76950702da0764616526dab8b98ca2fa96f898231cd5b99"), looks := false }, kinds := [], alts := [], laidByText := true, laidKinds := [.data, .pinned], laidTests := true, laidLooks := .later }
def FnCliOutsCardSaid : Prop := Claim7.holds Tryd.pinned (.plain (OpenSpec.ofChange fnCliOutsSpec)) fnCliOutsCard

/-- THE TIED CARD OF 'laws.FnSpoolDue'. -/
def fnSpoolDueCard : Claim7 := { stood := { row := fnSpoolDueRow, standIns := [], harness := (true, "4b0096d366cdb13be76950702da0764616526dab8b98ca2fa96f898231cd5b99"), looks := false }, kinds := [], alts := [], laidByText := true, laidKinds := [.data, .pinned], laidTests := true, laidLooks := .later }
def FnSpoolDueCardSaid : Prop := Claim7.holds Tryd.pinned (.plain (OpenSpec.ofChange fnSpoolDueSpec)) fnSpoolDueCard

/-- THE TIED CARD OF 'laws.FnExactMailGet'. -/
def fnExactMailGetCard : Claim7 := { stood := { row := fnExactMailGetRow, standIns := [], harness := (true, "4b0096d366cdb13be76950702da0764616526dab8b98ca2fa96f898231cd5b99"), looks := false }, kinds := [], alts := [], laidByText := true, laidKinds := [.data, .pinned], laidTests := true, laidLooks := .later }
def FnExactMailGetCardSaid : Prop := Claim7.holds Tryd.pinned (.plain (OpenSpec.ofChange fnExactMailGetSpec)) fnExactMailGetCard

/-- THE TIED CARD OF 'laws.FnExactCliOk'. -/
def fnExactCliOkCard : Claim7 := { stood := { row := fnExactCliOkRow, standIns := [], harness := (true, "4b0096d366cdb13be76950702da0764616526dab8b98ca2fa96f898231cd5b99"), looks := false }, kinds := [], alts := [], laidByText := true, laidKinds := [.data, .pinned], laidTests := true, laidLooks := .later }
def FnExactCliOkCardSaid : Prop := Claim7.holds Tryd.pinned (.plain (OpenSpec.ofChange fnExactCliOkSpec)) fnExactCliOkCard

/-- THE TIED CARD OF 'laws.FnExactCliNew'. -/
def fnExactCliNewCard : Claim7 := { stood := { row := fnExactCliNewRow, standIns := [], harness := (true, "4b0096d366cdb13be76950702da0764616526dab8b98ca2fa96f898231cd5b99"), looks := false }, kinds := [], alts := [], laidByText := true, laidKinds := [.data, .pinned], laidTests := true, laidLooks := .later }
def FnExactCliNewCardSaid : Prop := Claim7.holds Tryd.pinned (.plain (OpenSpec.ofChange fnExactCliNewSpec)) fnExactCliNewCard

/-- THE TIED CARD OF 'laws.FnExactCliOuts'. -/
def fnExactCliOutsCard : Claim7 := { stood := { row := fnExactCliOutsRow, standIns := [], harness := (true, "4b0096d366cdb13be76950702da0764616526dab8b98ca2fa96f898231cd5b99"), looks := false }, kinds := [], alts := [], laidByText := true, laidKinds := [.data, .pinned], laidTests := true, laidLooks := .later }
def FnExactCliOutsCardSaid : Prop := Claim7.holds Tryd.pinned (.plain (OpenSpec.ofChange fnExactCliOutsSpec)) fnExactCliOutsCard

/-- THE TIED CARD OF 'laws.FnExactSpoolOk'. -/
def fnExactSpoolOkCard : Claim7 := { stood := { row := fnExactSpoolOkRow, standIns := [], harness := (true, "4b0096d366cdb13be76950702da0764616526dab8b98ca2fa96f898231cd5b99"), looks := false }, kinds := [], alts := [], laidByText := true, laidKinds := [.data, .pinned], laidTests := true, laidLooks := .later }
def FnExactSpoolOkCardSaid : Prop := Claim7.holds Tryd.pinned (.plain (OpenSpec.ofChange fnExactSpoolOkSpec)) fnExactSpoolOkCard

/-- THE TIED CARD OF 'laws.FnExactSpoolDue'. -/
def fnExactSpoolDueCard : Claim7 := { stood := { row := fnExactSpoolDueRow, standIns := [], harness := (true, "4b0096d366cdb13be76950702da0764616526dab8b98ca2fa96f898231cd5b99"), looks := false }, kinds := [], alts := [], laidByText := true, laidKinds := [.data, .pinned], laidTests := true, laidLooks := .later }
def FnExactSpoolDueCardSaid : Prop := Claim7.holds Tryd.pinned (.plain (OpenSpec.ofChange fnExactSpoolDueSpec)) fnExactSpoolDueCard

/-- THE TIED CARD OF 'laws.FnExactSpoolMany'. -/
def fnExactSpoolManyCard : Claim7 := { stood := { row := fnExactSpoolManyRow, standIns := [], harness := (true, "4b0096d366cdb13be76950702da0764616526dab8b98ca2fa96f898231cd5b99"), looks := false }, kinds := [], alts := [], laidByText := true, laidKinds := [.data, .pinned], laidTests := true, laidLooks := .later }
def FnExactSpoolManyCardSaid : Prop := Claim7.holds Tryd.pinned (.plain (OpenSpec.ofChange fnExactSpoolManySpec)) fnExactSpoolManyCard

/-- THE SECOND FORM's CARD OF 'laws.FnHops'. -/
def fnHopsUptoCard : Claim7 := { stood := { row := fnHopsUptoRow, standIns := [], harness := (true, "4b0096d366cdb13be76950702da0764616526dab8b98ca2fa96f898231cd5b99"), looks := false }, kinds := [], alts := [], laidByText := true, laidKinds := [.data, .pinned], laidTests := true, laidLooks := .later }
def FnHopsUptoCardSaid : Prop := Claim7.holds Tryd.pinned (.plain (OpenSpec.upto fnHopsSpec)) fnHopsUptoCard

/-- THE SECOND FORM's CARD OF 'laws.FnMailPut'. -/
def fnMailPutUptoCard : Claim7 := { stood := { row := fnMailPutUptoRow, standIns := [], harness := (true, "4b0096d366cdb13be76950702da0764616526dab8b98ca2fa96f898231cd5b99"), looks := false }, kinds := [], alts := [], laidByText := true, laidKinds := [.data, .pinned], laidTests := true, laidLooks := .later }
def FnMailPutUptoCardSaid : Prop := Claim7.holds Tryd.pinned (.plain (OpenSpec.upto fnMailPutSpec)) fnMailPutUptoCard

/-- THE SECOND FORM's CARD OF 'laws.FnMailGet'. -/
def fnMailGetUptoCard : Claim7 := { stood := { row := fnMailGetUptoRow, standIns := [], harness := (true, "4b0096d366cdb13be76950702da0764616526dab8b98ca2fa96f898231cd5b99"), looks := false }, kinds := [], alts := [], laidByText := true, laidKinds := [.data, .pinned], laidTests := true, laidLooks := .later }
def FnMailGetUptoCardSaid : Prop := Claim7.holds Tryd.pinned (.plain (OpenSpec.upto fnMailGetSpec)) fnMailGetUptoCard

/-- THE SECOND FORM's CARD OF 'laws.FnWay'. -/
def fnWayUptoCard : Claim7 := { stood := { row := fnWayUptoRow, standIns := [], harness := (true, "4b0096d366cdb13be76950702da0764616526dab8b98ca2fa96f898231cd5b99"), looks := false }, kinds := [], alts := [], laidByText := true, laidKinds := [.data, .pinned], laidTests := true, laidLooks := .later }
def FnWayUptoCardSaid : Prop := Claim7.holds Tryd.pinned (.plain (OpenSpec.upto fnWaySpec)) fnWayUptoCard

/-- THE SECOND FORM's CARD OF 'laws.FnTakes'. -/
def fnTakesUptoCard : Claim7 := { stood := { row := fnTakesUptoRow, standIns := [], harness := (true, "4b0096d366cdb13be76950702da0764616526dab8b98ca2fa96f898231cd5b99"), looks := false }, kinds := [], alts := [], laidByText := true, laidKinds := [.data, .pinned], laidTests := true, laidLooks := .later }
def FnTakesUptoCardSaid : Prop := Claim7.holds Tryd.pinned (.plain (OpenSpec.upto fnTakesSpec)) fnTakesUptoCard

/-- THE SECOND FORM's CARD OF 'laws.FnCliNew'. -/
def fnCliNewUptoCard : Claim7 := { stood := { row := fnCliNewUptoRow, standIns := [], harness := (true, "4b0096d366cdb13be76950702da0764616526dab8b98ca2fa96f898231cd5b99"), looks := false }, kinds := [], alts := [], laidByText := true, laidKinds := [.data, .pinned], laidTests := true, laidLooks := .later }
def FnCliNewUptoCardSaid : Prop := Claim7.holds Tryd.pinned (.plain (OpenSpec.upto fnCliNewSpec)) fnCliNewUptoCard

/-- THE SECOND FORM's CARD OF 'laws.FnCliOuts'. -/
def fnCliOutsUptoCard : Claim7 := { stood := { row := fnCliOutsUptoRow, standIns := [], harness := (true, "4b0096d366cdb13be76950702da0764616526dab8b98ca2fa96f898231cd5b99"), looks := false }, kinds := [], alts := [], laidByText := true, laidKinds := [.data, .pinned], laidTests := true, laidLooks := .later }
def FnCliOutsUptoCardSaid : Prop := Claim7.holds Tryd.pinned (.plain (OpenSpec.upto fnCliOutsSpec)) fnCliOutsUptoCard

/-- THE SECOND FORM's CARD OF 'laws.FnSpoolDue'. -/
def fnSpoolDueUptoCard : Claim7 := { stood := { row := fnSpoolDueUptoRow, standIns := [], harness := (true, "4b0096d366cdb13be76950702da0764616526dab8b98ca2fa96f898231cd5b99"), looks := false }, kinds := [], alts := [], laidByText := true, laidKinds := [.data, .pinned], laidTests := true, laidLooks := .later }
def FnSpoolDueUptoCardSaid : Prop := Claim7.holds Tryd.pinned (.plain (OpenSpec.upto fnSpoolDueSpec)) fnSpoolDueUptoCard

/-- THE SECOND FORM's CARD OF 'laws.FnExactMailGet'. -/
def fnExactMailGetUptoCard : Claim7 := { stood := { row := fnExactMailGetUptoRow, standIns := [], harness := (true, "4b0096d366cdb13be76950702da0764616526dab8b98ca2fa96f898231cd5b99"), looks := false }, kinds := [], alts := [], laidByText := true, laidKinds := [.data, .pinned], laidTests := true, laidLooks := .later }
def FnExactMailGetUptoCardSaid : Prop := Claim7.holds Tryd.pinned (.plain (OpenSpec.upto fnExactMailGetSpec)) fnExactMailGetUptoCard

/-- THE SECOND FORM's CARD OF 'laws.FnExactCliOk'. -/
def fnExactCliOkUptoCard : Claim7 := { stood := { row := fnExactCliOkUptoRow, standIns := [], harness := (true, "4b0096d366cdb13be76950702da0764616526dab8b98ca2fa96f898231cd5b99"), looks := false }, kinds := [], alts := [], laidByText := true, laidKinds := [.data, .pinned], laidTests := true, laidLooks := .later }
def FnExactCliOkUptoCardSaid : Prop := Claim7.holds Tryd.pinned (.plain (OpenSpec.upto fnExactCliOkSpec)) fnExactCliOkUptoCard

/-- THE SECOND FORM's CARD OF 'laws.FnExactCliNew'. -/
def fnExactCliNewUptoCard : Claim7 := { stood := { row := fnExactCliNewUptoRow, standIns := [], harness := (true, "4b0096d366cdb13be76950702da0764616526dab8b98ca2fa96f898231cd5b99"), looks := false }, kinds := [], alts := [], laidByText := true, laidKinds := [.data, .pinned], laidTests := true, laidLooks := .later }
def FnExactCliNewUptoCardSaid : Prop := Claim7.holds Tryd.pinned (.plain (OpenSpec.upto fnExactCliNewSpec)) fnExactCliNewUptoCard

/-- THE SECOND FORM's CARD OF 'laws.FnExactCliOuts'. -/
def fnExactCliOutsUptoCard : Claim7 := { stood := { row := fnExactCliOutsUptoRow, standIns := [], harness := (true, "4b0096d366cdb13be76950702da0764616526dab8b98ca2fa96f898231cd5b99"), looks := false }, kinds := [], alts := [], laidByText := true, laidKinds := [.data, .pinned], laidTests := true, laidLooks := .later }
def FnExactCliOutsUptoCardSaid : Prop := Claim7.holds Tryd.pinned (.plain (OpenSpec.upto fnExactCliOutsSpec)) fnExactCliOutsUptoCard

/-- THE SECOND FORM's CARD OF 'laws.FnExactSpoolOk'. -/
def fnExactSpoolOkUptoCard : Claim7 := { stood := { row := fnExactSpoolOkUptoRow, standIns := [], harness := (true, "4b0096d366cdb13be76950702da0764616526dab8b98ca2fa96f898231cd5b99"), looks := false }, kinds := [], alts := [], laidByText := true, laidKinds := [.data, .pinned], laidTests := true, laidLooks := .later }
def FnExactSpoolOkUptoCardSaid : Prop := Claim7.holds Tryd.pinned (.plain (OpenSpec.upto fnExactSpoolOkSpec)) fnExactSpoolOkUptoCard

/-- THE SECOND FORM's CARD OF 'laws.FnExactSpoolDue'. -/
def fnExactSpoolDueUptoCard : Claim7 := { stood := { row := fnExactSpoolDueUptoRow, standIns := [], harness := (true, "4b0096d366cdb13be76950702da0764616526dab8b98ca2fa96f898231cd5b99"), looks := false }, kinds := [], alts := [], laidByText := true, laidKinds := [.data, .pinned], laidTests := true, laidLooks := .later }
def FnExactSpoolDueUptoCardSaid : Prop := Claim7.holds Tryd.pinned (.plain (OpenSpec.upto fnExactSpoolDueSpec)) fnExactSpoolDueUptoCard

/-- THE SECOND FORM's CARD OF 'laws.FnExactSpoolMany'. -/
def fnExactSpoolManyUptoCard : Claim7 := { stood := { row := fnExactSpoolManyUptoRow, standIns := [], harness := (true, "4b0096d366cdb13be76950702da0764616526dab8b98ca2fa96f898231cd5b99"), looks := false }, kinds := [], alts := [], laidByText := true, laidKinds := [.data, .pinned], laidTests := true, laidLooks := .later }
def FnExactSpoolManyUptoCardSaid : Prop := Claim7.holds Tryd.pinned (.plain (OpenSpec.upto fnExactSpoolManySpec)) fnExactSpoolManyUptoCard
end Rows
end Go.Proofs.YtecjifbckjclfaaDoor
