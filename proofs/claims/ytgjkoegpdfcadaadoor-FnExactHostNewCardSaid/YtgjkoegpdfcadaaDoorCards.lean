/-
  DERIVED. GIVEN WITH THE SEED: THE CARDS: each row of YtgjkoegpdfcadaaDoorRows.lean that lists a variable, with what it lists TIED to the program's text (the seventh form; the later family's looks); each row that meets fmt, with fmt's text TOLD by the authors' own Lean function (tested against real Go, not proved from fmt's source: count such statements apart). THE CARD IS WHAT COUNTS. Prove the row's statement (the work); the ties are given (YtgjkoegpdfcadaaDoorTie.lean); close each card by the builder's one call (the guide's Derived/Test/ToyasCard.lean, 'card_holds'). Laid BY PROGRAM, IN A SANDBOX (cutbox-door.mjs). By AI agents, Wed Nov 11 2026. No macro, syntax, notation, axiom, sorry.
-/
import Derived.Test.YtgjkoegpdfcadaaDoorRows
import GoSem.ClaimSeven
namespace Go.Proofs.YtgjkoegpdfcadaaDoor
namespace Rows

/-- THE TIED CARD OF 'laws.FnWay'. -/
def fnWayCard : Claim7 := { stood := { row := fnWayRow, standIns := [], harness := (true, "3266b70390c8aa3d4084d3968460c2f600705b846803dcac22ab178ee3d7fdbe"), looks := false }, kinds := [], alts := [], laidByText := true, laidKinds := [.data, .pinned], laidTests := true, laidLooks := .later }
def FnWayCardSaid : Prop := Claim7.holds Tryd.pinned (.plain (OpenSpec.ofChange fnWaySpec)) fnWayCard

/-- THE TIED CARD OF 'laws.FnCliNew'. -/
def fnCliNewCard : Claim7 := { stood := { row := fnCliNewRow, standIns := [], harness := (true, "3266b70390c8aa3d4084d3968460c2f600705b846803dcac22ab178ee3d7fdbe"), looks := false }, kinds := [], alts := [], laidByText := true, laidKinds := [.data, .pinned], laidTests := true, laidLooks := .later }
def FnCliNewCardSaid : Prop := Claim7.holds Tryd.pinned (.plain (OpenSpec.ofChange fnCliNewSpec)) fnCliNewCard

/-- THE TIED CARD OF 'laws.FnCliOuts'. -/
def fnCliOutsCard : Claim7 := { stood := { row := fnCliOutsRow, standIns := [], harness := (true, "3266b70390c8aa3d4084d3968460c2f600705b846803dcac22ab178ee3d7fdbe"), looks := false }, kinds := [], alts := [], laidByText := true, laidKinds := [.data, .pinned], laidTests := true, laidLooks := .later }
def FnCliOutsCardSaid : Prop := Claim7.holds Tryd.pinned (.plain (OpenSpec.ofChange fnCliOutsSpec)) fnCliOutsCard

/-- THE TIED CARD OF 'laws.FnSpoolLater'. -/
def fnSpoolLaterCard : Claim7 := { stood := { row := fnSpoolLaterRow, standIns := [], harness := (true, "3266b70390c8aa3d4084d3968460c2f600705b846803dcac22ab178ee3d7fdbe"), looks := false }, kinds := [], alts := [], laidByText := true, laidKinds := [.data, .pinned], laidTests := true, laidLooks := .later }
def FnSpoolLaterCardSaid : Prop := Claim7.holds Tryd.pinned (.plain (OpenSpec.ofChange fnSpoolLaterSpec)) fnSpoolLaterCard

/-- THE TIED CARD OF 'laws.FnSpoolDue'. -/
def fnSpoolDueCard : Claim7 := { stood := { row := fnSpoolDueRow, standIns := [], harness := (true, "3266b70390c8aa3d4084d3968460c2f600705b846803dcac22ab178ee3d7fdbe"), looks := false }, kinds := [], alts := [], laidByText := true, laidKinds := [.data, .pinned], laidTests := true, laidLooks := .later }
def FnSpoolDueCardSaid : Prop := Claim7.holds Tryd.pinned (.plain (OpenSpec.ofChange fnSpoolDueSpec)) fnSpoolDueCard

/-- THE TIED CARD OF 'laws.FnHostNew'. -/
def fnHostNewCard : Claim7 := { stood := { row := fnHostNewRow, standIns := [], harness := (true, "3266b70390c8aa3d4084d3968460c2f600705b846803dcac22ab178ee3d7fdbe"), looks := false }, kinds := [], alts := [], laidByText := true, laidKinds := [.data, .pinned], laidTests := true, laidLooks := .later }
def FnHostNewCardSaid : Prop := Claim7.holds Tryd.pinned (.plain (OpenSpec.ofChange fnHostNewSpec)) fnHostNewCard

/-- THE TIED CARD OF 'laws.FnExactSpoolOk'. -/
def fnExactSpoolOkCard : Claim7 := { stood := { row := fnExactSpoolOkRow, standIns := [], harness := (true, "3266b70390c8aa3d4084d3968460c2f600705b846803dcac22ab178ee3d7fdbe"), looks := false }, kinds := [], alts := [], laidByText := true, laidKinds := [.data, .pinned], laidTests := true, laidLooks := .later }
def FnExactSpoolOkCardSaid : Prop := Claim7.holds Tryd.pinned (.plain (OpenSpec.ofChange fnExactSpoolOkSpec)) fnExactSpoolOkCard

/-- THE TIED CARD OF 'laws.FnExactSpoolDue'. -/
def fnExactSpoolDueCard : Claim7 := { stood := { row := fnExactSpoolDueRow, standIns := [], harness := (true, "3266b70390c8aa3d4084d3968460c2f600705b846803dcac22ab178ee3d7fdbe"), looks := false }, kinds := [], alts := [], laidByText := true, laidKinds := [.data, .pinned], laidTests := true, laidLooks := .later }
def FnExactSpoolDueCardSaid : Prop := Claim7.holds Tryd.pinned (.plain (OpenSpec.ofChange fnExactSpoolDueSpec)) fnExactSpoolDueCard

/-- THE TIED CARD OF 'laws.FnExactSpoolMany'. -/
def fnExactSpoolManyCard : Claim7 := { stood := { row := fnExactSpoolManyRow, standIns := [], harness := (true, "3266b70390c8aa3d4084d3968460c2f600705b846803dcac22ab178ee3d7fdbe"), looks := false }, kinds := [], alts := [], laidByText := true, laidKinds := [.data, .pinned], laidTests := true, laidLooks := .later }
def FnExactSpoolManyCardSaid : Prop := Claim7.holds Tryd.pinned (.plain (OpenSpec.ofChange fnExactSpoolManySpec)) fnExactSpoolManyCard

/-- THE TIED CARD OF 'laws.FnExactNoteOk'. -/
def fnExactNoteOkCard : Claim7 := { stood := { row := fnExactNoteOkRow, standIns := [], harness := (true, "3266b70390c8aa3d4084d3968460c2f600705b846803dcac22ab178ee3d7fdbe"), looks := false }, kinds := [], alts := [], laidByText := true, laidKinds := [.data, .pinned], laidTests := true, laidLooks := .later }
def FnExactNoteOkCardSaid : Prop := Claim7.holds Tryd.pinned (.plain (OpenSpec.ofChange fnExactNoteOkSpec)) fnExactNoteOkCard

/-- THE TIED CARD OF 'laws.FnExactNotePut'. -/
def fnExactNotePutCard : Claim7 := { stood := { row := fnExactNotePutRow, standIns := [], harness := (true, "3266b70390c8aa3d4084d3968460c2f600705b846803dcac22ab178ee3d7fdbe"), looks := false }, kinds := [], alts := [], laidByText := true, laidKinds := [.data, .pinned], laidTests := true, laidLooks := .later }
def FnExactNotePutCardSaid : Prop := Claim7.holds Tryd.pinned (.plain (OpenSpec.ofChange fnExactNotePutSpec)) fnExactNotePutCard

/-- THE TIED CARD OF 'laws.FnExactHostNew'. -/
def fnExactHostNewCard : Claim7 := { stood := { row := fnExactHostNewRow, standIns := [], harness := (true, "3266b70390c8aa3d4084d3968460c2f600705b846803dcac22ab178ee3d7fdbe"), looks := false }, kinds := [], alts := [], laidByText := true, laidKinds := [.data, .pinned], laidTests := true, laidLooks := .later }
def FnExactHostNewCardSaid : Prop := Claim7.holds Tryd.pinned (.plain (OpenSpec.ofChange fnExactHostNewSpec)) fnExactHostNewCard

/-- THE SECOND FORM's CARD OF 'laws.FnWay'. -/
def fnWayUptoCard : Claim7 := { stood := { row := fnWayUptoRow, standIns := [], harness := (true, "3266b70390c8aa3d4084d3968460c2f600705b846803dcac22ab178ee3d7fdbe"), looks := false }, kinds := [], alts := [], laidByText := true, laidKinds := [.data, .pinned], laidTests := true, laidLooks := .later }
def FnWayUptoCardSaid : Prop := Claim7.holds Tryd.pinned (.plain (OpenSpec.upto fnWaySpec)) fnWayUptoCard

/-- THE SECOND FORM's CARD OF 'laws.FnCliNew'. -/
def fnCliNewUptoCard : Claim7 := { stood := { row := fnCliNewUptoRow, standIns := [], harness := (true, "3266b70390c8aa3d4084d3968460c2f600705b846803dcac22ab178ee3d7fdbe"), looks := false }, kinds := [], alts := [], laidByText := true, laidKinds := [.data, .pinned], laidTests := true, laidLooks := .later }
def FnCliNewUptoCardSaid : Prop := Claim7.holds Tryd.pinned (.plain (OpenSpec.upto fnCliNewSpec)) fnCliNewUptoCard

/-- THE SECOND FORM's CARD OF 'laws.FnCliOuts'. -/
def fnCliOutsUptoCard : Claim7 := { stood := { row := fnCliOutsUptoRow, standIns := [], harness := (true, "3266b70390c8aa3d4084d3968460c2f600705b846803dcac22ab178ee3d7fdbe"), looks := false }, kinds := [], alts := [], laidByText := true, laidKinds := [.data, .pinned], laidTests := true, laidLooks := .later }
def FnCliOutsUptoCardSaid : Prop := Claim7.holds Tryd.pinned (.plain (OpenSpec.upto fnCliOutsSpec)) fnCliOutsUptoCard

/-- THE SECOND FORM's CARD OF 'laws.FnSpoolLater'. -/
def fnSpoolLaterUptoCard : Claim7 := { stood := { row := fnSpoolLaterUptoRow, standIns := [], harness := (true, "3266b70390c8aa3d4084d3968460c2f600705b846803dcac22ab178ee3d7fdbe"), looks := false }, kinds := [], alts := [], laidByText := true, laidKinds := [.data, .pinned], laidTests := true, laidLooks := .later }
def FnSpoolLaterUptoCardSaid : Prop := Claim7.holds Tryd.pinned (.plain (OpenSpec.upto fnSpoolLaterSpec)) fnSpoolLaterUptoCard

/-- THE SECOND FORM's CARD OF 'laws.FnSpoolDue'. -/
def fnSpoolDueUptoCard : Claim7 := { stood := { row := fnSpoolDueUptoRow, standIns := [], harness := (true, "3266b70390c8aa3d4084d3968460c2f600705b846803dcac22ab178ee3d7fdbe"), looks := false }, kinds := [], alts := [], laidByText := true, laidKinds := [.data, .pinned], laidTests := true, laidLooks := .later }
def FnSpoolDueUptoCardSaid : Prop := Claim7.holds Tryd.pinned (.plain (OpenSpec.upto fnSpoolDueSpec)) fnSpoolDueUptoCard

/-- THE SECOND FORM's CARD OF 'laws.FnHostNew'. -/
def fnHostNewUptoCard : Claim7 := { stood := { row := fnHostNewUptoRow, standIns := [], harness := (true, "3266b70390c8aa3d4084d3968460c2f600705b846803dcac22ab178ee3d7fdbe"), looks := false }, kinds := [], alts := [], laidByText := true, laidKinds := [.data, .pinned], laidTests := true, laidLooks := .later }
def FnHostNewUptoCardSaid : Prop := Claim7.holds Tryd.pinned (.plain (OpenSpec.upto fnHostNewSpec)) fnHostNewUptoCard

/-- THE SECOND FORM's CARD OF 'laws.FnExactSpoolOk'. -/
def fnExactSpoolOkUptoCard : Claim7 := { stood := { row := fnExactSpoolOkUptoRow, standIns := [], harness := (true, "3266b70390c8aa3d4084d3968460c2f600705b846803dcac22ab178ee3d7fdbe"), looks := false }, kinds := [], alts := [], laidByText := true, laidKinds := [.data, .pinned], laidTests := true, laidLooks := .later }
def FnExactSpoolOkUptoCardSaid : Prop := Claim7.holds Tryd.pinned (.plain (OpenSpec.upto fnExactSpoolOkSpec)) fnExactSpoolOkUptoCard

/-- THE SECOND FORM's CARD OF 'laws.FnExactSpoolDue'. -/
def fnExactSpoolDueUptoCard : Claim7 := { stood := { row := fnExactSpoolDueUptoRow, standIns := [], harness := (true, "3266b70390c8aa3d4084d3968460c2f600705b846803dcac22ab178ee3d7fdbe"), looks := false }, kinds := [], alts := [], laidByText := true, laidKinds := [.data, .pinned], laidTests := true, laidLooks := .later }
def FnExactSpoolDueUptoCardSaid : Prop := Claim7.holds Tryd.pinned (.plain (OpenSpec.upto fnExactSpoolDueSpec)) fnExactSpoolDueUptoCard

/-- THE SECOND FORM's CARD OF 'laws.FnExactSpoolMany'. -/
def fnExactSpoolManyUptoCard : Claim7 := { stood := { row := fnExactSpoolManyUptoRow, standIns := [], harness := (true, "3266b70390c8aa3d4084d3968460c2f600705b846803dcac22ab178ee3d7fdbe"), looks := false }, kinds := [], alts := [], laidByText := true, laidKinds := [.data, .pinned], laidTests := true, laidLooks := .later }
def FnExactSpoolManyUptoCardSaid : Prop := Claim7.holds Tryd.pinned (.plain (OpenSpec.upto fnExactSpoolManySpec)) fnExactSpoolManyUptoCard

/-- THE SECOND FORM's CARD OF 'laws.FnExactNoteOk'. -/
def fnExactNoteOkUptoCard : Claim7 := { stood := { row := fnExactNoteOkUptoRow, standIns := [], harness := (true, "3266b70390c8aa3d4084d3968460c2f600705b846803dcac22ab178ee3d7fdbe"), looks := false }, kinds := [], alts := [], laidByText := true, laidKinds := [.data, .pinned], laidTests := true, laidLooks := .later }
def FnExactNoteOkUptoCardSaid : Prop := Claim7.holds Tryd.pinned (.plain (OpenSpec.upto fnExactNoteOkSpec)) fnExactNoteOkUptoCard

/-- THE SECOND FORM's CARD OF 'laws.FnExactNotePut'. -/
def fnExactNotePutUptoCard : Claim7 := { stood := { row := fnExactNotePutUptoRow, standIns := [], harness := (true, "3266b70390c8aa3d4084d3968460c2f600705b846803dcac22ab178ee3d7fdbe"), looks := false }, kinds := [], alts := [], laidByText := true, laidKinds := [.data, .pinned], laidTests := true, laidLooks := .later }
def FnExactNotePutUptoCardSaid : Prop := Claim7.holds Tryd.pinned (.plain (OpenSpec.upto fnExactNotePutSpec)) fnExactNotePutUptoCard

/-- THE SECOND FORM's CARD OF 'laws.FnExactHostNew'. -/
def fnExactHostNewUptoCard : Claim7 := { stood := { row := fnExactHostNewUptoRow, standIns := [], harness := (true, "3266b70390c8aa3d4084d3968460c2f600705b846803dcac22ab178ee3d7fdbe"), looks := false }, kinds := [], alts := [], laidByText := true, laidKinds := [.data, .pinned], laidTests := true, laidLooks := .later }
def FnExactHostNewUptoCardSaid : Prop := Claim7.holds Tryd.pinned (.plain (OpenSpec.upto fnExactHostNewSpec)) fnExactHostNewUptoCard
end Rows
end Go.Proofs.YtgjkoegpdfcadaaDoor
