/-
  DERIVED. GIVEN WITH THE SEED: THE CARDS: each row of YtfffocfcnigogaaDoorRows.lean that lists a variable, with what it lists TIED to the program's text (the seventh form; the later family's looks); each row that meets fmt, with fmt's text TOLD by the authors' own Lean function (tested against real Go, not proved from fmt's source: count such statements apart). THE CARD IS WHAT COUNTS. Prove the row's statement (the work); the ties are given (YtfffocfcnigogaaDoorTie.lean); close each card by the builder's one call (the guide's Derived/Test/ToyasCard.lean, 'card_holds'). Laid BY PROGRAM, IN A SANDBOX (cutbox-door.mjs). By AI agents, Wed Nov 11 2026. No macro, syntax, notation, axiom, sorry.
-/
import Derived.Test.YtfffocfcnigogaaDoorRows
import GoSem.ClaimSeven
namespace Go.Proofs.YtfffocfcnigogaaDoor
namespace Rows

/-- THE TIED CARD OF 'laws.FnSpoolDone'. -/
def fnSpoolDoneCard : Claim7 := { stood := { row := fnSpoolDoneRow, standIns := [], harness := (true, "df06e7c08191bf15de22a3bb0067b1f7edc4690ba9b3ec0972bad4cd8393aeb2"), looks := false }, kinds := [], alts := [], laidByText := true, laidKinds := [.data, .pinned], laidTests := true, laidLooks := .later }
def FnSpoolDoneCardSaid : Prop := Claim7.holds Tryd.pinned (.plain (OpenSpec.ofChange fnSpoolDoneSpec)) fnSpoolDoneCard

/-- THE TIED CARD OF 'laws.FnSpoolLater'. -/
def fnSpoolLaterCard : Claim7 := { stood := { row := fnSpoolLaterRow, standIns := [], harness := (true, "df06e7c08191bf15de22a3bb0067b1f7edc4690ba9b3ec0972bad4cd8393aeb2"), looks := false }, kinds := [], alts := [], laidByText := true, laidKinds := [.data, .pinned], laidTests := true, laidLooks := .later }
def FnSpoolLaterCardSaid : Prop := Claim7.holds Tryd.pinned (.plain (OpenSpec.ofChange fnSpoolLaterSpec)) fnSpoolLaterCard

/-- THE TIED CARD OF 'laws.FnSpoolDue'. -/
def fnSpoolDueCard : Claim7 := { stood := { row := fnSpoolDueRow, standIns := [], harness := (true, "df06e7c08191bf15de22a3bb0067b1f7edc4690ba9b3ec0972bad4cd8393aeb2"), looks := false }, kinds := [], alts := [], laidByText := true, laidKinds := [.data, .pinned], laidTests := true, laidLooks := .later }
def FnSpoolDueCardSaid : Prop := Claim7.holds Tryd.pinned (.plain (OpenSpec.ofChange fnSpoolDueSpec)) fnSpoolDueCard

/-- THE TIED CARD OF 'laws.FnHostNew'. -/
def fnHostNewCard : Claim7 := { stood := { row := fnHostNewRow, standIns := [], harness := (true, "df06e7c08191bf15de22a3bb0067b1f7edc4690ba9b3ec0972bad4cd8393aeb2"), looks := false }, kinds := [], alts := [], laidByText := true, laidKinds := [.data, .pinned], laidTests := true, laidLooks := .later }
def FnHostNewCardSaid : Prop := Claim7.holds Tryd.pinned (.plain (OpenSpec.ofChange fnHostNewSpec)) fnHostNewCard

/-- THE TIED CARD OF 'laws.FnExactNotePut'. -/
def fnExactNotePutCard : Claim7 := { stood := { row := fnExactNotePutRow, standIns := [], harness := (true, "df06e7c08191bf15de22a3bb0067b1f7edc4690ba9b3ec0972bad4cd8393aeb2"), looks := false }, kinds := [], alts := [], laidByText := true, laidKinds := [.data, .pinned], laidTests := true, laidLooks := .later }
def FnExactNotePutCardSaid : Prop := Claim7.holds Tryd.pinned (.plain (OpenSpec.ofChange fnExactNotePutSpec)) fnExactNotePutCard

/-- THE SECOND FORM's CARD OF 'laws.FnSpoolDone'. -/
def fnSpoolDoneUptoCard : Claim7 := { stood := { row := fnSpoolDoneUptoRow, standIns := [], harness := (true, "df06e7c08191bf15de22a3bb0067b1f7edc4690ba9b3ec0972bad4cd8393aeb2"), looks := false }, kinds := [], alts := [], laidByText := true, laidKinds := [.data, .pinned], laidTests := true, laidLooks := .later }
def FnSpoolDoneUptoCardSaid : Prop := Claim7.holds Tryd.pinned (.plain (OpenSpec.upto fnSpoolDoneSpec)) fnSpoolDoneUptoCard

/-- THE SECOND FORM's CARD OF 'laws.FnSpoolLater'. -/
def fnSpoolLaterUptoCard : Claim7 := { stood := { row := fnSpoolLaterUptoRow, standIns := [], harness := (true, "df06e7c08191bf15de22a3bb0067b1f7edc4690ba9b3ec0972bad4cd8393aeb2"), looks := false }, kinds := [], alts := [], laidByText := true, laidKinds := [.data, .pinned], laidTests := true, laidLooks := .later }
def FnSpoolLaterUptoCardSaid : Prop := Claim7.holds Tryd.pinned (.plain (OpenSpec.upto fnSpoolLaterSpec)) fnSpoolLaterUptoCard

/-- THE SECOND FORM's CARD OF 'laws.FnSpoolDue'. -/
def fnSpoolDueUptoCard : Claim7 := { stood := { row := fnSpoolDueUptoRow, standIns := [], harness := (true, "df06e7c08191bf15de22a3bb0067b1f7edc4690ba9b3ec0972bad4cd8393aeb2"), looks := false }, kinds := [], alts := [], laidByText := true, laidKinds := [.data, .pinned], laidTests := true, laidLooks := .later }
def FnSpoolDueUptoCardSaid : Prop := Claim7.holds Tryd.pinned (.plain (OpenSpec.upto fnSpoolDueSpec)) fnSpoolDueUptoCard

/-- THE SECOND FORM's CARD OF 'laws.FnHostNew'. -/
def fnHostNewUptoCard : Claim7 := { stood := { row := fnHostNewUptoRow, standIns := [], harness := (true, "df06e7c08191bf15de22a3bb0067b1f7edc4690ba9b3ec0972bad4cd8393aeb2"), looks := false }, kinds := [], alts := [], laidByText := true, laidKinds := [.data, .pinned], laidTests := true, laidLooks := .later }
def FnHostNewUptoCardSaid : Prop := Claim7.holds Tryd.pinned (.plain (OpenSpec.upto fnHostNewSpec)) fnHostNewUptoCard

/-- THE SECOND FORM's CARD OF 'laws.FnExactNotePut'. -/
def fnExactNotePutUptoCard : Claim7 := { stood := { row := fnExactNotePutUptoRow, standIns := [], harness := (true, "df06e7c08191bf15de22a3bb0067b1f7edc4690ba9b3ec0972bad4cd8393aeb2"), looks := false }, kinds := [], alts := [], laidByText := true, laidKinds := [.data, .pinned], laidTests := true, laidLooks := .later }
def FnExactNotePutUptoCardSaid : Prop := Claim7.holds Tryd.pinned (.plain (OpenSpec.upto fnExactNotePutSpec)) fnExactNotePutUptoCard
end Rows
end Go.Proofs.YtfffocfcnigogaaDoor
