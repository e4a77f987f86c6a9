/-
  DERIVED. GIVEN WITH THE SEED: THE CARDS: each row of YtcaknjdolfheaaaDoorRows.lean that lists a variable, with what it lists TIED to the program's text (the seventh form; the later family's looks); each row that meets fmt, with fmt's text TOLD by the authors' own Lean function (tested against real Go, not proved from fmt's source: count such statements apart). THE CARD IS WHAT COUNTS. Prove the row's statement (the work); the ties are given (YtcaknjdolfheaaaDoorTie.lean); close each card by the builder's one call (the guide's Derived/Test/ToyasCard.lean, 'card_holds'). Laid BY PROGRAM, IN A SANDBOX (cutbox-door.mjs). By AI agents, Wed Nov 11 2026. No macro, syntax, notation, axiom, sorry.
-/
import Derived.Test.YtcaknjdolfheaaaDoorRows
import GoSem.ClaimSeven
namespace Go.Proofs.YtcaknjdolfheaaaDoor
namespace Rows

/-- THE TIED CARD OF 'laws.FnSpoolDone'. -/
def fnSpoolDoneCard : Claim7 := { stood := { row := fnSpoolDoneRow, standIns := [], harness := (true, "935dcf33c18d1398f572aaccb25d1687f27ea907b0b7761bfc76844771773e7f"), looks := false }, kinds := [], alts := [], laidByText := true, laidKinds := [.data, .pinned], laidTests := true, laidLooks := .later }
def FnSpoolDoneCardSaid : Prop := Claim7.holds Tryd.pinned (.plain (OpenSpec.ofChange fnSpoolDoneSpec)) fnSpoolDoneCard

/-- THE TIED CARD OF 'laws.FnSpoolLater'. -/
def fnSpoolLaterCard : Claim7 := { stood := { row := fnSpoolLaterRow, standIns := [], harness := (true, "935dcf33c18d1398f572aaccb25d1687f27ea907b0b7761bfc76844771773e7f"), looks := false }, kinds := [], alts := [], laidByText := true, laidKinds := [.data, .pinned], laidTests := true, laidLooks := .later }
def FnSpoolLaterCardSaid : Prop := Claim7.holds Tryd.pinned (.plain (OpenSpec.ofChange fnSpoolLaterSpec)) fnSpoolLaterCard

/-- THE TIED CARD OF 'laws.FnSpoolDue'. -/
def fnSpoolDueCard : Claim7 := { stood := { row := fnSpoolDueRow, standIns := [], harness := (true, "935dcf33c18d1398f572aaccb25d1687f27ea907b0b7761bfc76844771773e7f"), looks := false }, kinds := [], alts := [], laidByText := true, laidKinds := [.data, .pinned], laidTests := true, laidLooks := .later }
def FnSpoolDueCardSaid : Prop := Claim7.holds Tryd.pinned (.plain (OpenSpec.ofChange fnSpoolDueSpec)) fnSpoolDueCard

/-- THE TIED CARD OF 'laws.FnExactNotePut'. -/
def fnExactNotePutCard : Claim7 := { stood := { row := fnExactNotePutRow, standIns := [], harness := (true, "935dcf33c18d1398f572aaccb25d1687f27ea907b0b7761bfc76844771773e7f"), looks := false }, kinds := [], alts := [], laidByText := true, laidKinds := [.data, .pinned], laidTests := true, laidLooks := .later }
def FnExactNotePutCardSaid : Prop := Claim7.holds Tryd.pinned (.plain (OpenSpec.ofChange fnExactNotePutSpec)) fnExactNotePutCard

/-- THE SECOND FORM's CARD OF 'laws.FnSpoolDone'. -/
def fnSpoolDoneUptoCard : Claim7 := { stood := { row := fnSpoolDoneUptoRow, standIns := [], harness := (true, "935dcf33c18d1398f572aaccb25d1687f27ea907b0b7761bfc76844771773e7f"), looks := false }, kinds := [], alts := [], laidByText := true, laidKinds := [.data, .pinned], laidTests := true, laidLooks := .later }
def FnSpoolDoneUptoCardSaid : Prop := Claim7.holds Tryd.pinned (.plain (OpenSpec.upto fnSpoolDoneSpec)) fnSpoolDoneUptoCard

/-- THE SECOND FORM's CARD OF 'laws.FnSpoolLater'. -/
def fnSpoolLaterUptoCard : Claim7 := { stood := { row := fnSpoolLaterUptoRow, standIns := [], harness := (true, "935dcf33c18d1398f572aaccb25d1687f27ea907b0b7761bfc76844771773e7f"), looks := false }, kinds := [], alts := [], laidByText := true, laidKinds := [.data, .pinned], laidTests := true, laidLooks := .later }
def FnSpoolLaterUptoCardSaid : Prop := Claim7.holds Tryd.pinned (.plain (OpenSpec.upto fnSpoolLaterSpec)) fnSpoolLaterUptoCard

/-- THE SECOND FORM's CARD OF 'laws.FnSpoolDue'. -/
def fnSpoolDueUptoCard : Claim7 := { stood := { row := fnSpoolDueUptoRow, standIns := [], harness := (true, "935dcf33c18d1398f572aaccb25d1687f27ea907b0b7761bfc76844771773e7f"), looks := false }, kinds := [], alts := [], laidByText := true, laidKinds := [.data, .pinned], laidTests := true, laidLooks := .later }
def FnSpoolDueUptoCardSaid : Prop := Claim7.holds Tryd.pinned (.plain (OpenSpec.upto fnSpoolDueSpec)) fnSpoolDueUptoCard

/-- THE SECOND FORM's CARD OF 'laws.FnExactNotePut'. -/
def fnExactNotePutUptoCard : Claim7 := { stood := { row := fnExactNotePutUptoRow, standIns := [], harness := (true, "935dcf33c18d1398f572aaccb25d1687f27ea907b0b7761bfc76844771773e7f"), looks := false }, kinds := [], alts := [], laidByText := true, laidKinds := [.data, .pinned], laidTests := true, laidLooks := .later }
def FnExactNotePutUptoCardSaid : Prop := Claim7.holds Tryd.pinned (.plain (OpenSpec.upto fnExactNotePutSpec)) fnExactNotePutUptoCard
end Rows
end Go.Proofs.YtcaknjdolfheaaaDoor
