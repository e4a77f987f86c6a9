/-
  DERIVED. GIVEN WITH THE SEED: THE CARDS: each row of YtfacdiimoncnnaaDoorRows.lean that lists a variable, with what it lists TIED to the program's text (the seventh form; the later family's looks); each row that meets fmt, with fmt's text TOLD by the authors' own Lean function (tested against real Go, not proved from fmt's source: count such statements apart). THE CARD IS WHAT COUNTS. Prove the row's statement (the work); the ties are given (YtfacdiimoncnnaaDoorTie.lean); close each card by the builder's one call (the guide's Derived/Test/ToyasCard.lean, 'card_holds'). Laid BY PROGRAM, IN A SANDBOX (cutbox-door.mjs). By AI agents, Wed Nov 11 2026. No macro, syntax, notation, axiom, sorry.
-/
import Derived.Test.YtfacdiimoncnnaaDoorRows
import GoSem.ClaimSeven
namespace Go.Proofs.YtfacdiimoncnnaaDoor
namespace Rows

/-- THE TIED CARD OF 'laws.FnExactHostNew'. -/
def fnExactHostNewCard : Claim7 := { stood := { row := fnExactHostNewRow, standIns := [], harness := (true, "8a5260eb7b4550348cad3b00175e0658b5a55d01568831c0c49c17cec5f608bc"), looks := false }, kinds := [], alts := [], laidByText := true, laidKinds := [.data, .pinned], laidTests := true, laidLooks := .later }
def FnExactHostNewCardSaid : Prop := Claim7.holds Tryd.pinned (.plain (OpenSpec.ofChange fnExactHostNewSpec)) fnExactHostNewCard

/-- THE TIED CARD OF 'laws.FnHostNew'. -/
def fnHostNewCard : Claim7 := { stood := { row := fnHostNewRow, standIns := [], harness := (true, "8a5260eb7b4550348cad3b00175e0658b5a55d01568831c0c49c17cec5f608bc"), looks := false }, kinds := [], alts := [], laidByText := true, laidKinds := [.data, .pinned], laidTests := true, laidLooks := .later }
def FnHostNewCardSaid : Prop := Claim7.holds Tryd.pinned (.plain (OpenSpec.ofChange fnHostNewSpec)) fnHostNewCard

/-- THE TIED CARD OF 'laws.FnExactCliNew'. -/
def fnExactCliNewCard : Claim7 := { stood := { row := fnExactCliNewRow, standIns := [], harness := (true, "8a5260eb7b4550348cad3b00175e0658b5a55d01568831c0c49c17cec5f608bc"), looks := false }, kinds := [], alts := [], laidByText := true, laidKinds := [.data, .pinned], laidTests := true, laidLooks := .later }
def FnExactCliNewCardSaid : Prop := Claim7.holds Tryd.pinned (.plain (OpenSpec.ofChange fnExactCliNewSpec)) fnExactCliNewCard

/-- THE TIED CARD OF 'laws.FnCliNew'. -/
def fnCliNewCard : Claim7 := { stood := { row := fnCliNewRow, standIns := [], harness := (true, "8a5260eb7b4550348cad3b00175e0658b5a55d01568831c0c49c17cec5f608bc"), looks := false }, kinds := [], alts := [], laidByText := true, laidKinds := [.data, .pinned], laidTests := true, laidLooks := .later }
def FnCliNewCardSaid : Prop := Claim7.holds Tryd.pinned (.plain (OpenSpec.ofChange fnCliNewSpec)) fnCliNewCard

/-- THE TIED CARD OF 'laws.FnCliOuts'. -/
def fnCliOutsCard : Claim7 := { stood := { row := fnCliOutsRow, standIns := [], harness := (true, "8a5260eb7b4550348cad3b00175e0658b5a55d01568831c0c49c17cec5f608bc"), looks := false }, kinds := [], alts := [], laidByText := true, laidKinds := [.data, .pinned], laidTests := true, laidLooks := .later }
def FnCliOutsCardSaid : Prop := Claim7.holds Tryd.pinned (.plain (OpenSpec.ofChange fnCliOutsSpec)) fnCliOutsCard

/-- THE TIED CARD OF 'laws.FnExactMailGet'. -/
def fnExactMailGetCard : Claim7 := { stood := { row := fnExactMailGetRow, standIns := [], harness := (true, "8a5260eb7b4550348cad3b00175e0658b5a55d01568831c0c49c17cec5f608bc"), looks := false }, kinds := [], alts := [], laidByText := true, laidKinds := [.data, .pinned], laidTests := true, laidLooks := .later }
def FnExactMailGetCardSaid : Prop := Claim7.holds Tryd.pinned (.plain (OpenSpec.ofChange fnExactMailGetSpec)) fnExactMailGetCard

/-- THE TIED CARD OF 'laws.FnMailGet'. -/
def fnMailGetCard : Claim7 := { stood := { row := fnMailGetRow, standIns := [], harness := (true, "8a5260eb7b4550348cad3b00175e0658b5a55d01568831c0c49c17cec5f608bc"), looks := false }, kinds := [], alts := [], laidByText := true, laidKinds := [.data, .pinned], laidTests := true, laidLooks := .later }
def FnMailGetCardSaid : Prop := Claim7.holds Tryd.pinned (.plain (OpenSpec.ofChange fnMailGetSpec)) fnMailGetCard

/-- THE TIED CARD OF 'laws.FnMailPut'. -/
def fnMailPutCard : Claim7 := { stood := { row := fnMailPutRow, standIns := [], harness := (true, "8a5260eb7b4550348cad3b00175e0658b5a55d01568831c0c49c17cec5f608bc"), looks := false }, kinds := [], alts := [], laidByText := true, laidKinds := [.data, .pinned], laidTests := true, laidLooks := .later }
def FnMailPutCardSaid : Prop := Claim7.holds Tryd.pinned (.plain (OpenSpec.ofChange fnMailPutSpec)) fnMailPutCard

/-- THE TIED CARD OF 'laws.FnWay'. -/
def fnWayCard : Claim7 := { stood := { row := fnWayRow, standIns := [], harness := (true, "8a5260eb7b4550348cad3b00175e0658b5a55d01568831c0c49c17cec5f608bc"), looks := false }, kinds := [], alts := [], laidByText := true, laidKinds := [.data, .pinned], laidTests := true, laidLooks := .later }
def FnWayCardSaid : Prop := Claim7.holds Tryd.pinned (.plain (OpenSpec.ofChange fnWaySpec)) fnWayCard

/-- THE SECOND FORM's CARD OF 'laws.FnExactHostNew'. -/
def fnExactHostNewUptoCard : Claim7 := { stood := { row := fnExactHostNewUptoRow, standIns := [], harness := (true, "8a5260eb7b4550348cad3b00175e0658b5a55d01568831c0c49c17cec5f608bc"), looks := false }, kinds := [], alts := [], laidByText := true, laidKinds := [.data, .pinned], laidTests := true, laidLooks := .later }
def FnExactHostNewUptoCardSaid : Prop := Claim7.holds Tryd.pinned (.plain (OpenSpec.upto fnExactHostNewSpec)) fnExactHostNewUptoCard

/-- THE SECOND FORM's CARD OF 'laws.FnHostNew'. -/
def fnHostNewUptoCard : Claim7 := { stood := { row := fnHostNewUptoRow, standIns := [], harness := (true, "8a5260eb7b4550348cad3b00175e0658b5a55d01568831c0c49c17cec5f608bc"), looks := false }, kinds := [], alts := [], laidByText := true, laidKinds := [.data, .pinned], laidTests := true, laidLooks := .later }
def FnHostNewUptoCardSaid : Prop := Claim7.holds Tryd.pinned (.plain (OpenSpec.upto fnHostNewSpec)) fnHostNewUptoCard

/-- THE SECOND FORM's CARD OF 'laws.FnExactCliNew'. -/
def fnExactCliNewUptoCard : Claim7 := { stood := { row := fnExactCliNewUptoRow, standIns := [], harness := (true, "8a5260eb7b4550348cad3b00175e0658b5a55d01568831c0c49c17cec5f608bc"), looks := false }, kinds := [], alts := [], laidByText := true, laidKinds := [.data, .pinned], laidTests := true, laidLooks := .later }
def FnExactCliNewUptoCardSaid : Prop := Claim7.holds Tryd.pinned (.plain (OpenSpec.upto fnExactCliNewSpec)) fnExactCliNewUptoCard

/-- THE SECOND FORM's CARD OF 'laws.FnCliNew'. -/
def fnCliNewUptoCard : Claim7 := { stood := { row := fnCliNewUptoRow, standIns := [], harness := (true, "8a5260eb7b4550348cad3b00175e0658b5a55d01568831c0c49c17cec5f608bc"), looks := false }, kinds := [], alts := [], laidByText := true, laidKinds := [.data, .pinned], laidTests := true, laidLooks := .later }
def FnCliNewUptoCardSaid : Prop := Claim7.holds Tryd.pinned (.plain (OpenSpec.upto fnCliNewSpec)) fnCliNewUptoCard

/-- THE SECOND FORM's CARD OF 'laws.FnCliOuts'. -/
def fnCliOutsUptoCard : Claim7 := { stood := { row := fnCliOutsUptoRow, standIns := [], harness := (true, "8a5260eb7b4550348cad3b00175e0658b5a55d01568831c0c49c17cec5f608bc"), looks := false }, kinds := [], alts := [], laidByText := true, laidKinds := [.data, .pinned], laidTests := true, laidLooks := .later }
def FnCliOutsUptoCardSaid : Prop := Claim7.holds Tryd.pinned (.plain (OpenSpec.upto fnCliOutsSpec)) fnCliOutsUptoCard

/-- THE SECOND FORM's CARD OF 'laws.FnExactMailGet'. -/
def fnExactMailGetUptoCard : Claim7 := { stood := { row := fnExactMailGetUptoRow, standIns := [], harness := (true, "8a5260eb7b4550348cad3b00175e0658b5a55d01568831c0c49c17cec5f608bc"), looks := false }, kinds := [], alts := [], laidByText := true, laidKinds := [.data, .pinned], laidTests := true, laidLooks := .later }
def FnExactMailGetUptoCardSaid : Prop := Claim7.holds Tryd.pinned (.plain (OpenSpec.upto fnExactMailGetSpec)) fnExactMailGetUptoCard

/-- THE SECOND FORM's CARD OF 'laws.FnMailGet'. -/
def fnMailGetUptoCard : Claim7 := { stood := { row := fnMailGetUptoRow, standIns := [], harness := (true, "8a5260eb7b4550348cad3b00175e0658b5a55d01568831c0c49c17cec5f608bc"), looks := false }, kinds := [], alts := [], laidByText := true, laidKinds := [.data, .pinned], laidTests := true, laidLooks := .later }
def FnMailGetUptoCardSaid : Prop := Claim7.holds Tryd.pinned (.plain (OpenSpec.upto fnMailGetSpec)) fnMailGetUptoCard

/-- THE SECOND FORM's CARD OF 'laws.FnMailPut'. -/
def fnMailPutUptoCard : Claim7 := { stood := { row := fnMailPutUptoRow, standIns := [], harness := (true, "8a5260eb7b4550348cad3b00175e0658b5a55d01568831c0c49c17cec5f608bc"), looks := false }, kinds := [], alts := [], laidByText := true, laidKinds := [.data, .pinned], laidTests := true, laidLooks := .later }
def FnMailPutUptoCardSaid : Prop := Claim7.holds Tryd.pinned (.plain (OpenSpec.upto fnMailPutSpec)) fnMailPutUptoCard

/-- THE SECOND FORM's CARD OF 'laws.FnWay'. -/
def fnWayUptoCard : Claim7 := { stood := { row := fnWayUptoRow, standIns := [], harness := (true, "8a5260eb7b4550348cad3b00175e0658b5a55d01568831c0c49c17cec5f608bc"), looks := false }, kinds := [], alts := [], laidByText := true, laidKinds := [.data, .pinned], laidTests := true, laidLooks := .later }
def FnWayUptoCardSaid : Prop := Claim7.holds Tryd.pinned (.plain (OpenSpec.upto fnWaySpec)) fnWayUptoCard
end Rows
end Go.Proofs.YtfacdiimoncnnaaDoor
