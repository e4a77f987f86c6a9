/-
  DERIVED. GIVEN WITH THE SEED: THE CARDS: each row of YtmigcglcacpboaaDoorRows.lean that lists a variable, with what it lists TIED to the program's text (the seventh form; the later family's looks); each row that meets fmt, with fmt's text TOLD by the authors' own Lean function (tested against real Go, not proved from fmt's source: count such statements apart). THE CARD IS WHAT COUNTS. Prove the row's statement (the work); the ties are given (YtmigcglcacpboaaDoorTie.lean); close each card by the builder's one call (the guide's Derived/Test/ToyasCard.lean, 'card_holds'). Laid BY PROGRAM, IN A SANDBOX (cutbox-door.mjs). By AI agents, Wed Nov 11 2026. No macro, syntax, notation, axiom, sorry.
-/
import Derived.Test.YtmigcglcacpboaaDoorRows
import GoSem.ClaimSeven
namespace Go.Proofs.YtmigcglcacpboaaDoor
namespace Rows

/-- THE TIED CARD OF 'laws.FnCodePut'. -/
def fnCodePutCard : Claim7 := { stood := { row := fnCodePutRow, standIns := [], harness := (true, "b45c0b69a967e6d5d00079dcf5523e5ccc95e3e329df03bc106f326188c3272e"), looks := false }, kinds := [], alts := [], laidByText := true, laidKinds := [.data, .data, .pinned], laidTests := true, laidLooks := .later }
def FnCodePutCardSaid : Prop := Claim7.holds Tryd.pinned (.plain (OpenSpec.ofChange fnCodePutSpec)) fnCodePutCard

/-- THE TIED CARD OF 'laws.FnCodeGet'. -/
def fnCodeGetCard : Claim7 := { stood := { row := fnCodeGetRow, standIns := [], harness := (true, "b45c0b69a967e6d5d00079dcf5523e5ccc95e3e329df03bc106f326188c3272e"), looks := false }, kinds := [], alts := [], laidByText := true, laidKinds := [.data, .data, .pinned], laidTests := true, laidLooks := .later }
def FnCodeGetCardSaid : Prop := Claim7.holds Tryd.pinned (.plain (OpenSpec.ofChange fnCodeGetSpec)) fnCodeGetCard

/-- THE TIED CARD OF 'laws.FnLinesPut'. -/
def fnLinesPutCard : Claim7 := { stood := { row := fnLinesPutRow, standIns := [], harness := (true, "b45c0b69a967e6d5d00079dcf5523e5ccc95e3e329df03bc106f326188c3272e"), looks := false }, kinds := [], alts := [], laidByText := true, laidKinds := [.data, .data, .pinned], laidTests := true, laidLooks := .later }
def FnLinesPutCardSaid : Prop := Claim7.holds Tryd.pinned (.plain (OpenSpec.ofChange fnLinesPutSpec)) fnLinesPutCard

/-- THE TIED CARD OF 'laws.FnLinesGet'. -/
def fnLinesGetCard : Claim7 := { stood := { row := fnLinesGetRow, standIns := [], harness := (true, "b45c0b69a967e6d5d00079dcf5523e5ccc95e3e329df03bc106f326188c3272e"), looks := false }, kinds := [], alts := [], laidByText := true, laidKinds := [.data, .data, .pinned], laidTests := true, laidLooks := .later }
def FnLinesGetCardSaid : Prop := Claim7.holds Tryd.pinned (.plain (OpenSpec.ofChange fnLinesGetSpec)) fnLinesGetCard

/-- THE TIED CARD OF 'laws.FnExactCodePut'. -/
def fnExactCodePutCard : Claim7 := { stood := { row := fnExactCodePutRow, standIns := [], harness := (true, "b45c0b69a967e6d5d00079dcf5523e5ccc95e3e329df03bc106f326188c3272e"), looks := false }, kinds := [], alts := [], laidByText := true, laidKinds := [.data], laidTests := true, laidLooks := .later }
def FnExactCodePutCardSaid : Prop := Claim7.holds Tryd.pinned (.plain (OpenSpec.ofChange fnExactCodePutSpec)) fnExactCodePutCard

/-- THE TIED CARD OF 'laws.FnExactCodeGet'. -/
def fnExactCodeGetCard : Claim7 := { stood := { row := fnExactCodeGetRow, standIns := [], harness := (true, "b45c0b69a967e6d5d00079dcf5523e5ccc95e3e329df03bc106f326188c3272e"), looks := false }, kinds := [], alts := [], laidByText := true, laidKinds := [.data, .data, .pinned], laidTests := true, laidLooks := .later }
def FnExactCodeGetCardSaid : Prop := Claim7.holds Tryd.pinned (.plain (OpenSpec.ofChange fnExactCodeGetSpec)) fnExactCodeGetCard

/-- THE TIED CARD OF 'laws.FnExactLinesPut'. -/
def fnExactLinesPutCard : Claim7 := { stood := { row := fnExactLinesPutRow, standIns := [], harness := (true, "b45c0b69a967e6d5d00079dcf5523e5ccc95e3e329df03bc106f326188c3272e"), looks := false }, kinds := [], alts := [], laidByText := true, laidKinds := [.data], laidTests := true, laidLooks := .later }
def FnExactLinesPutCardSaid : Prop := Claim7.holds Tryd.pinned (.plain (OpenSpec.ofChange fnExactLinesPutSpec)) fnExactLinesPutCard

/-- THE TIED CARD OF 'laws.FnExactLinesGet'. -/
def fnExactLinesGetCard : Claim7 := { stood := { row := fnExactLinesGetRow, standIns := [], harness := (true, "b45c0b69a967e6d5d00079dcf5523e5ccc95e3e329df03bc106f326188c3272e"), looks := false }, kinds := [], alts := [], laidByText := true, laidKinds := [.data, .data, .pinned], laidTests := true, laidLooks := .later }
def FnExactLinesGetCardSaid : Prop := Claim7.holds Tryd.pinned (.plain (OpenSpec.ofChange fnExactLinesGetSpec)) fnExactLinesGetCard

/-- THE SECOND FORM's CARD OF 'laws.FnCodePut'. -/
def fnCodePutUptoCard : Claim7 := { stood := { row := fnCodePutUptoRow, standIns := [], harness := (true, "b45c0b69a967e6d5d00079dcf5523e5ccc95e3e329df03bc106f326188c3272e"), looks := false }, kinds := [], alts := [], laidByText := true, laidKinds := [.data, .data, .pinned], laidTests := true, laidLooks := .later }
def FnCodePutUptoCardSaid : Prop := Claim7.holds Tryd.pinned (.plain (OpenSpec.upto fnCodePutSpec)) fnCodePutUptoCard

/-- THE SECOND FORM's CARD OF 'laws.FnCodeGet'. -/
def fnCodeGetUptoCard : Claim7 := { stood := { row := fnCodeGetUptoRow, standIns := [], harness := (true, "b45c0b69a967e6d5d00079dcf5523e5ccc95e3e329df03bc106f326188c3272e"), looks := false }, kinds := [], alts := [], laidByText := true, laidKinds := [.data, .data, .pinned], laidTests := true, laidLooks := .later }
def FnCodeGetUptoCardSaid : Prop := Claim7.holds Tryd.pinned (.plain (OpenSpec.upto fnCodeGetSpec)) fnCodeGetUptoCard

/-- THE SECOND FORM's CARD OF 'laws.FnLinesPut'. -/
def fnLinesPutUptoCard : Claim7 := { stood := { row := fnLinesPutUptoRow, standIns := [], harness := (true, "b45c0b69a967e6d5d00079dcf5523e5ccc95e3e329df03bc106f326188c3272e"), looks := false }, kinds := [], alts := [], laidByText := true, laidKinds := [.data, .data, .pinned], laidTests := true, laidLooks := .later }
def FnLinesPutUptoCardSaid : Prop := Claim7.holds Tryd.pinned (.plain (OpenSpec.upto fnLinesPutSpec)) fnLinesPutUptoCard

/-- THE SECOND FORM's CARD OF 'laws.FnLinesGet'. -/
def fnLinesGetUptoCard : Claim7 := { stood := { row := fnLinesGetUptoRow, standIns := [], harness := (true, "b45c0b69a967e6d5d00079dcf5523e5ccc95e3e329df03bc106f326188c3272e"), looks := false }, kinds := [], alts := [], laidByText := true, laidKinds := [.data, .data, .pinned], laidTests := true, laidLooks := .later }
def FnLinesGetUptoCardSaid : Prop := Claim7.holds Tryd.pinned (.plain (OpenSpec.upto fnLinesGetSpec)) fnLinesGetUptoCard

/-- THE SECOND FORM's CARD OF 'laws.FnExactCodePut'. -/
def fnExactCodePutUptoCard : Claim7 := { stood := { row := fnExactCodePutUptoRow, standIns := [], harness := (true, "b45c0b69a967e6d5d00079dcf5523e5ccc95e3e329df03bc106f326188c3272e"), looks := false }, kinds := [], alts := [], laidByText := true, laidKinds := [.data], laidTests := true, laidLooks := .later }
def FnExactCodePutUptoCardSaid : Prop := Claim7.holds Tryd.pinned (.plain (OpenSpec.upto fnExactCodePutSpec)) fnExactCodePutUptoCard

/-- THE SECOND FORM's CARD OF 'laws.FnExactCodeGet'. -/
def fnExactCodeGetUptoCard : Claim7 := { stood := { row := fnExactCodeGetUptoRow, standIns := [], harness := (true, "b45c0b69a967e6d5d00079dcf5523e5ccc95e3e329df03bc106f326188c3272e"), looks := false }, kinds := [], alts := [], laidByText := true, laidKinds := [.data, .data, .pinned], laidTests := true, laidLooks := .later }
def FnExactCodeGetUptoCardSaid : Prop := Claim7.holds Tryd.pinned (.plain (OpenSpec.upto fnExactCodeGetSpec)) fnExactCodeGetUptoCard

/-- THE SECOND FORM's CARD OF 'laws.FnExactLinesPut'. -/
def fnExactLinesPutUptoCard : Claim7 := { stood := { row := fnExactLinesPutUptoRow, standIns := [], harness := (true, "b45c0b69a967e6d5d00079dcf5523e5ccc95e3e329df03bc106f326188c3272e"), looks := false }, kinds := [], alts := [], laidByText := true, laidKinds := [.data], laidTests := true, laidLooks := .later }
def FnExactLinesPutUptoCardSaid : Prop := Claim7.holds Tryd.pinned (.plain (OpenSpec.upto fnExactLinesPutSpec)) fnExactLinesPutUptoCard

/-- THE SECOND FORM's CARD OF 'laws.FnExactLinesGet'. -/
def fnExactLinesGetUptoCard : Claim7 := { stood := { row := fnExactLinesGetUptoRow, standIns := [], harness := (true, "b45c0b69a967e6d5d00079dcf5523e5ccc95e3e329df03bc106f326188c3272e"), looks := false }, kinds := [], alts := [], laidByText := true, laidKinds := [.data, .data, .pinned], laidTests := true, laidLooks := .later }
def FnExactLinesGetUptoCardSaid : Prop := Claim7.holds Tryd.pinned (.plain (OpenSpec.upto fnExactLinesGetSpec)) fnExactLinesGetUptoCard
end Rows
end Go.Proofs.YtmigcglcacpboaaDoor
