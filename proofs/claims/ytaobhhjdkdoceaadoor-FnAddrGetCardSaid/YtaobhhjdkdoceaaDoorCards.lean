/-
  DERIVED. GIVEN WITH THE SEED: THE CARDS: each row of YtaobhhjdkdoceaaDoorRows.lean that lists a variable, with what it lists TIED to the program's text (the seventh form; the later family's looks); each row that meets fmt, with fmt's text TOLD by the authors' own Lean function (tested against real Go, not proved from fmt's source: count such statements apart). THE CARD IS WHAT COUNTS. Prove the row's statement (the work); the ties are given (YtaobhhjdkdoceaaDoorTie.lean); close each card by the builder's one call (the guide's Derived/Test/ToyasCard.lean, 'card_holds'). Laid BY PROGRAM, IN A SANDBOX (cutbox-door.mjs). By AI agents, Wed Nov 11 2026. No macro, syntax, notation, axiom, sorry.
-/
import Derived.Test.YtaobhhjdkdoceaaDoorRows
import GoSem.ClaimSeven
namespace Go.Proofs.YtaobhhjdkdoceaaDoor
namespace Rows

/-- THE TIED CARD OF 'laws.FnAddrGet'. -/
def fnAddrGetCard : Claim7 := { stood := { row := fnAddrGetRow, standIns := [], harness := (true, "d065156e6432331432b33b9dd7a4e4ab7a66eb5ecdc1fa129e2ab98bc5f0866b"), looks := false }, kinds := [], alts := [], laidByText := true, laidKinds := [.data, .pinned], laidTests := true, laidLooks := .later }
def FnAddrGetCardSaid : Prop := Claim7.holds Tryd.pinned (.plain (OpenSpec.ofChange fnAddrGetSpec)) fnAddrGetCard

/-- THE TIED CARD OF 'laws.FnHops'. -/
def fnHopsCard : Claim7 := { stood := { row := fnHopsRow, standIns := [], harness := (true, "d065156e6432331432b33b9dd7a4e4ab7a66eb5ecdc1fa129e2ab98bc5f0866b"), looks := false }, kinds := [], alts := [], laidByText := true, laidKinds := [.data, .pinned], laidTests := true, laidLooks := .later }
def FnHopsCardSaid : Prop := Claim7.holds Tryd.pinned (.plain (OpenSpec.ofChange fnHopsSpec)) fnHopsCard

/-- THE TIED CARD OF 'laws.FnDomain'. -/
def fnDomainCard : Claim7 := { stood := { row := fnDomainRow, standIns := [], harness := (true, "d065156e6432331432b33b9dd7a4e4ab7a66eb5ecdc1fa129e2ab98bc5f0866b"), looks := false }, kinds := [], alts := [], laidByText := true, laidKinds := [.data, .pinned], laidTests := true, laidLooks := .later }
def FnDomainCardSaid : Prop := Claim7.holds Tryd.pinned (.plain (OpenSpec.ofChange fnDomainSpec)) fnDomainCard

/-- THE TIED CARD OF 'laws.FnAddrPut'. -/
def fnAddrPutCard : Claim7 := { stood := { row := fnAddrPutRow, standIns := [], harness := (true, "d065156e6432331432b33b9dd7a4e4ab7a66eb5ecdc1fa129e2ab98bc5f0866b"), looks := false }, kinds := [], alts := [], laidByText := true, laidKinds := [.data, .pinned], laidTests := true, laidLooks := .later }
def FnAddrPutCardSaid : Prop := Claim7.holds Tryd.pinned (.plain (OpenSpec.ofChange fnAddrPutSpec)) fnAddrPutCard

/-- THE TIED CARD OF 'laws.FnMailPut'. -/
def fnMailPutCard : Claim7 := { stood := { row := fnMailPutRow, standIns := [], harness := (true, "d065156e6432331432b33b9dd7a4e4ab7a66eb5ecdc1fa129e2ab98bc5f0866b"), looks := false }, kinds := [], alts := [], laidByText := true, laidKinds := [.data, .pinned], laidTests := true, laidLooks := .later }
def FnMailPutCardSaid : Prop := Claim7.holds Tryd.pinned (.plain (OpenSpec.ofChange fnMailPutSpec)) fnMailPutCard

/-- THE TIED CARD OF 'laws.FnMailGet'. -/
def fnMailGetCard : Claim7 := { stood := { row := fnMailGetRow, standIns := [], harness := (true, "d065156e6432331432b33b9dd7a4e4ab7a66eb5ecdc1fa129e2ab98bc5f0866b"), looks := false }, kinds := [], alts := [], laidByText := true, laidKinds := [.data, .pinned], laidTests := true, laidLooks := .later }
def FnMailGetCardSaid : Prop := Claim7.holds Tryd.pinned (.plain (OpenSpec.ofChange fnMailGetSpec)) fnMailGetCard

/-- THE TIED CARD OF 'laws.FnExactDomainOk'. -/
def fnExactDomainOkCard : Claim7 := { stood := { row := fnExactDomainOkRow, standIns := [], harness := (true, "d065156e6432331432b33b9dd7a4e4ab7a66eb5ecdc1fa129e2ab98bc5f0866b"), looks := false }, kinds := [], alts := [], laidByText := true, laidKinds := [.data, .pinned], laidTests := true, laidLooks := .later }
def FnExactDomainOkCardSaid : Prop := Claim7.holds Tryd.pinned (.plain (OpenSpec.ofChange fnExactDomainOkSpec)) fnExactDomainOkCard

/-- THE TIED CARD OF 'laws.FnExactAddrOk'. -/
def fnExactAddrOkCard : Claim7 := { stood := { row := fnExactAddrOkRow, standIns := [], harness := (true, "d065156e6432331432b33b9dd7a4e4ab7a66eb5ecdc1fa129e2ab98bc5f0866b"), looks := false }, kinds := [], alts := [], laidByText := true, laidKinds := [.data, .pinned], laidTests := true, laidLooks := .later }
def FnExactAddrOkCardSaid : Prop := Claim7.holds Tryd.pinned (.plain (OpenSpec.ofChange fnExactAddrOkSpec)) fnExactAddrOkCard

/-- THE TIED CARD OF 'laws.FnExactAddrPut'. -/
def fnExactAddrPutCard : Claim7 := { stood := { row := fnExactAddrPutRow, standIns := [], harness := (true, "d065156e6432331432b33b9dd7a4e4ab7a66eb5ecdc1fa129e2ab98bc5f0866b"), looks := false }, kinds := [], alts := [], laidByText := true, laidKinds := [.data, .pinned], laidTests := true, laidLooks := .later }
def FnExactAddrPutCardSaid : Prop := Claim7.holds Tryd.pinned (.plain (OpenSpec.ofChange fnExactAddrPutSpec)) fnExactAddrPutCard

/-- THE TIED CARD OF 'laws.FnExactAddrGet'. -/
def fnExactAddrGetCard : Claim7 := { stood := { row := fnExactAddrGetRow, standIns := [], harness := (true, "d065156e6432331432b33b9dd7a4e4ab7a66eb5ecdc1fa129e2ab98bc5f0866b"), looks := false }, kinds := [], alts := [], laidByText := true, laidKinds := [.data, .pinned], laidTests := true, laidLooks := .later }
def FnExactAddrGetCardSaid : Prop := Claim7.holds Tryd.pinned (.plain (OpenSpec.ofChange fnExactAddrGetSpec)) fnExactAddrGetCard

/-- THE TIED CARD OF 'laws.FnExactDomainIn'. -/
def fnExactDomainInCard : Claim7 := { stood := { row := fnExactDomainInRow, standIns := [], harness := (true, "d065156e6432331432b33b9dd7a4e4ab7a66eb5ecdc1fa129e2ab98bc5f0866b"), looks := false }, kinds := [], alts := [], laidByText := true, laidKinds := [.data, .pinned], laidTests := true, laidLooks := .later }
def FnExactDomainInCardSaid : Prop := Claim7.holds Tryd.pinned (.plain (OpenSpec.ofChange fnExactDomainInSpec)) fnExactDomainInCard

/-- THE TIED CARD OF 'laws.FnExactMailOk'. -/
def fnExactMailOkCard : Claim7 := { stood := { row := fnExactMailOkRow, standIns := [], harness := (true, "d065156e6432331432b33b9dd7a4e4ab7a66eb5ecdc1fa129e2ab98bc5f0866b"), looks := false }, kinds := [], alts := [], laidByText := true, laidKinds := [.data, .pinned], laidTests := true, laidLooks := .later }
def FnExactMailOkCardSaid : Prop := Claim7.holds Tryd.pinned (.plain (OpenSpec.ofChange fnExactMailOkSpec)) fnExactMailOkCard

/-- THE TIED CARD OF 'laws.FnExactHopsOf'. -/
def fnExactHopsOfCard : Claim7 := { stood := { row := fnExactHopsOfRow, standIns := [], harness := (true, "d065156e6432331432b33b9dd7a4e4ab7a66eb5ecdc1fa129e2ab98bc5f0866b"), looks := false }, kinds := [], alts := [], laidByText := true, laidKinds := [.data, .pinned], laidTests := true, laidLooks := .later }
def FnExactHopsOfCardSaid : Prop := Claim7.holds Tryd.pinned (.plain (OpenSpec.ofChange fnExactHopsOfSpec)) fnExactHopsOfCard

/-- THE TIED CARD OF 'laws.FnExactHopPut'. -/
def fnExactHopPutCard : Claim7 := { stood := { row := fnExactHopPutRow, standIns := [], harness := (true, "d065156e6432331432b33b9dd7a4e4ab7a66eb5ecdc1fa129e2ab98bc5f0866b"), looks := false }, kinds := [], alts := [], laidByText := true, laidKinds := [.data, .pinned], laidTests := true, laidLooks := .later }
def FnExactHopPutCardSaid : Prop := Claim7.holds Tryd.pinned (.plain (OpenSpec.ofChange fnExactHopPutSpec)) fnExactHopPutCard

/-- THE TIED CARD OF 'laws.FnExactMailPut'. -/
def fnExactMailPutCard : Claim7 := { stood := { row := fnExactMailPutRow, standIns := [], harness := (true, "d065156e6432331432b33b9dd7a4e4ab7a66eb5ecdc1fa129e2ab98bc5f0866b"), looks := false }, kinds := [], alts := [], laidByText := true, laidKinds := [.data, .pinned], laidTests := true, laidLooks := .later }
def FnExactMailPutCardSaid : Prop := Claim7.holds Tryd.pinned (.plain (OpenSpec.ofChange fnExactMailPutSpec)) fnExactMailPutCard

/-- THE TIED CARD OF 'laws.FnExactMailGet'. -/
def fnExactMailGetCard : Claim7 := { stood := { row := fnExactMailGetRow, standIns := [], harness := (true, "d065156e6432331432b33b9dd7a4e4ab7a66eb5ecdc1fa129e2ab98bc5f0866b"), looks := false }, kinds := [], alts := [], laidByText := true, laidKinds := [.data, .pinned], laidTests := true, laidLooks := .later }
def FnExactMailGetCardSaid : Prop := Claim7.holds Tryd.pinned (.plain (OpenSpec.ofChange fnExactMailGetSpec)) fnExactMailGetCard

/-- THE SECOND FORM's CARD OF 'laws.FnAddrGet'. -/
def fnAddrGetUptoCard : Claim7 := { stood := { row := fnAddrGetUptoRow, standIns := [], harness := (true, "d065156e6432331432b33b9dd7a4e4ab7a66eb5ecdc1fa129e2ab98bc5f0866b"), looks := false }, kinds := [], alts := [], laidByText := true, laidKinds := [.data, .pinned], laidTests := true, laidLooks := .later }
def FnAddrGetUptoCardSaid : Prop := Claim7.holds Tryd.pinned (.plain (OpenSpec.upto fnAddrGetSpec)) fnAddrGetUptoCard

/-- THE SECOND FORM's CARD OF 'laws.FnHops'. -/
def fnHopsUptoCard : Claim7 := { stood := { row := fnHopsUptoRow, standIns := [], harness := (true, "d065156e6432331432b33b9dd7a4e4ab7a66eb5ecdc1fa129e2ab98bc5f0866b"), looks := false }, kinds := [], alts := [], laidByText := true, laidKinds := [.data, .pinned], laidTests := true, laidLooks := .later }
def FnHopsUptoCardSaid : Prop := Claim7.holds Tryd.pinned (.plain (OpenSpec.upto fnHopsSpec)) fnHopsUptoCard

/-- THE SECOND FORM's CARD OF 'laws.FnDomain'. -/
def fnDomainUptoCard : Claim7 := { stood := { row := fnDomainUptoRow, standIns := [], harness := (true, "d065156e6432331432b33b9dd7a4e4ab7a66eb5ecdc1fa129e2ab98bc5f0866b"), looks := false }, kinds := [], alts := [], laidByText := true, laidKinds := [.data, .pinned], laidTests := true, laidLooks := .later }
def FnDomainUptoCardSaid : Prop := Claim7.holds Tryd.pinned (.plain (OpenSpec.upto fnDomainSpec)) fnDomainUptoCard

/-- THE SECOND FORM's CARD OF 'laws.FnAddrPut'. -/
def fnAddrPutUptoCard : Claim7 := { stood := { row := fnAddrPutUptoRow, standIns := [], harness := (true, "d065156e6432331432b33b9dd7a4e4ab7a66eb5ecdc1fa129e2ab98bc5f0866b"), looks := false }, kinds := [], alts := [], laidByText := true, laidKinds := [.data, .pinned], laidTests := true, laidLooks := .later }
def FnAddrPutUptoCardSaid : Prop := Claim7.holds Tryd.pinned (.plain (OpenSpec.upto fnAddrPutSpec)) fnAddrPutUptoCard

/-- THE SECOND FORM's CARD OF 'laws.FnMailPut'. -/
def fnMailPutUptoCard : Claim7 := { stood := { row := fnMailPutUptoRow, standIns := [], harness := (true, "d065156e6432331432b33b9dd7a4e4ab7a66eb5ecdc1fa129e2ab98bc5f0866b"), looks := false }, kinds := [], alts := [], laidByText := true, laidKinds := [.data, .pinned], laidTests := true, laidLooks := .later }
def FnMailPutUptoCardSaid : Prop := Claim7.holds Tryd.pinned (.plain (OpenSpec.upto fnMailPutSpec)) fnMailPutUptoCard

/-- THE SECOND FORM's CARD OF 'laws.FnMailGet'. -/
def fnMailGetUptoCard : Claim7 := { stood := { row := fnMailGetUptoRow, standIns := [], harness := (true, "d065156e6432331432b33b9dd7a4e4ab7a66eb5ecdc1fa129e2ab98bc5f0866b"), looks := false }, kinds := [], alts := [], laidByText := true, laidKinds := [.data, .pinned], laidTests := true, laidLooks := .later }
def FnMailGetUptoCardSaid : Prop := Claim7.holds Tryd.pinned (.plain (OpenSpec.upto fnMailGetSpec)) fnMailGetUptoCard

/-- THE SECOND FORM's CARD OF 'laws.FnExactDomainOk'. -/
def fnExactDomainOkUptoCard : Claim7 := { stood := { row := fnExactDomainOkUptoRow, standIns := [], harness := (true, "d065156e6432331432b33b9dd7a4e4ab7a66eb5ecdc1fa129e2ab98bc5f0866b"), looks := false }, kinds := [], alts := [], laidByText := true, laidKinds := [.data, .pinned], laidTests := true, laidLooks := .later }
def FnExactDomainOkUptoCardSaid : Prop := Claim7.holds Tryd.pinned (.plain (OpenSpec.upto fnExactDomainOkSpec)) fnExactDomainOkUptoCard

/-- THE SECOND FORM's CARD OF 'laws.FnExactAddrOk'. -/
def fnExactAddrOkUptoCard : Claim7 := { stood := { row := fnExactAddrOkUptoRow, standIns := [], harness := (true, "d065156e6432331432b33b9dd7a4e4ab7a66eb5ecdc1fa129e2ab98bc5f0866b"), looks := false }, kinds := [], alts := [], laidByText := true, laidKinds := [.data, .pinned], laidTests := true, laidLooks := .later }
def FnExactAddrOkUptoCardSaid : Prop := Claim7.holds Tryd.pinned (.plain (OpenSpec.upto fnExactAddrOkSpec)) fnExactAddrOkUptoCard

/-- THE SECOND FORM's CARD OF 'laws.FnExactAddrPut'. -/
def fnExactAddrPutUptoCard : Claim7 := { stood := { row := fnExactAddrPutUptoRow, standIns := [], harness := (true, "d065156e6432331432b33b9dd7a4e4ab7a66eb5ecdc1fa129e2ab98bc5f0866b"), looks := false }, kinds := [], alts := [], laidByText := true, laidKinds := [.data, .pinned], laidTests := true, laidLooks := .later }
def FnExactAddrPutUptoCardSaid : Prop := Claim7.holds Tryd.pinned (.plain (OpenSpec.upto fnExactAddrPutSpec)) fnExactAddrPutUptoCard

/-- THE SECOND FORM's CARD OF 'laws.FnExactAddrGet'. -/
def fnExactAddrGetUptoCard : Claim7 := { stood := { row := fnExactAddrGetUptoRow, standIns := [], harness := (true, "d065156e6432331432b33b9dd7a4e4ab7a66eb5ecdc1fa129e2ab98bc5f0866b"), looks := false }, kinds := [], alts := [], laidByText := true, laidKinds := [.data, .pinned], laidTests := true, laidLooks := .later }
def FnExactAddrGetUptoCardSaid : Prop := Claim7.holds Tryd.pinned (.plain (OpenSpec.upto fnExactAddrGetSpec)) fnExactAddrGetUptoCard

/-- THE SECOND FORM's CARD OF 'laws.FnExactDomainIn'. -/
def fnExactDomainInUptoCard : Claim7 := { stood := { row := fnExactDomainInUptoRow, standIns := [], harness := (true, "d065156e6432331432b33b9dd7a4e4ab7a66eb5ecdc1fa129e2ab98bc5f0866b"), looks := false }, kinds := [], alts := [], laidByText := true, laidKinds := [.data, .pinned], laidTests := true, laidLooks := .later }
def FnExactDomainInUptoCardSaid : Prop := Claim7.holds Tryd.pinned (.plain (OpenSpec.upto fnExactDomainInSpec)) fnExactDomainInUptoCard

/-- THE SECOND FORM's CARD OF 'laws.FnExactMailOk'. -/
def fnExactMailOkUptoCard : Claim7 := { stood := { row := fnExactMailOkUptoRow, standIns := [], harness := (true, "d065156e6432331432b33b9dd7a4e4ab7a66eb5ecdc1fa129e2ab98bc5f0866b"), looks := false }, kinds := [], alts := [], laidByText := true, laidKinds := [.data, .pinned], laidTests := true, laidLooks := .later }
def FnExactMailOkUptoCardSaid : Prop := Claim7.holds Tryd.pinned (.plain (OpenSpec.upto fnExactMailOkSpec)) fnExactMailOkUptoCard

/-- THE SECOND FORM's CARD OF 'laws.FnExactHopsOf'. -/
def fnExactHopsOfUptoCard : Claim7 := { stood := { row := fnExactHopsOfUptoRow, standIns := [], harness := (true, "d065156e6432331432b33b9dd7a4e4ab7a66eb5ecdc1fa129e2ab98bc5f0866b"), looks := false }, kinds := [], alts := [], laidByText := true, laidKinds := [.data, .pinned], laidTests := true, laidLooks := .later }
def FnExactHopsOfUptoCardSaid : Prop := Claim7.holds Tryd.pinned (.plain (OpenSpec.upto fnExactHopsOfSpec)) fnExactHopsOfUptoCard

/-- THE SECOND FORM's CARD OF 'laws.FnExactHopPut'. -/
def fnExactHopPutUptoCard : Claim7 := { stood := { row := fnExactHopPutUptoRow, standIns := [], harness := (true, "d065156e6432331432b33b9dd7a4e4ab7a66eb5ecdc1fa129e2ab98bc5f0866b"), looks := false }, kinds := [], alts := [], laidByText := true, laidKinds := [.data, .pinned], laidTests := true, laidLooks := .later }
def FnExactHopPutUptoCardSaid : Prop := Claim7.holds Tryd.pinned (.plain (OpenSpec.upto fnExactHopPutSpec)) fnExactHopPutUptoCard

/-- THE SECOND FORM's CARD OF 'laws.FnExactMailPut'. -/
def fnExactMailPutUptoCard : Claim7 := { stood := { row := fnExactMailPutUptoRow, standIns := [], harness := (true, "d065156e6432331432b33b9dd7a4e4ab7a66eb5ecdc1fa129e2ab98bc5f0866b"), looks := false }, kinds := [], alts := [], laidByText := true, laidKinds := [.data, .pinned], laidTests := true, laidLooks := .later }
def FnExactMailPutUptoCardSaid : Prop := Claim7.holds Tryd.pinned (.plain (OpenSpec.upto fnExactMailPutSpec)) fnExactMailPutUptoCard

/-- THE SECOND FORM's CARD OF 'laws.FnExactMailGet'. -/
def fnExactMailGetUptoCard : Claim7 := { stood := { row := fnExactMailGetUptoRow, standIns := [], harness := (true, "d065156e6432331432b33b9dd7a4e4ab7a66eb5ecdc1fa129e2ab98bc5f0866b"), looks := false }, kinds := [], alts := [], laidByText := true, laidKinds := [.data, .pinned], laidTests := true, laidLooks := .later }
def FnExactMailGetUptoCardSaid : Prop := Claim7.holds Tryd.pinned (.plain (OpenSpec.upto fnExactMailGetSpec)) fnExactMailGetUptoCard
end Rows
end Go.Proofs.YtaobhhjdkdoceaaDoor
