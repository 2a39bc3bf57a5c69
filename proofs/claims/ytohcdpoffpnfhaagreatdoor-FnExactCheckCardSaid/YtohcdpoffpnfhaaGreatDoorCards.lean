/-
  DERIVED. GIVEN WITH THE SEED: THE CARDS: each row of YtohcdpoffpnfhaaGreatDoorRows.lean that lists a variable, with what it lists TIED to the program's text (the seventh form; the later family's looks); each row that meets fmt, with fmt's text TOLD by the authors' own Lean function (tested against real Go, not proved from fmt's source: count such statements apart). THE CARD IS WHAT COUNTS. Prove the row's statement (the work); the ties are given (YtohcdpoffpnfhaaGreatDoorTie.lean); close each card by the builder's one call (the guide's Derived/Test/ToyasCard.lean, 'card_holds'). Laid BY PROGRAM, IN A SANDBOX (cutbox-door.mjs). By AI agents, Wed Nov 11 2026. No macro, syntax, notation, axiom, sorry.
-/
import Derived.Test.YtohcdpoffpnfhaaGreatDoorRows
import GoSem.ClaimSeven
namespace Go.Proofs.YtohcdpoffpnfhaaGreatDoor
namespace Rows

/-- THE TIED CARD OF 'laws.FnExactCheck'. -/
def fnExactCheckCard : Claim7 := { stood := { row := fnExactCheckRow, standIns := [], harness := (true, "9a927852311536af8864a9c1d8ed2cdd3c20e5f0a4c42f4c1d8cfe0981a96ad0"), looks := true }, kinds := [], alts := [], laidByText := true, laidKinds := [.sentinel, .sentinel], laidTests := true, laidLooks := .later }
def FnExactCheckCardSaid : Prop := Claim7.holds Tryz.pinned (.plain (OpenSpec.ofChange fnExactCheckSpec)) fnExactCheckCard

/-- THE TIED CARD OF 'laws.FnExactTreeRight'. -/
def fnExactTreeRightCard : Claim7 := { stood := { row := fnExactTreeRightRow, standIns := [], harness := (true, "9a927852311536af8864a9c1d8ed2cdd3c20e5f0a4c42f4c1d8cfe0981a96ad0"), looks := true }, kinds := [], alts := [], laidByText := true, laidKinds := [.sentinel, .sentinel], laidTests := true, laidLooks := .later }
def FnExactTreeRightCardSaid : Prop := Claim7.holds Tryz.pinned (.plain (OpenSpec.ofChange fnExactTreeRightSpec)) fnExactTreeRightCard

/-- THE TIED CARD OF 'laws.FnExactTreeGet'. -/
def fnExactTreeGetCard : Claim7 := { stood := { row := fnExactTreeGetRow, standIns := [], harness := (true, "9a927852311536af8864a9c1d8ed2cdd3c20e5f0a4c42f4c1d8cfe0981a96ad0"), looks := true }, kinds := [], alts := [], laidByText := true, laidKinds := [.sentinel, .sentinel], laidTests := true, laidLooks := .later }
def FnExactTreeGetCardSaid : Prop := Claim7.holds Tryz.pinned (.plain (OpenSpec.ofChange fnExactTreeGetSpec)) fnExactTreeGetCard

/-- THE TIED CARD OF 'laws.FnExactTreeAdd'. -/
def fnExactTreeAddCard : Claim7 := { stood := { row := fnExactTreeAddRow, standIns := [], harness := (true, "9a927852311536af8864a9c1d8ed2cdd3c20e5f0a4c42f4c1d8cfe0981a96ad0"), looks := true }, kinds := [], alts := [], laidByText := true, laidKinds := [.sentinel, .sentinel], laidTests := true, laidLooks := .later }
def FnExactTreeAddCardSaid : Prop := Claim7.holds Tryz.pinned (.plain (OpenSpec.ofChange fnExactTreeAddSpec)) fnExactTreeAddCard

/-- THE TIED CARD OF 'laws.FnExactTreeDelete'. -/
def fnExactTreeDeleteCard : Claim7 := { stood := { row := fnExactTreeDeleteRow, standIns := [], harness := (true, "9a927852311536af8864a9c1d8ed2cdd3c20e5f0a4c42f4c1d8cfe0981a96ad0"), looks := true }, kinds := [], alts := [], laidByText := true, laidKinds := [.sentinel, .sentinel], laidTests := true, laidLooks := .later }
def FnExactTreeDeleteCardSaid : Prop := Claim7.holds Tryz.pinned (.plain (OpenSpec.ofChange fnExactTreeDeleteSpec)) fnExactTreeDeleteCard

/-- THE TIED CARD OF 'laws.FnExactTreeModify'. -/
def fnExactTreeModifyCard : Claim7 := { stood := { row := fnExactTreeModifyRow, standIns := [], harness := (true, "9a927852311536af8864a9c1d8ed2cdd3c20e5f0a4c42f4c1d8cfe0981a96ad0"), looks := true }, kinds := [], alts := [], laidByText := true, laidKinds := [.sentinel, .sentinel], laidTests := true, laidLooks := .later }
def FnExactTreeModifyCardSaid : Prop := Claim7.holds Tryz.pinned (.plain (OpenSpec.ofChange fnExactTreeModifySpec)) fnExactTreeModifyCard

/-- THE SECOND FORM's CARD OF 'laws.FnExactCheck'. -/
def fnExactCheckUptoCard : Claim7 := { stood := { row := fnExactCheckUptoRow, standIns := [], harness := (true, "9a927852311536af8864a9c1d8ed2cdd3c20e5f0a4c42f4c1d8cfe0981a96ad0"), looks := true }, kinds := [], alts := [], laidByText := true, laidKinds := [.sentinel, .sentinel], laidTests := true, laidLooks := .later }
def FnExactCheckUptoCardSaid : Prop := Claim7.holds Tryz.pinned (.plain (OpenSpec.upto fnExactCheckSpec)) fnExactCheckUptoCard

/-- THE SECOND FORM's CARD OF 'laws.FnExactTreeRight'. -/
def fnExactTreeRightUptoCard : Claim7 := { stood := { row := fnExactTreeRightUptoRow, standIns := [], harness := (true, "9a927852311536af8864a9c1d8ed2cdd3c20e5f0a4c42f4c1d8cfe0981a96ad0"), looks := true }, kinds := [], alts := [], laidByText := true, laidKinds := [.sentinel, .sentinel], laidTests := true, laidLooks := .later }
def FnExactTreeRightUptoCardSaid : Prop := Claim7.holds Tryz.pinned (.plain (OpenSpec.upto fnExactTreeRightSpec)) fnExactTreeRightUptoCard

/-- THE SECOND FORM's CARD OF 'laws.FnExactTreeGet'. -/
def fnExactTreeGetUptoCard : Claim7 := { stood := { row := fnExactTreeGetUptoRow, standIns := [], harness := (true, "9a927852311536af8864a9c1d8ed2cdd3c20e5f0a4c42f4c1d8cfe0981a96ad0"), looks := true }, kinds := [], alts := [], laidByText := true, laidKinds := [.sentinel, .sentinel], laidTests := true, laidLooks := .later }
def FnExactTreeGetUptoCardSaid : Prop := Claim7.holds Tryz.pinned (.plain (OpenSpec.upto fnExactTreeGetSpec)) fnExactTreeGetUptoCard

/-- THE SECOND FORM's CARD OF 'laws.FnExactTreeAdd'. -/
def fnExactTreeAddUptoCard : Claim7 := { stood := { row := fnExactTreeAddUptoRow, standIns := [], harness := (true, "9a927852311536af8864a9c1d8ed2cdd3c20e5f0a4c42f4c1d8cfe0981a96ad0"), looks := true }, kinds := [], alts := [], laidByText := true, laidKinds := [.sentinel, .sentinel], laidTests := true, laidLooks := .later }
def FnExactTreeAddUptoCardSaid : Prop := Claim7.holds Tryz.pinned (.plain (OpenSpec.upto fnExactTreeAddSpec)) fnExactTreeAddUptoCard

/-- THE SECOND FORM's CARD OF 'laws.FnExactTreeDelete'. -/
def fnExactTreeDeleteUptoCard : Claim7 := { stood := { row := fnExactTreeDeleteUptoRow, standIns := [], harness := (true, "9a927852311536af8864a9c1d8ed2cdd3c20e5f0a4c42f4c1d8cfe0981a96ad0"), looks := true }, kinds := [], alts := [], laidByText := true, laidKinds := [.sentinel, .sentinel], laidTests := true, laidLooks := .later }
def FnExactTreeDeleteUptoCardSaid : Prop := Claim7.holds Tryz.pinned (.plain (OpenSpec.upto fnExactTreeDeleteSpec)) fnExactTreeDeleteUptoCard

/-- THE SECOND FORM's CARD OF 'laws.FnExactTreeModify'. -/
def fnExactTreeModifyUptoCard : Claim7 := { stood := { row := fnExactTreeModifyUptoRow, standIns := [], harness := (true, "9a927852311536af8864a9c1d8ed2cdd3c20e5f0a4c42f4c1d8cfe0981a96ad0"), looks := true }, kinds := [], alts := [], laidByText := true, laidKinds := [.sentinel, .sentinel], laidTests := true, laidLooks := .later }
def FnExactTreeModifyUptoCardSaid : Prop := Claim7.holds Tryz.pinned (.plain (OpenSpec.upto fnExactTreeModifySpec)) fnExactTreeModifyUptoCard
end Rows
end Go.Proofs.YtohcdpoffpnfhaaGreatDoor
