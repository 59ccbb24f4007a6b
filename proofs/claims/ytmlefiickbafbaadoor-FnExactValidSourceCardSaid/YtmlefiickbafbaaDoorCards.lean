/-
  DERIVED. GIVEN WITH THE SEED: THE CARDS: each row of YtmlefiickbafbaaDoorRows.lean that lists a variable, with what it lists TIED to the program's text (the seventh form; the later family's looks); each row that meets fmt, with fmt's text TOLD by the authors' own Lean function (tested against real Go, not proved from fmt's source: count such statements apart). THE CARD IS WHAT COUNTS. Prove the row's statement (the work); the ties are given (YtmlefiickbafbaaDoorTie.lean); close each card by the builder's one call (the guide's Derived/Test/ToyasCard.lean, 'card_holds'). Laid BY PROGRAM, IN A SANDBOX (cutbox-door.mjs). By AI agents, Wed Nov 11 2026. No macro, syntax, notation, axiom, sorry.
-/
import Derived.Test.YtmlefiickbafbaaDoorRows
import GoSem.ClaimSeven
namespace Go.Proofs.YtmlefiickbafbaaDoor
namespace Rows

/-- THE TIED CARD OF 'laws.FnExactCodeName'. -/
def fnExactCodeNameCard : Claim7 := { stood := { row := fnExactCodeNameRow, standIns := [], harness := (true, "268f94ae5c4c6d60c707b20f9363bfcf81673db46e2ee2a6df246e39faf79106"), looks := false }, kinds := [], alts := [], laidByText := true, laidKinds := [.data], laidTests := true, laidLooks := .later }
def FnExactCodeNameCardSaid : Prop := Claim7.holds Tryd.pinned (.plain (OpenSpec.ofChange fnExactCodeNameSpec)) fnExactCodeNameCard

/-- THE TIED CARD OF 'laws.FnExactSplitLines'. -/
def fnExactSplitLinesCard : Claim7 := { stood := { row := fnExactSplitLinesRow, standIns := [], harness := (true, "268f94ae5c4c6d60c707b20f9363bfcf81673db46e2ee2a6df246e39faf79106"), looks := false }, kinds := [], alts := [], laidByText := true, laidKinds := [.data, .pinned], laidTests := true, laidLooks := .later }
def FnExactSplitLinesCardSaid : Prop := Claim7.holds Tryd.pinned (.plain (OpenSpec.ofChange fnExactSplitLinesSpec)) fnExactSplitLinesCard

/-- THE TIED CARD OF 'laws.FnExactValidSource'. -/
def fnExactValidSourceCard : Claim7 := { stood := { row := fnExactValidSourceRow, standIns := [], harness := (true, "268f94ae5c4c6d60c707b20f9363bfcf81673db46e2ee2a6df246e39faf79106"), looks := false }, kinds := [], alts := [], laidByText := true, laidKinds := [.data, .pinned], laidTests := true, laidLooks := .later }
def FnExactValidSourceCardSaid : Prop := Claim7.holds Tryd.pinned (.plain (OpenSpec.ofChange fnExactValidSourceSpec)) fnExactValidSourceCard

/-- THE TIED CARD OF 'laws.FnExactIsBlankLine'. -/
def fnExactIsBlankLineCard : Claim7 := { stood := { row := fnExactIsBlankLineRow, standIns := [], harness := (true, "268f94ae5c4c6d60c707b20f9363bfcf81673db46e2ee2a6df246e39faf79106"), looks := false }, kinds := [], alts := [], laidByText := true, laidKinds := [.data, .pinned], laidTests := true, laidLooks := .later }
def FnExactIsBlankLineCardSaid : Prop := Claim7.holds Tryd.pinned (.plain (OpenSpec.ofChange fnExactIsBlankLineSpec)) fnExactIsBlankLineCard

/-- THE TIED CARD OF 'laws.FnExactLogicalLines'. -/
def fnExactLogicalLinesCard : Claim7 := { stood := { row := fnExactLogicalLinesRow, standIns := [], harness := (true, "268f94ae5c4c6d60c707b20f9363bfcf81673db46e2ee2a6df246e39faf79106"), looks := false }, kinds := [], alts := [], laidByText := true, laidKinds := [.data, .pinned], laidTests := true, laidLooks := .later }
def FnExactLogicalLinesCardSaid : Prop := Claim7.holds Tryd.pinned (.plain (OpenSpec.ofChange fnExactLogicalLinesSpec)) fnExactLogicalLinesCard

/-- THE TIED CARD OF 'laws.FnLines'. -/
def fnLinesCard : Claim7 := { stood := { row := fnLinesRow, standIns := [], harness := (true, "268f94ae5c4c6d60c707b20f9363bfcf81673db46e2ee2a6df246e39faf79106"), looks := false }, kinds := [], alts := [], laidByText := true, laidKinds := [.data, .pinned], laidTests := true, laidLooks := .later }
def FnLinesCardSaid : Prop := Claim7.holds Tryd.pinned (.plain (OpenSpec.ofChange fnLinesSpec)) fnLinesCard

/-- THE TIED CARD OF 'laws.FnExactIsOperator'. -/
def fnExactIsOperatorCard : Claim7 := { stood := { row := fnExactIsOperatorRow, standIns := [], harness := (true, "268f94ae5c4c6d60c707b20f9363bfcf81673db46e2ee2a6df246e39faf79106"), looks := false }, kinds := [], alts := [], laidByText := true, laidKinds := [.data], laidTests := true, laidLooks := .later }
def FnExactIsOperatorCardSaid : Prop := Claim7.holds Tryd.pinned (.plain (OpenSpec.ofChange fnExactIsOperatorSpec)) fnExactIsOperatorCard

/-- THE SECOND FORM's CARD OF 'laws.FnExactCodeName'. -/
def fnExactCodeNameUptoCard : Claim7 := { stood := { row := fnExactCodeNameUptoRow, standIns := [], harness := (true, "268f94ae5c4c6d60c707b20f9363bfcf81673db46e2ee2a6df246e39faf79106"), looks := false }, kinds := [], alts := [], laidByText := true, laidKinds := [.data], laidTests := true, laidLooks := .later }
def FnExactCodeNameUptoCardSaid : Prop := Claim7.holds Tryd.pinned (.plain (OpenSpec.upto fnExactCodeNameSpec)) fnExactCodeNameUptoCard

/-- THE SECOND FORM's CARD OF 'laws.FnExactSplitLines'. -/
def fnExactSplitLinesUptoCard : Claim7 := { stood := { row := fnExactSplitLinesUptoRow, standIns := [], harness := (true, "268f94ae5c4c6d60c707b20f9363bfcf81673db46e2ee2a6df246e39faf79106"), looks := false }, kinds := [], alts := [], laidByText := true, laidKinds := [.data, .pinned], laidTests := true, laidLooks := .later }
def FnExactSplitLinesUptoCardSaid : Prop := Claim7.holds Tryd.pinned (.plain (OpenSpec.upto fnExactSplitLinesSpec)) fnExactSplitLinesUptoCard

/-- THE SECOND FORM's CARD OF 'laws.FnExactValidSource'. -/
def fnExactValidSourceUptoCard : Claim7 := { stood := { row := fnExactValidSourceUptoRow, standIns := [], harness := (true, "268f94ae5c4c6d60c707b20f9363bfcf81673db46e2ee2a6df246e39faf79106"), looks := false }, kinds := [], alts := [], laidByText := true, laidKinds := [.data, .pinned], laidTests := true, laidLooks := .later }
def FnExactValidSourceUptoCardSaid : Prop := Claim7.holds Tryd.pinned (.plain (OpenSpec.upto fnExactValidSourceSpec)) fnExactValidSourceUptoCard

/-- THE SECOND FORM's CARD OF 'laws.FnExactIsBlankLine'. -/
def fnExactIsBlankLineUptoCard : Claim7 := { stood := { row := fnExactIsBlankLineUptoRow, standIns := [], harness := (true, "268f94ae5c4c6d60c707b20f9363bfcf81673db46e2ee2a6df246e39faf79106"), looks := false }, kinds := [], alts := [], laidByText := true, laidKinds := [.data, .pinned], laidTests := true, laidLooks := .later }
def FnExactIsBlankLineUptoCardSaid : Prop := Claim7.holds Tryd.pinned (.plain (OpenSpec.upto fnExactIsBlankLineSpec)) fnExactIsBlankLineUptoCard

/-- THE SECOND FORM's CARD OF 'laws.FnExactLogicalLines'. -/
def fnExactLogicalLinesUptoCard : Claim7 := { stood := { row := fnExactLogicalLinesUptoRow, standIns := [], harness := (true, "268f94ae5c4c6d60c707b20f9363bfcf81673db46e2ee2a6df246e39faf79106"), looks := false }, kinds := [], alts := [], laidByText := true, laidKinds := [.data, .pinned], laidTests := true, laidLooks := .later }
def FnExactLogicalLinesUptoCardSaid : Prop := Claim7.holds Tryd.pinned (.plain (OpenSpec.upto fnExactLogicalLinesSpec)) fnExactLogicalLinesUptoCard

/-- THE SECOND FORM's CARD OF 'laws.FnLines'. -/
def fnLinesUptoCard : Claim7 := { stood := { row := fnLinesUptoRow, standIns := [], harness := (true, "268f94ae5c4c6d60c707b20f9363bfcf81673db46e2ee2a6df246e39faf79106"), looks := false }, kinds := [], alts := [], laidByText := true, laidKinds := [.data, .pinned], laidTests := true, laidLooks := .later }
def FnLinesUptoCardSaid : Prop := Claim7.holds Tryd.pinned (.plain (OpenSpec.upto fnLinesSpec)) fnLinesUptoCard

/-- THE SECOND FORM's CARD OF 'laws.FnExactIsOperator'. -/
def fnExactIsOperatorUptoCard : Claim7 := { stood := { row := fnExactIsOperatorUptoRow, standIns := [], harness := (true, "268f94ae5c4c6d60c707b20f9363bfcf81673db46e2ee2a6df246e39faf79106"), looks := false }, kinds := [], alts := [], laidByText := true, laidKinds := [.data], laidTests := true, laidLooks := .later }
def FnExactIsOperatorUptoCardSaid : Prop := Claim7.holds Tryd.pinned (.plain (OpenSpec.upto fnExactIsOperatorSpec)) fnExactIsOperatorUptoCard
end Rows
end Go.Proofs.YtmlefiickbafbaaDoor
