/-
  DERIVED. GIVEN WITH THE SEED: THE CARDS: each row of YtdfikepfjdoooaaDoorRows.lean that lists a variable, with what it lists TIED to the program's text (the seventh form; the later family's looks); each row that meets fmt, with fmt's text TOLD by the authors' own Lean function (tested against real Go, not proved from fmt's source: count such statements apart). THE CARD IS WHAT COUNTS. Prove the row's statement (the work); the ties are given (YtdfikepfjdoooaaDoorTie.lean); close each card by the builder's one call (the guide's Derived/Test/ToyasCard.lean, 'card_holds'). Laid BY PROGRAM, IN A SANDBOX (cutbox-door.mjs). By AI agents, Wed Nov 11 2026. No macro, syntax, notation, axiom, sorry.
-/
import Derived.Test.YtdfikepfjdoooaaDoorRows
import GoSem.ClaimSeven
namespace Go.Proofs.YtdfikepfjdoooaaDoor
namespace Rows

/-- THE TIED CARD OF 'laws.FnExactScanTokens'. -/
def fnExactScanTokensCard : Claim7 := { stood := { row := fnExactScanTokensRow, standIns := [], harness := (true, "10330271c57625d10446d33de0fac0371391ccb45db61dc754860949e5097a58"), looks := false }, kinds := [], alts := [], laidByText := true, laidKinds := [.data], laidTests := true, laidLooks := .later }
def FnExactScanTokensCardSaid : Prop := Claim7.holds Tryd.pinned (.plain (OpenSpec.ofChange fnExactScanTokensSpec)) fnExactScanTokensCard

/-- THE TIED CARD OF 'laws.FnExactLogicalLines'. -/
def fnExactLogicalLinesCard : Claim7 := { stood := { row := fnExactLogicalLinesRow, standIns := [], harness := (true, "10330271c57625d10446d33de0fac0371391ccb45db61dc754860949e5097a58"), looks := false }, kinds := [], alts := [], laidByText := true, laidKinds := [.data, .pinned], laidTests := true, laidLooks := .later }
def FnExactLogicalLinesCardSaid : Prop := Claim7.holds Tryd.pinned (.plain (OpenSpec.ofChange fnExactLogicalLinesSpec)) fnExactLogicalLinesCard

/-- THE TIED CARD OF 'laws.FnExactPrintTokens'. -/
def fnExactPrintTokensCard : Claim7 := { stood := { row := fnExactPrintTokensRow, standIns := [], harness := (true, "10330271c57625d10446d33de0fac0371391ccb45db61dc754860949e5097a58"), looks := false }, kinds := [], alts := [], laidByText := true, laidKinds := [.data, .data, .data, .data], laidTests := true, laidLooks := .later }
def FnExactPrintTokensCardSaid : Prop := Claim7.holds Tryd.pinned (.plain (OpenSpec.ofChange fnExactPrintTokensSpec)) fnExactPrintTokensCard

/-- THE TIED CARD OF 'laws.FnLines'. -/
def fnLinesCard : Claim7 := { stood := { row := fnLinesRow, standIns := [], harness := (true, "10330271c57625d10446d33de0fac0371391ccb45db61dc754860949e5097a58"), looks := false }, kinds := [], alts := [], laidByText := true, laidKinds := [.data, .pinned], laidTests := true, laidLooks := .later }
def FnLinesCardSaid : Prop := Claim7.holds Tryd.pinned (.plain (OpenSpec.ofChange fnLinesSpec)) fnLinesCard

/-- THE TIED CARD OF 'laws.FnQuote'. -/
def fnQuoteCard : Claim7 := { stood := { row := fnQuoteRow, standIns := [], harness := (true, "10330271c57625d10446d33de0fac0371391ccb45db61dc754860949e5097a58"), looks := false }, kinds := [], alts := [], laidByText := true, laidKinds := [.data], laidTests := true, laidLooks := .later }
def FnQuoteCardSaid : Prop := Claim7.holds Tryd.pinned (.plain (OpenSpec.ofChange fnQuoteSpec)) fnQuoteCard

/-- THE TIED CARD OF 'laws.FnTokens'. -/
def fnTokensCard : Claim7 := { stood := { row := fnTokensRow, standIns := [], harness := (true, "10330271c57625d10446d33de0fac0371391ccb45db61dc754860949e5097a58"), looks := false }, kinds := [], alts := [], laidByText := true, laidKinds := [.data, .data, .data, .data], laidTests := true, laidLooks := .later }
def FnTokensCardSaid : Prop := Claim7.holds Tryd.pinned (.plain (OpenSpec.ofChange fnTokensSpec)) fnTokensCard

/-- THE TIED CARD OF 'laws.FnExactIsLabel'. -/
def fnExactIsLabelCard : Claim7 := { stood := { row := fnExactIsLabelRow, standIns := [], harness := (true, "10330271c57625d10446d33de0fac0371391ccb45db61dc754860949e5097a58"), looks := false }, kinds := [], alts := [], laidByText := true, laidKinds := [.data], laidTests := true, laidLooks := .later }
def FnExactIsLabelCardSaid : Prop := Claim7.holds Tryd.pinned (.plain (OpenSpec.ofChange fnExactIsLabelSpec)) fnExactIsLabelCard

/-- THE TIED CARD OF 'laws.FnExactValidGoto'. -/
def fnExactValidGotoCard : Claim7 := { stood := { row := fnExactValidGotoRow, standIns := [], harness := (true, "10330271c57625d10446d33de0fac0371391ccb45db61dc754860949e5097a58"), looks := false }, kinds := [], alts := [], laidByText := true, laidKinds := [.data], laidTests := true, laidLooks := .later }
def FnExactValidGotoCardSaid : Prop := Claim7.holds Tryd.pinned (.plain (OpenSpec.ofChange fnExactValidGotoSpec)) fnExactValidGotoCard

/-- THE TIED CARD OF 'laws.FnExactGotoText'. -/
def fnExactGotoTextCard : Claim7 := { stood := { row := fnExactGotoTextRow, standIns := [], harness := (true, "10330271c57625d10446d33de0fac0371391ccb45db61dc754860949e5097a58"), looks := false }, kinds := [], alts := [], laidByText := true, laidKinds := [.data], laidTests := true, laidLooks := .later }
def FnExactGotoTextCardSaid : Prop := Claim7.holds Tryd.pinned (.plain (OpenSpec.ofChange fnExactGotoTextSpec)) fnExactGotoTextCard

/-- THE TIED CARD OF 'laws.FnExactGotoLabels'. -/
def fnExactGotoLabelsCard : Claim7 := { stood := { row := fnExactGotoLabelsRow, standIns := [], harness := (true, "10330271c57625d10446d33de0fac0371391ccb45db61dc754860949e5097a58"), looks := false }, kinds := [], alts := [], laidByText := true, laidKinds := [.data], laidTests := true, laidLooks := .later }
def FnExactGotoLabelsCardSaid : Prop := Claim7.holds Tryd.pinned (.plain (OpenSpec.ofChange fnExactGotoLabelsSpec)) fnExactGotoLabelsCard

/-- THE SECOND FORM's CARD OF 'laws.FnExactScanTokens'. -/
def fnExactScanTokensUptoCard : Claim7 := { stood := { row := fnExactScanTokensUptoRow, standIns := [], harness := (true, "10330271c57625d10446d33de0fac0371391ccb45db61dc754860949e5097a58"), looks := false }, kinds := [], alts := [], laidByText := true, laidKinds := [.data], laidTests := true, laidLooks := .later }
def FnExactScanTokensUptoCardSaid : Prop := Claim7.holds Tryd.pinned (.plain (OpenSpec.upto fnExactScanTokensSpec)) fnExactScanTokensUptoCard

/-- THE SECOND FORM's CARD OF 'laws.FnExactLogicalLines'. -/
def fnExactLogicalLinesUptoCard : Claim7 := { stood := { row := fnExactLogicalLinesUptoRow, standIns := [], harness := (true, "10330271c57625d10446d33de0fac0371391ccb45db61dc754860949e5097a58"), looks := false }, kinds := [], alts := [], laidByText := true, laidKinds := [.data, .pinned], laidTests := true, laidLooks := .later }
def FnExactLogicalLinesUptoCardSaid : Prop := Claim7.holds Tryd.pinned (.plain (OpenSpec.upto fnExactLogicalLinesSpec)) fnExactLogicalLinesUptoCard

/-- THE SECOND FORM's CARD OF 'laws.FnExactPrintTokens'. -/
def fnExactPrintTokensUptoCard : Claim7 := { stood := { row := fnExactPrintTokensUptoRow, standIns := [], harness := (true, "10330271c57625d10446d33de0fac0371391ccb45db61dc754860949e5097a58"), looks := false }, kinds := [], alts := [], laidByText := true, laidKinds := [.data, .data, .data, .data], laidTests := true, laidLooks := .later }
def FnExactPrintTokensUptoCardSaid : Prop := Claim7.holds Tryd.pinned (.plain (OpenSpec.upto fnExactPrintTokensSpec)) fnExactPrintTokensUptoCard

/-- THE SECOND FORM's CARD OF 'laws.FnLines'. -/
def fnLinesUptoCard : Claim7 := { stood := { row := fnLinesUptoRow, standIns := [], harness := (true, "10330271c57625d10446d33de0fac0371391ccb45db61dc754860949e5097a58"), looks := false }, kinds := [], alts := [], laidByText := true, laidKinds := [.data, .pinned], laidTests := true, laidLooks := .later }
def FnLinesUptoCardSaid : Prop := Claim7.holds Tryd.pinned (.plain (OpenSpec.upto fnLinesSpec)) fnLinesUptoCard

/-- THE SECOND FORM's CARD OF 'laws.FnQuote'. -/
def fnQuoteUptoCard : Claim7 := { stood := { row := fnQuoteUptoRow, standIns := [], harness := (true, "10330271c57625d10446d33de0fac0371391ccb45db61dc754860949e5097a58"), looks := false }, kinds := [], alts := [], laidByText := true, laidKinds := [.data], laidTests := true, laidLooks := .later }
def FnQuoteUptoCardSaid : Prop := Claim7.holds Tryd.pinned (.plain (OpenSpec.upto fnQuoteSpec)) fnQuoteUptoCard

/-- THE SECOND FORM's CARD OF 'laws.FnTokens'. -/
def fnTokensUptoCard : Claim7 := { stood := { row := fnTokensUptoRow, standIns := [], harness := (true, "10330271c57625d10446d33de0fac0371391ccb45db61dc754860949e5097a58"), looks := false }, kinds := [], alts := [], laidByText := true, laidKinds := [.data, .data, .data, .data], laidTests := true, laidLooks := .later }
def FnTokensUptoCardSaid : Prop := Claim7.holds Tryd.pinned (.plain (OpenSpec.upto fnTokensSpec)) fnTokensUptoCard

/-- THE SECOND FORM's CARD OF 'laws.FnExactIsLabel'. -/
def fnExactIsLabelUptoCard : Claim7 := { stood := { row := fnExactIsLabelUptoRow, standIns := [], harness := (true, "10330271c57625d10446d33de0fac0371391ccb45db61dc754860949e5097a58"), looks := false }, kinds := [], alts := [], laidByText := true, laidKinds := [.data], laidTests := true, laidLooks := .later }
def FnExactIsLabelUptoCardSaid : Prop := Claim7.holds Tryd.pinned (.plain (OpenSpec.upto fnExactIsLabelSpec)) fnExactIsLabelUptoCard

/-- THE SECOND FORM's CARD OF 'laws.FnExactValidGoto'. -/
def fnExactValidGotoUptoCard : Claim7 := { stood := { row := fnExactValidGotoUptoRow, standIns := [], harness := (true, "10330271c57625d10446d33de0fac0371391ccb45db61dc754860949e5097a58"), looks := false }, kinds := [], alts := [], laidByText := true, laidKinds := [.data], laidTests := true, laidLooks := .later }
def FnExactValidGotoUptoCardSaid : Prop := Claim7.holds Tryd.pinned (.plain (OpenSpec.upto fnExactValidGotoSpec)) fnExactValidGotoUptoCard

/-- THE SECOND FORM's CARD OF 'laws.FnExactGotoText'. -/
def fnExactGotoTextUptoCard : Claim7 := { stood := { row := fnExactGotoTextUptoRow, standIns := [], harness := (true, "10330271c57625d10446d33de0fac0371391ccb45db61dc754860949e5097a58"), looks := false }, kinds := [], alts := [], laidByText := true, laidKinds := [.data], laidTests := true, laidLooks := .later }
def FnExactGotoTextUptoCardSaid : Prop := Claim7.holds Tryd.pinned (.plain (OpenSpec.upto fnExactGotoTextSpec)) fnExactGotoTextUptoCard

/-- THE SECOND FORM's CARD OF 'laws.FnExactGotoLabels'. -/
def fnExactGotoLabelsUptoCard : Claim7 := { stood := { row := fnExactGotoLabelsUptoRow, standIns := [], harness := (true, "10330271c57625d10446d33de0fac0371391ccb45db61dc754860949e5097a58"), looks := false }, kinds := [], alts := [], laidByText := true, laidKinds := [.data], laidTests := true, laidLooks := .later }
def FnExactGotoLabelsUptoCardSaid : Prop := Claim7.holds Tryd.pinned (.plain (OpenSpec.upto fnExactGotoLabelsSpec)) fnExactGotoLabelsUptoCard
end Rows
end Go.Proofs.YtdfikepfjdoooaaDoor
