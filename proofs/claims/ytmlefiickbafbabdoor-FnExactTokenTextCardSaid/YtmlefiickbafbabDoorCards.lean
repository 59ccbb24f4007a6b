/-
  DERIVED. GIVEN WITH THE SEED: THE CARDS: each row of YtmlefiickbafbabDoorRows.lean that lists a variable, with what it lists TIED to the program's text (the seventh form; the later family's looks); each row that meets fmt, with fmt's text TOLD by the authors' own Lean function (tested against real Go, not proved from fmt's source: count such statements apart). THE CARD IS WHAT COUNTS. Prove the row's statement (the work); the ties are given (YtmlefiickbafbabDoorTie.lean); close each card by the builder's one call (the guide's Derived/Test/ToyasCard.lean, 'card_holds'). Laid BY PROGRAM, IN A SANDBOX (cutbox-door.mjs). By AI agents, Wed Nov 11 2026. No macro, syntax, notation, axiom, sorry.
-/
import Derived.Test.YtmlefiickbafbabDoorRows
import GoSem.ClaimSeven
namespace Go.Proofs.YtmlefiickbafbabDoor
namespace Rows

/-- THE TIED CARD OF 'laws.FnExactIsName'. -/
def fnExactIsNameCard : Claim7 := { stood := { row := fnExactIsNameRow, standIns := [], harness := (true, "cd0f5db09a8b5af59e4224cbfc113bb17617dc7cb204cf226d159c0c83ce7210"), looks := false }, kinds := [], alts := [], laidByText := true, laidKinds := [.data], laidTests := true, laidLooks := .later }
def FnExactIsNameCardSaid : Prop := Claim7.holds Tryd.pinned (.plain (OpenSpec.ofChange fnExactIsNameSpec)) fnExactIsNameCard

/-- THE TIED CARD OF 'laws.FnExactValidToken'. -/
def fnExactValidTokenCard : Claim7 := { stood := { row := fnExactValidTokenRow, standIns := [], harness := (true, "cd0f5db09a8b5af59e4224cbfc113bb17617dc7cb204cf226d159c0c83ce7210"), looks := false }, kinds := [], alts := [], laidByText := true, laidKinds := [.data], laidTests := true, laidLooks := .later }
def FnExactValidTokenCardSaid : Prop := Claim7.holds Tryd.pinned (.plain (OpenSpec.ofChange fnExactValidTokenSpec)) fnExactValidTokenCard

/-- THE TIED CARD OF 'laws.FnExactTokenText'. -/
def fnExactTokenTextCard : Claim7 := { stood := { row := fnExactTokenTextRow, standIns := [], harness := (true, "cd0f5db09a8b5af59e4224cbfc113bb17617dc7cb204cf226d159c0c83ce7210"), looks := false }, kinds := [], alts := [], laidByText := true, laidKinds := [.data, .data, .data, .data], laidTests := true, laidLooks := .later }
def FnExactTokenTextCardSaid : Prop := Claim7.holds Tryd.pinned (.plain (OpenSpec.ofChange fnExactTokenTextSpec)) fnExactTokenTextCard

/-- THE TIED CARD OF 'laws.FnExactScanTokens'. -/
def fnExactScanTokensCard : Claim7 := { stood := { row := fnExactScanTokensRow, standIns := [], harness := (true, "cd0f5db09a8b5af59e4224cbfc113bb17617dc7cb204cf226d159c0c83ce7210"), looks := false }, kinds := [], alts := [], laidByText := true, laidKinds := [.data], laidTests := true, laidLooks := .later }
def FnExactScanTokensCardSaid : Prop := Claim7.holds Tryd.pinned (.plain (OpenSpec.ofChange fnExactScanTokensSpec)) fnExactScanTokensCard

/-- THE TIED CARD OF 'laws.FnExactPrintTokens'. -/
def fnExactPrintTokensCard : Claim7 := { stood := { row := fnExactPrintTokensRow, standIns := [], harness := (true, "cd0f5db09a8b5af59e4224cbfc113bb17617dc7cb204cf226d159c0c83ce7210"), looks := false }, kinds := [], alts := [], laidByText := true, laidKinds := [.data, .data, .data, .data], laidTests := true, laidLooks := .later }
def FnExactPrintTokensCardSaid : Prop := Claim7.holds Tryd.pinned (.plain (OpenSpec.ofChange fnExactPrintTokensSpec)) fnExactPrintTokensCard

/-- THE TIED CARD OF 'laws.FnExactIsInfix'. -/
def fnExactIsInfixCard : Claim7 := { stood := { row := fnExactIsInfixRow, standIns := [], harness := (true, "cd0f5db09a8b5af59e4224cbfc113bb17617dc7cb204cf226d159c0c83ce7210"), looks := false }, kinds := [], alts := [], laidByText := true, laidKinds := [.data], laidTests := true, laidLooks := .later }
def FnExactIsInfixCardSaid : Prop := Claim7.holds Tryd.pinned (.plain (OpenSpec.ofChange fnExactIsInfixSpec)) fnExactIsInfixCard

/-- THE TIED CARD OF 'laws.FnQuote'. -/
def fnQuoteCard : Claim7 := { stood := { row := fnQuoteRow, standIns := [], harness := (true, "cd0f5db09a8b5af59e4224cbfc113bb17617dc7cb204cf226d159c0c83ce7210"), looks := false }, kinds := [], alts := [], laidByText := true, laidKinds := [.data], laidTests := true, laidLooks := .later }
def FnQuoteCardSaid : Prop := Claim7.holds Tryd.pinned (.plain (OpenSpec.ofChange fnQuoteSpec)) fnQuoteCard

/-- THE TIED CARD OF 'laws.FnTokens'. -/
def fnTokensCard : Claim7 := { stood := { row := fnTokensRow, standIns := [], harness := (true, "cd0f5db09a8b5af59e4224cbfc113bb17617dc7cb204cf226d159c0c83ce7210"), looks := false }, kinds := [], alts := [], laidByText := true, laidKinds := [.data, .data, .data, .data], laidTests := true, laidLooks := .later }
def FnTokensCardSaid : Prop := Claim7.holds Tryd.pinned (.plain (OpenSpec.ofChange fnTokensSpec)) fnTokensCard

/-- THE SECOND FORM's CARD OF 'laws.FnExactIsName'. -/
def fnExactIsNameUptoCard : Claim7 := { stood := { row := fnExactIsNameUptoRow, standIns := [], harness := (true, "cd0f5db09a8b5af59e4224cbfc113bb17617dc7cb204cf226d159c0c83ce7210"), looks := false }, kinds := [], alts := [], laidByText := true, laidKinds := [.data], laidTests := true, laidLooks := .later }
def FnExactIsNameUptoCardSaid : Prop := Claim7.holds Tryd.pinned (.plain (OpenSpec.upto fnExactIsNameSpec)) fnExactIsNameUptoCard

/-- THE SECOND FORM's CARD OF 'laws.FnExactValidToken'. -/
def fnExactValidTokenUptoCard : Claim7 := { stood := { row := fnExactValidTokenUptoRow, standIns := [], harness := (true, "cd0f5db09a8b5af59e4224cbfc113bb17617dc7cb204cf226d159c0c83ce7210"), looks := false }, kinds := [], alts := [], laidByText := true, laidKinds := [.data], laidTests := true, laidLooks := .later }
def FnExactValidTokenUptoCardSaid : Prop := Claim7.holds Tryd.pinned (.plain (OpenSpec.upto fnExactValidTokenSpec)) fnExactValidTokenUptoCard

/-- THE SECOND FORM's CARD OF 'laws.FnExactTokenText'. -/
def fnExactTokenTextUptoCard : Claim7 := { stood := { row := fnExactTokenTextUptoRow, standIns := [], harness := (true, "cd0f5db09a8b5af59e4224cbfc113bb17617dc7cb204cf226d159c0c83ce7210"), looks := false }, kinds := [], alts := [], laidByText := true, laidKinds := [.data, .data, .data, .data], laidTests := true, laidLooks := .later }
def FnExactTokenTextUptoCardSaid : Prop := Claim7.holds Tryd.pinned (.plain (OpenSpec.upto fnExactTokenTextSpec)) fnExactTokenTextUptoCard

/-- THE SECOND FORM's CARD OF 'laws.FnExactScanTokens'. -/
def fnExactScanTokensUptoCard : Claim7 := { stood := { row := fnExactScanTokensUptoRow, standIns := [], harness := (true, "cd0f5db09a8b5af59e4224cbfc113bb17617dc7cb204cf226d159c0c83ce7210"), looks := false }, kinds := [], alts := [], laidByText := true, laidKinds := [.data], laidTests := true, laidLooks := .later }
def FnExactScanTokensUptoCardSaid : Prop := Claim7.holds Tryd.pinned (.plain (OpenSpec.upto fnExactScanTokensSpec)) fnExactScanTokensUptoCard

/-- THE SECOND FORM's CARD OF 'laws.FnExactPrintTokens'. -/
def fnExactPrintTokensUptoCard : Claim7 := { stood := { row := fnExactPrintTokensUptoRow, standIns := [], harness := (true, "cd0f5db09a8b5af59e4224cbfc113bb17617dc7cb204cf226d159c0c83ce7210"), looks := false }, kinds := [], alts := [], laidByText := true, laidKinds := [.data, .data, .data, .data], laidTests := true, laidLooks := .later }
def FnExactPrintTokensUptoCardSaid : Prop := Claim7.holds Tryd.pinned (.plain (OpenSpec.upto fnExactPrintTokensSpec)) fnExactPrintTokensUptoCard

/-- THE SECOND FORM's CARD OF 'laws.FnExactIsInfix'. -/
def fnExactIsInfixUptoCard : Claim7 := { stood := { row := fnExactIsInfixUptoRow, standIns := [], harness := (true, "cd0f5db09a8b5af59e4224cbfc113bb17617dc7cb204cf226d159c0c83ce7210"), looks := false }, kinds := [], alts := [], laidByText := true, laidKinds := [.data], laidTests := true, laidLooks := .later }
def FnExactIsInfixUptoCardSaid : Prop := Claim7.holds Tryd.pinned (.plain (OpenSpec.upto fnExactIsInfixSpec)) fnExactIsInfixUptoCard

/-- THE SECOND FORM's CARD OF 'laws.FnQuote'. -/
def fnQuoteUptoCard : Claim7 := { stood := { row := fnQuoteUptoRow, standIns := [], harness := (true, "cd0f5db09a8b5af59e4224cbfc113bb17617dc7cb204cf226d159c0c83ce7210"), looks := false }, kinds := [], alts := [], laidByText := true, laidKinds := [.data], laidTests := true, laidLooks := .later }
def FnQuoteUptoCardSaid : Prop := Claim7.holds Tryd.pinned (.plain (OpenSpec.upto fnQuoteSpec)) fnQuoteUptoCard

/-- THE SECOND FORM's CARD OF 'laws.FnTokens'. -/
def fnTokensUptoCard : Claim7 := { stood := { row := fnTokensUptoRow, standIns := [], harness := (true, "cd0f5db09a8b5af59e4224cbfc113bb17617dc7cb204cf226d159c0c83ce7210"), looks := false }, kinds := [], alts := [], laidByText := true, laidKinds := [.data, .data, .data, .data], laidTests := true, laidLooks := .later }
def FnTokensUptoCardSaid : Prop := Claim7.holds Tryd.pinned (.plain (OpenSpec.upto fnTokensSpec)) fnTokensUptoCard
end Rows
end Go.Proofs.YtmlefiickbafbabDoor
