/-
  DERIVED. GIVEN WITH THE SEED: THE CARDS: each row of YtfobjedobojbnabDoorRows.lean that lists a variable, with what it lists TIED to the program's text (the seventh form; the later family's looks); each row that meets fmt, with fmt's text TOLD by the authors' own Lean function (tested against real Go, not proved from fmt's source: count such statements apart). THE CARD IS WHAT COUNTS. Prove the row's statement (the work); the ties are given (YtfobjedobojbnabDoorTie.lean); close each card by the builder's one call (the guide's Derived/Test/ToyasCard.lean, 'card_holds'). Laid BY PROGRAM, IN A SANDBOX (cutbox-door.mjs). By AI agents, Wed Nov 11 2026. No macro, syntax, notation, axiom, sorry.
-/
import Derived.Test.YtfobjedobojbnabDoorRows
import GoSem.ClaimSeven
namespace Go.Proofs.YtfobjedobojbnabDoor
namespace Rows

/-- THE TIED CARD OF 'laws.FnExactLogicalLines'. -/
def fnExactLogicalLinesCard : Claim7 := { stood := { row := fnExactLogicalLinesRow, standIns := [], harness := (true, "719d21c7f761162936125099902c1c3fb2bb178d70784b85094cac45eb93ddda"), looks := false }, kinds := [], alts := [], laidByText := true, laidKinds := [.data, .pinned], laidTests := true, laidLooks := .later }
def FnExactLogicalLinesCardSaid : Prop := Claim7.holds Tryd.pinned (.plain (OpenSpec.ofChange fnExactLogicalLinesSpec)) fnExactLogicalLinesCard

/-- THE TIED CARD OF 'laws.FnExactPrintTokens'. -/
def fnExactPrintTokensCard : Claim7 := { stood := { row := fnExactPrintTokensRow, standIns := [], harness := (true, "719d21c7f761162936125099902c1c3fb2bb178d70784b85094cac45eb93ddda"), looks := false }, kinds := [], alts := [], laidByText := true, laidKinds := [.data, .data, .data, .data], laidTests := true, laidLooks := .later }
def FnExactPrintTokensCardSaid : Prop := Claim7.holds Tryd.pinned (.plain (OpenSpec.ofChange fnExactPrintTokensSpec)) fnExactPrintTokensCard

/-- THE TIED CARD OF 'laws.FnLines'. -/
def fnLinesCard : Claim7 := { stood := { row := fnLinesRow, standIns := [], harness := (true, "719d21c7f761162936125099902c1c3fb2bb178d70784b85094cac45eb93ddda"), looks := false }, kinds := [], alts := [], laidByText := true, laidKinds := [.data, .pinned], laidTests := true, laidLooks := .later }
def FnLinesCardSaid : Prop := Claim7.holds Tryd.pinned (.plain (OpenSpec.ofChange fnLinesSpec)) fnLinesCard

/-- THE TIED CARD OF 'laws.FnTokens'. -/
def fnTokensCard : Claim7 := { stood := { row := fnTokensRow, standIns := [], harness := (true, "719d21c7f761162936125099902c1c3fb2bb178d70784b85094cac45eb93ddda"), looks := false }, kinds := [], alts := [], laidByText := true, laidKinds := [.data, .data, .data, .data], laidTests := true, laidLooks := .later }
def FnTokensCardSaid : Prop := Claim7.holds Tryd.pinned (.plain (OpenSpec.ofChange fnTokensSpec)) fnTokensCard

/-- THE SECOND FORM's CARD OF 'laws.FnExactLogicalLines'. -/
def fnExactLogicalLinesUptoCard : Claim7 := { stood := { row := fnExactLogicalLinesUptoRow, standIns := [], harness := (true, "719d21c7f761162936125099902c1c3fb2bb178d70784b85094cac45eb93ddda"), looks := false }, kinds := [], alts := [], laidByText := true, laidKinds := [.data, .pinned], laidTests := true, laidLooks := .later }
def FnExactLogicalLinesUptoCardSaid : Prop := Claim7.holds Tryd.pinned (.plain (OpenSpec.upto fnExactLogicalLinesSpec)) fnExactLogicalLinesUptoCard

/-- THE SECOND FORM's CARD OF 'laws.FnExactPrintTokens'. -/
def fnExactPrintTokensUptoCard : Claim7 := { stood := { row := fnExactPrintTokensUptoRow, standIns := [], harness := (true, "719d21c7f761162936125099902c1c3fb2bb178d70784b85094cac45eb93ddda"), looks := false }, kinds := [], alts := [], laidByText := true, laidKinds := [.data, .data, .data, .data], laidTests := true, laidLooks := .later }
def FnExactPrintTokensUptoCardSaid : Prop := Claim7.holds Tryd.pinned (.plain (OpenSpec.upto fnExactPrintTokensSpec)) fnExactPrintTokensUptoCard

/-- THE SECOND FORM's CARD OF 'laws.FnLines'. -/
def fnLinesUptoCard : Claim7 := { stood := { row := fnLinesUptoRow, standIns := [], harness := (true, "719d21c7f761162936125099902c1c3fb2bb178d70784b85094cac45eb93ddda"), looks := false }, kinds := [], alts := [], laidByText := true, laidKinds := [.data, .pinned], laidTests := true, laidLooks := .later }
def FnLinesUptoCardSaid : Prop := Claim7.holds Tryd.pinned (.plain (OpenSpec.upto fnLinesSpec)) fnLinesUptoCard

/-- THE SECOND FORM's CARD OF 'laws.FnTokens'. -/
def fnTokensUptoCard : Claim7 := { stood := { row := fnTokensUptoRow, standIns := [], harness := (true, "719d21c7f761162936125099902c1c3fb2bb178d70784b85094cac45eb93ddda"), looks := false }, kinds := [], alts := [], laidByText := true, laidKinds := [.data, .data, .data, .data], laidTests := true, laidLooks := .later }
def FnTokensUptoCardSaid : Prop := Claim7.holds Tryd.pinned (.plain (OpenSpec.upto fnTokensSpec)) fnTokensUptoCard
end Rows
end Go.Proofs.YtfobjedobojbnabDoor
