/-
  DERIVED. GIVEN WITH THE SEED: THE CARDS: each row of YtjhemdgeafglhaaDoorRows.lean that lists a variable, with what it lists TIED to the program's text (the seventh form; the later family's looks); each row that meets fmt, with fmt's text TOLD by the authors' own Lean function (tested against real Go, not proved from fmt's source: count such statements apart). THE CARD IS WHAT COUNTS. Prove the row's statement (the work); the ties are given (YtjhemdgeafglhaaDoorTie.lean); close each card by the builder's one call (the guide's Derived/Test/ToyasCard.lean, 'card_holds'). Laid BY PROGRAM, IN A SANDBOX (cutbox-door.mjs). By AI agents, Wed Nov 11 2026. No macro, syntax, notation, axiom, sorry.
-/
import Derived.Test.YtjhemdgeafglhaaDoorRows
import GoSem.ClaimSeven
namespace Go.Proofs.YtjhemdgeafglhaaDoor
namespace Rows

/-- THE TIED CARD OF 'laws.FnExactNameOfValue'. -/
def fnExactNameOfValueCard : Claim7 := { stood := { row := fnExactNameOfValueRow, standIns := [], harness := (true, "00bbe388d89c59617a9bd401b60b2cecdcadabc50c489676aa7c9c7bc90dc6fd"), looks := false }, kinds := [], alts := [], laidByText := true, laidKinds := [.data], laidTests := true, laidLooks := .later }
def FnExactNameOfValueCardSaid : Prop := Claim7.holds Tryd.pinned (.plain (OpenSpec.ofChange fnExactNameOfValueSpec)) fnExactNameOfValueCard

/-- THE TIED CARD OF 'laws.FnExactTraceText'. -/
def fnExactTraceTextCard : Claim7 := { stood := { row := fnExactTraceTextRow, standIns := [], harness := (true, "00bbe388d89c59617a9bd401b60b2cecdcadabc50c489676aa7c9c7bc90dc6fd"), looks := false }, kinds := [], alts := [], laidByText := true, laidKinds := [.data, .data, .data, .data, .data, .data, .data, .pinned], laidTests := true, laidLooks := .later }
def FnExactTraceTextCardSaid : Prop := Claim7.holds Tryd.pinned (.plain (OpenSpec.ofChange fnExactTraceTextSpec)) fnExactTraceTextCard

/-- THE TIED CARD OF 'laws.FnExactValidConsole'. -/
def fnExactValidConsoleCard : Claim7 := { stood := { row := fnExactValidConsoleRow, standIns := [], harness := (true, "00bbe388d89c59617a9bd401b60b2cecdcadabc50c489676aa7c9c7bc90dc6fd"), looks := false }, kinds := [], alts := [], laidByText := true, laidKinds := [.data], laidTests := true, laidLooks := .later }
def FnExactValidConsoleCardSaid : Prop := Claim7.holds Tryd.pinned (.plain (OpenSpec.ofChange fnExactValidConsoleSpec)) fnExactValidConsoleCard

/-- THE TIED CARD OF 'laws.FnExactReadLine'. -/
def fnExactReadLineCard : Claim7 := { stood := { row := fnExactReadLineRow, standIns := [], harness := (true, "00bbe388d89c59617a9bd401b60b2cecdcadabc50c489676aa7c9c7bc90dc6fd"), looks := false }, kinds := [], alts := [], laidByText := true, laidKinds := [.data], laidTests := true, laidLooks := .later }
def FnExactReadLineCardSaid : Prop := Claim7.holds Tryd.pinned (.plain (OpenSpec.ofChange fnExactReadLineSpec)) fnExactReadLineCard

/-- THE TIED CARD OF 'laws.FnExactWriteLine'. -/
def fnExactWriteLineCard : Claim7 := { stood := { row := fnExactWriteLineRow, standIns := [], harness := (true, "00bbe388d89c59617a9bd401b60b2cecdcadabc50c489676aa7c9c7bc90dc6fd"), looks := false }, kinds := [], alts := [], laidByText := true, laidKinds := [.data], laidTests := true, laidLooks := .later }
def FnExactWriteLineCardSaid : Prop := Claim7.holds Tryd.pinned (.plain (OpenSpec.ofChange fnExactWriteLineSpec)) fnExactWriteLineCard

/-- THE SECOND FORM's CARD OF 'laws.FnExactNameOfValue'. -/
def fnExactNameOfValueUptoCard : Claim7 := { stood := { row := fnExactNameOfValueUptoRow, standIns := [], harness := (true, "00bbe388d89c59617a9bd401b60b2cecdcadabc50c489676aa7c9c7bc90dc6fd"), looks := false }, kinds := [], alts := [], laidByText := true, laidKinds := [.data], laidTests := true, laidLooks := .later }
def FnExactNameOfValueUptoCardSaid : Prop := Claim7.holds Tryd.pinned (.plain (OpenSpec.upto fnExactNameOfValueSpec)) fnExactNameOfValueUptoCard

/-- THE SECOND FORM's CARD OF 'laws.FnExactTraceText'. -/
def fnExactTraceTextUptoCard : Claim7 := { stood := { row := fnExactTraceTextUptoRow, standIns := [], harness := (true, "00bbe388d89c59617a9bd401b60b2cecdcadabc50c489676aa7c9c7bc90dc6fd"), looks := false }, kinds := [], alts := [], laidByText := true, laidKinds := [.data, .data, .data, .data, .data, .data, .data, .pinned], laidTests := true, laidLooks := .later }
def FnExactTraceTextUptoCardSaid : Prop := Claim7.holds Tryd.pinned (.plain (OpenSpec.upto fnExactTraceTextSpec)) fnExactTraceTextUptoCard

/-- THE SECOND FORM's CARD OF 'laws.FnExactValidConsole'. -/
def fnExactValidConsoleUptoCard : Claim7 := { stood := { row := fnExactValidConsoleUptoRow, standIns := [], harness := (true, "00bbe388d89c59617a9bd401b60b2cecdcadabc50c489676aa7c9c7bc90dc6fd"), looks := false }, kinds := [], alts := [], laidByText := true, laidKinds := [.data], laidTests := true, laidLooks := .later }
def FnExactValidConsoleUptoCardSaid : Prop := Claim7.holds Tryd.pinned (.plain (OpenSpec.upto fnExactValidConsoleSpec)) fnExactValidConsoleUptoCard

/-- THE SECOND FORM's CARD OF 'laws.FnExactReadLine'. -/
def fnExactReadLineUptoCard : Claim7 := { stood := { row := fnExactReadLineUptoRow, standIns := [], harness := (true, "00bbe388d89c59617a9bd401b60b2cecdcadabc50c489676aa7c9c7bc90dc6fd"), looks := false }, kinds := [], alts := [], laidByText := true, laidKinds := [.data], laidTests := true, laidLooks := .later }
def FnExactReadLineUptoCardSaid : Prop := Claim7.holds Tryd.pinned (.plain (OpenSpec.upto fnExactReadLineSpec)) fnExactReadLineUptoCard

/-- THE SECOND FORM's CARD OF 'laws.FnExactWriteLine'. -/
def fnExactWriteLineUptoCard : Claim7 := { stood := { row := fnExactWriteLineUptoRow, standIns := [], harness := (true, "00bbe388d89c59617a9bd401b60b2cecdcadabc50c489676aa7c9c7bc90dc6fd"), looks := false }, kinds := [], alts := [], laidByText := true, laidKinds := [.data], laidTests := true, laidLooks := .later }
def FnExactWriteLineUptoCardSaid : Prop := Claim7.holds Tryd.pinned (.plain (OpenSpec.upto fnExactWriteLineSpec)) fnExactWriteLineUptoCard
end Rows
end Go.Proofs.YtjhemdgeafglhaaDoor
