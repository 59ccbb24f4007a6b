/-
  DERIVED. GIVEN WITH THE SEED: THE CARDS: each row of YtfobjedobojbnaaDoorRows.lean that lists a variable, with what it lists TIED to the program's text (the seventh form; the later family's looks); each row that meets fmt, with fmt's text TOLD by the authors' own Lean function (tested against real Go, not proved from fmt's source: count such statements apart). THE CARD IS WHAT COUNTS. Prove the row's statement (the work); the ties are given (YtfobjedobojbnaaDoorTie.lean); close each card by the builder's one call (the guide's Derived/Test/ToyasCard.lean, 'card_holds'). Laid BY PROGRAM, IN A SANDBOX (cutbox-door.mjs). By AI agents, Wed Nov 11 2026. No macro, syntax, notation, axiom, sorry.
-/
import Derived.Test.YtfobjedobojbnaaDoorRows
import GoSem.ClaimSeven
namespace Go.Proofs.YtfobjedobojbnaaDoor
namespace Rows

/-- THE TIED CARD OF 'laws.FnExactValidValue'. -/
def fnExactValidValueCard : Claim7 := { stood := { row := fnExactValidValueRow, standIns := [], harness := (true, "9f8142561afaa4031e7852cee0a12f6b902fac45acd223ace6d3feda3630bfc8"), looks := true }, kinds := [], alts := [], laidByText := true, laidKinds := [.data], laidTests := true, laidLooks := .later }
def FnExactValidValueCardSaid : Prop := Claim7.holds Tryd.pinned (.plain (OpenSpec.ofChange fnExactValidValueSpec)) fnExactValidValueCard

/-- THE TIED CARD OF 'laws.FnExactStringValue'. -/
def fnExactStringValueCard : Claim7 := { stood := { row := fnExactStringValueRow, standIns := [], harness := (true, "9f8142561afaa4031e7852cee0a12f6b902fac45acd223ace6d3feda3630bfc8"), looks := true }, kinds := [], alts := [], laidByText := true, laidKinds := [.data], laidTests := true, laidLooks := .later }
def FnExactStringValueCardSaid : Prop := Claim7.holds Tryd.pinned (.plain (OpenSpec.ofChange fnExactStringValueSpec)) fnExactStringValueCard

/-- THE TIED CARD OF 'laws.FnExactIntegerValue'. -/
def fnExactIntegerValueCard : Claim7 := { stood := { row := fnExactIntegerValueRow, standIns := [], harness := (true, "9f8142561afaa4031e7852cee0a12f6b902fac45acd223ace6d3feda3630bfc8"), looks := true }, kinds := [], alts := [], laidByText := true, laidKinds := [.data], laidTests := true, laidLooks := .later }
def FnExactIntegerValueCardSaid : Prop := Claim7.holds Tryd.pinned (.plain (OpenSpec.ofChange fnExactIntegerValueSpec)) fnExactIntegerValueCard

/-- THE TIED CARD OF 'laws.FnExactIsReference'. -/
def fnExactIsReferenceCard : Claim7 := { stood := { row := fnExactIsReferenceRow, standIns := [], harness := (true, "9f8142561afaa4031e7852cee0a12f6b902fac45acd223ace6d3feda3630bfc8"), looks := true }, kinds := [], alts := [], laidByText := true, laidKinds := [.data], laidTests := true, laidLooks := .later }
def FnExactIsReferenceCardSaid : Prop := Claim7.holds Tryd.pinned (.plain (OpenSpec.ofChange fnExactIsReferenceSpec)) fnExactIsReferenceCard

/-- THE TIED CARD OF 'laws.FnExactDataType'. -/
def fnExactDataTypeCard : Claim7 := { stood := { row := fnExactDataTypeRow, standIns := [], harness := (true, "9f8142561afaa4031e7852cee0a12f6b902fac45acd223ace6d3feda3630bfc8"), looks := true }, kinds := [], alts := [], laidByText := true, laidKinds := [.data, .data], laidTests := true, laidLooks := .later }
def FnExactDataTypeCardSaid : Prop := Claim7.holds Tryd.pinned (.plain (OpenSpec.ofChange fnExactDataTypeSpec)) fnExactDataTypeCard

/-- THE TIED CARD OF 'laws.FnExactQuoteText'. -/
def fnExactQuoteTextCard : Claim7 := { stood := { row := fnExactQuoteTextRow, standIns := [], harness := (true, "9f8142561afaa4031e7852cee0a12f6b902fac45acd223ace6d3feda3630bfc8"), looks := true }, kinds := [], alts := [], laidByText := true, laidKinds := [.data, .pinned], laidTests := true, laidLooks := .later }
def FnExactQuoteTextCardSaid : Prop := Claim7.holds Tryd.pinned (.plain (OpenSpec.ofChange fnExactQuoteTextSpec)) fnExactQuoteTextCard

/-- THE TIED CARD OF 'laws.FnExactValueText'. -/
def fnExactValueTextCard : Claim7 := { stood := { row := fnExactValueTextRow, standIns := [], harness := (true, "9f8142561afaa4031e7852cee0a12f6b902fac45acd223ace6d3feda3630bfc8"), looks := true }, kinds := [], alts := [], laidByText := true, laidKinds := [.data, .data, .data, .data, .data, .data, .pinned], laidTests := true, laidLooks := .later }
def FnExactValueTextCardSaid : Prop := Claim7.holds Tryd.pinned (.plain (OpenSpec.ofChange fnExactValueTextSpec)) fnExactValueTextCard

/-- THE TIED CARD OF 'laws.FnExactReadValue'. -/
def fnExactReadValueCard : Claim7 := { stood := { row := fnExactReadValueRow, standIns := [], harness := (true, "9f8142561afaa4031e7852cee0a12f6b902fac45acd223ace6d3feda3630bfc8"), looks := true }, kinds := [], alts := [], laidByText := true, laidKinds := [.data, .data, .data, .data, .sentinel, .sentinel, .data, .data, .pinned], laidTests := true, laidLooks := .later }
def FnExactReadValueCardSaid : Prop := Claim7.holds Tryd.pinned (.plain (OpenSpec.ofChange fnExactReadValueSpec)) fnExactReadValueCard

/-- THE SECOND FORM's CARD OF 'laws.FnExactValidValue'. -/
def fnExactValidValueUptoCard : Claim7 := { stood := { row := fnExactValidValueUptoRow, standIns := [], harness := (true, "9f8142561afaa4031e7852cee0a12f6b902fac45acd223ace6d3feda3630bfc8"), looks := true }, kinds := [], alts := [], laidByText := true, laidKinds := [.data], laidTests := true, laidLooks := .later }
def FnExactValidValueUptoCardSaid : Prop := Claim7.holds Tryd.pinned (.plain (OpenSpec.upto fnExactValidValueSpec)) fnExactValidValueUptoCard

/-- THE SECOND FORM's CARD OF 'laws.FnExactStringValue'. -/
def fnExactStringValueUptoCard : Claim7 := { stood := { row := fnExactStringValueUptoRow, standIns := [], harness := (true, "9f8142561afaa4031e7852cee0a12f6b902fac45acd223ace6d3feda3630bfc8"), looks := true }, kinds := [], alts := [], laidByText := true, laidKinds := [.data], laidTests := true, laidLooks := .later }
def FnExactStringValueUptoCardSaid : Prop := Claim7.holds Tryd.pinned (.plain (OpenSpec.upto fnExactStringValueSpec)) fnExactStringValueUptoCard

/-- THE SECOND FORM's CARD OF 'laws.FnExactIntegerValue'. -/
def fnExactIntegerValueUptoCard : Claim7 := { stood := { row := fnExactIntegerValueUptoRow, standIns := [], harness := (true, "9f8142561afaa4031e7852cee0a12f6b902fac45acd223ace6d3feda3630bfc8"), looks := true }, kinds := [], alts := [], laidByText := true, laidKinds := [.data], laidTests := true, laidLooks := .later }
def FnExactIntegerValueUptoCardSaid : Prop := Claim7.holds Tryd.pinned (.plain (OpenSpec.upto fnExactIntegerValueSpec)) fnExactIntegerValueUptoCard

/-- THE SECOND FORM's CARD OF 'laws.FnExactIsReference'. -/
def fnExactIsReferenceUptoCard : Claim7 := { stood := { row := fnExactIsReferenceUptoRow, standIns := [], harness := (true, "9f8142561afaa4031e7852cee0a12f6b902fac45acd223ace6d3feda3630bfc8"), looks := true }, kinds := [], alts := [], laidByText := true, laidKinds := [.data], laidTests := true, laidLooks := .later }
def FnExactIsReferenceUptoCardSaid : Prop := Claim7.holds Tryd.pinned (.plain (OpenSpec.upto fnExactIsReferenceSpec)) fnExactIsReferenceUptoCard

/-- THE SECOND FORM's CARD OF 'laws.FnExactDataType'. -/
def fnExactDataTypeUptoCard : Claim7 := { stood := { row := fnExactDataTypeUptoRow, standIns := [], harness := (true, "9f8142561afaa4031e7852cee0a12f6b902fac45acd223ace6d3feda3630bfc8"), looks := true }, kinds := [], alts := [], laidByText := true, laidKinds := [.data, .data], laidTests := true, laidLooks := .later }
def FnExactDataTypeUptoCardSaid : Prop := Claim7.holds Tryd.pinned (.plain (OpenSpec.upto fnExactDataTypeSpec)) fnExactDataTypeUptoCard

/-- THE SECOND FORM's CARD OF 'laws.FnExactQuoteText'. -/
def fnExactQuoteTextUptoCard : Claim7 := { stood := { row := fnExactQuoteTextUptoRow, standIns := [], harness := (true, "9f8142561afaa4031e7852cee0a12f6b902fac45acd223ace6d3feda3630bfc8"), looks := true }, kinds := [], alts := [], laidByText := true, laidKinds := [.data, .pinned], laidTests := true, laidLooks := .later }
def FnExactQuoteTextUptoCardSaid : Prop := Claim7.holds Tryd.pinned (.plain (OpenSpec.upto fnExactQuoteTextSpec)) fnExactQuoteTextUptoCard

/-- THE SECOND FORM's CARD OF 'laws.FnExactValueText'. -/
def fnExactValueTextUptoCard : Claim7 := { stood := { row := fnExactValueTextUptoRow, standIns := [], harness := (true, "9f8142561afaa4031e7852cee0a12f6b902fac45acd223ace6d3feda3630bfc8"), looks := true }, kinds := [], alts := [], laidByText := true, laidKinds := [.data, .data, .data, .data, .data, .data, .pinned], laidTests := true, laidLooks := .later }
def FnExactValueTextUptoCardSaid : Prop := Claim7.holds Tryd.pinned (.plain (OpenSpec.upto fnExactValueTextSpec)) fnExactValueTextUptoCard

/-- THE SECOND FORM's CARD OF 'laws.FnExactReadValue'. -/
def fnExactReadValueUptoCard : Claim7 := { stood := { row := fnExactReadValueUptoRow, standIns := [], harness := (true, "9f8142561afaa4031e7852cee0a12f6b902fac45acd223ace6d3feda3630bfc8"), looks := true }, kinds := [], alts := [], laidByText := true, laidKinds := [.data, .data, .data, .data, .sentinel, .sentinel, .data, .data, .pinned], laidTests := true, laidLooks := .later }
def FnExactReadValueUptoCardSaid : Prop := Claim7.holds Tryd.pinned (.plain (OpenSpec.upto fnExactReadValueSpec)) fnExactReadValueUptoCard
end Rows
end Go.Proofs.YtfobjedobojbnaaDoor
