/-
  DERIVED. GIVEN WITH THE SEED: THE CARDS: each row of YtjeiiljdhnmofaaDoorRows.lean that lists a variable, with what it lists TIED to the program's text (the seventh form; the later family's looks); each row that meets fmt, with fmt's text TOLD by the authors' own Lean function (tested against real Go, not proved from fmt's source: count such statements apart). THE CARD IS WHAT COUNTS. Prove the row's statement (the work); the ties are given (YtjeiiljdhnmofaaDoorTie.lean); close each card by the builder's one call (the guide's Derived/Test/ToyasCard.lean, 'card_holds'). Laid BY PROGRAM, IN A SANDBOX (cutbox-door.mjs). By AI agents, Wed Nov 11 2026. No macro, syntax, notation, axiom, sorry.
-/
import Derived.Test.YtjeiiljdhnmofaaDoorRows
import GoSem.ClaimSeven
namespace Go.Proofs.YtjeiiljdhnmofaaDoor
namespace Rows

/-- THE TIED CARD OF 'laws.FnExactValidPattern'. -/
def fnExactValidPatternCard : Claim7 := { stood := { row := fnExactValidPatternRow, standIns := [], harness := (true, "216c4118b71e6467e311f8a3811e158d599048f6ae7cb9550f3e3dc8c12c5b57"), looks := false }, kinds := [], alts := [], laidByText := true, laidKinds := [.data, .data], laidTests := true, laidLooks := .later }
def FnExactValidPatternCardSaid : Prop := Claim7.holds Tryd.pinned (.plain (OpenSpec.ofChange fnExactValidPatternSpec)) fnExactValidPatternCard

/-- THE TIED CARD OF 'laws.FnExactValidIns'. -/
def fnExactValidInsCard : Claim7 := { stood := { row := fnExactValidInsRow, standIns := [], harness := (true, "216c4118b71e6467e311f8a3811e158d599048f6ae7cb9550f3e3dc8c12c5b57"), looks := false }, kinds := [], alts := [], laidByText := true, laidKinds := [.data, .data, .data], laidTests := true, laidLooks := .later }
def FnExactValidInsCardSaid : Prop := Claim7.holds Tryd.pinned (.plain (OpenSpec.ofChange fnExactValidInsSpec)) fnExactValidInsCard

/-- THE TIED CARD OF 'laws.FnExactValidEnv'. -/
def fnExactValidEnvCard : Claim7 := { stood := { row := fnExactValidEnvRow, standIns := [], harness := (true, "216c4118b71e6467e311f8a3811e158d599048f6ae7cb9550f3e3dc8c12c5b57"), looks := false }, kinds := [], alts := [], laidByText := true, laidKinds := [.data, .data], laidTests := true, laidLooks := .later }
def FnExactValidEnvCardSaid : Prop := Claim7.holds Tryd.pinned (.plain (OpenSpec.ofChange fnExactValidEnvSpec)) fnExactValidEnvCard

/-- THE TIED CARD OF 'laws.FnExactLookupNamed'. -/
def fnExactLookupNamedCard : Claim7 := { stood := { row := fnExactLookupNamedRow, standIns := [], harness := (true, "216c4118b71e6467e311f8a3811e158d599048f6ae7cb9550f3e3dc8c12c5b57"), looks := false }, kinds := [], alts := [], laidByText := true, laidKinds := [.data, .data], laidTests := true, laidLooks := .later }
def FnExactLookupNamedCardSaid : Prop := Claim7.holds Tryd.pinned (.plain (OpenSpec.ofChange fnExactLookupNamedSpec)) fnExactLookupNamedCard

/-- THE TIED CARD OF 'laws.FnExactCatOf'. -/
def fnExactCatOfCard : Claim7 := { stood := { row := fnExactCatOfRow, standIns := [], harness := (true, "216c4118b71e6467e311f8a3811e158d599048f6ae7cb9550f3e3dc8c12c5b57"), looks := false }, kinds := [], alts := [], laidByText := true, laidKinds := [.data, .data], laidTests := true, laidLooks := .later }
def FnExactCatOfCardSaid : Prop := Claim7.holds Tryd.pinned (.plain (OpenSpec.ofChange fnExactCatOfSpec)) fnExactCatOfCard

/-- THE TIED CARD OF 'laws.FnExactAltOf'. -/
def fnExactAltOfCard : Claim7 := { stood := { row := fnExactAltOfRow, standIns := [], harness := (true, "216c4118b71e6467e311f8a3811e158d599048f6ae7cb9550f3e3dc8c12c5b57"), looks := false }, kinds := [], alts := [], laidByText := true, laidKinds := [.data, .data], laidTests := true, laidLooks := .later }
def FnExactAltOfCardSaid : Prop := Claim7.holds Tryd.pinned (.plain (OpenSpec.ofChange fnExactAltOfSpec)) fnExactAltOfCard

/-- THE TIED CARD OF 'laws.FnExactDeferredNames'. -/
def fnExactDeferredNamesCard : Claim7 := { stood := { row := fnExactDeferredNamesRow, standIns := [], harness := (true, "216c4118b71e6467e311f8a3811e158d599048f6ae7cb9550f3e3dc8c12c5b57"), looks := false }, kinds := [], alts := [], laidByText := true, laidKinds := [.data, .data], laidTests := true, laidLooks := .later }
def FnExactDeferredNamesCardSaid : Prop := Claim7.holds Tryd.pinned (.plain (OpenSpec.ofChange fnExactDeferredNamesSpec)) fnExactDeferredNamesCard

/-- THE SECOND FORM's CARD OF 'laws.FnExactValidPattern'. -/
def fnExactValidPatternUptoCard : Claim7 := { stood := { row := fnExactValidPatternUptoRow, standIns := [], harness := (true, "216c4118b71e6467e311f8a3811e158d599048f6ae7cb9550f3e3dc8c12c5b57"), looks := false }, kinds := [], alts := [], laidByText := true, laidKinds := [.data, .data], laidTests := true, laidLooks := .later }
def FnExactValidPatternUptoCardSaid : Prop := Claim7.holds Tryd.pinned (.plain (OpenSpec.upto fnExactValidPatternSpec)) fnExactValidPatternUptoCard

/-- THE SECOND FORM's CARD OF 'laws.FnExactValidIns'. -/
def fnExactValidInsUptoCard : Claim7 := { stood := { row := fnExactValidInsUptoRow, standIns := [], harness := (true, "216c4118b71e6467e311f8a3811e158d599048f6ae7cb9550f3e3dc8c12c5b57"), looks := false }, kinds := [], alts := [], laidByText := true, laidKinds := [.data, .data, .data], laidTests := true, laidLooks := .later }
def FnExactValidInsUptoCardSaid : Prop := Claim7.holds Tryd.pinned (.plain (OpenSpec.upto fnExactValidInsSpec)) fnExactValidInsUptoCard

/-- THE SECOND FORM's CARD OF 'laws.FnExactValidEnv'. -/
def fnExactValidEnvUptoCard : Claim7 := { stood := { row := fnExactValidEnvUptoRow, standIns := [], harness := (true, "216c4118b71e6467e311f8a3811e158d599048f6ae7cb9550f3e3dc8c12c5b57"), looks := false }, kinds := [], alts := [], laidByText := true, laidKinds := [.data, .data], laidTests := true, laidLooks := .later }
def FnExactValidEnvUptoCardSaid : Prop := Claim7.holds Tryd.pinned (.plain (OpenSpec.upto fnExactValidEnvSpec)) fnExactValidEnvUptoCard

/-- THE SECOND FORM's CARD OF 'laws.FnExactLookupNamed'. -/
def fnExactLookupNamedUptoCard : Claim7 := { stood := { row := fnExactLookupNamedUptoRow, standIns := [], harness := (true, "216c4118b71e6467e311f8a3811e158d599048f6ae7cb9550f3e3dc8c12c5b57"), looks := false }, kinds := [], alts := [], laidByText := true, laidKinds := [.data, .data], laidTests := true, laidLooks := .later }
def FnExactLookupNamedUptoCardSaid : Prop := Claim7.holds Tryd.pinned (.plain (OpenSpec.upto fnExactLookupNamedSpec)) fnExactLookupNamedUptoCard

/-- THE SECOND FORM's CARD OF 'laws.FnExactCatOf'. -/
def fnExactCatOfUptoCard : Claim7 := { stood := { row := fnExactCatOfUptoRow, standIns := [], harness := (true, "216c4118b71e6467e311f8a3811e158d599048f6ae7cb9550f3e3dc8c12c5b57"), looks := false }, kinds := [], alts := [], laidByText := true, laidKinds := [.data, .data], laidTests := true, laidLooks := .later }
def FnExactCatOfUptoCardSaid : Prop := Claim7.holds Tryd.pinned (.plain (OpenSpec.upto fnExactCatOfSpec)) fnExactCatOfUptoCard

/-- THE SECOND FORM's CARD OF 'laws.FnExactAltOf'. -/
def fnExactAltOfUptoCard : Claim7 := { stood := { row := fnExactAltOfUptoRow, standIns := [], harness := (true, "216c4118b71e6467e311f8a3811e158d599048f6ae7cb9550f3e3dc8c12c5b57"), looks := false }, kinds := [], alts := [], laidByText := true, laidKinds := [.data, .data], laidTests := true, laidLooks := .later }
def FnExactAltOfUptoCardSaid : Prop := Claim7.holds Tryd.pinned (.plain (OpenSpec.upto fnExactAltOfSpec)) fnExactAltOfUptoCard

/-- THE SECOND FORM's CARD OF 'laws.FnExactDeferredNames'. -/
def fnExactDeferredNamesUptoCard : Claim7 := { stood := { row := fnExactDeferredNamesUptoRow, standIns := [], harness := (true, "216c4118b71e6467e311f8a3811e158d599048f6ae7cb9550f3e3dc8c12c5b57"), looks := false }, kinds := [], alts := [], laidByText := true, laidKinds := [.data, .data], laidTests := true, laidLooks := .later }
def FnExactDeferredNamesUptoCardSaid : Prop := Claim7.holds Tryd.pinned (.plain (OpenSpec.upto fnExactDeferredNamesSpec)) fnExactDeferredNamesUptoCard
end Rows
end Go.Proofs.YtjeiiljdhnmofaaDoor
