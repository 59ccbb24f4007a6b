/-
  DERIVED. GIVEN WITH THE SEED: THE CARDS: each row of YtflhjcdabbomiaaDoorRows.lean that lists a variable, with what it lists TIED to the program's text (the seventh form; the later family's looks); each row that meets fmt, with fmt's text TOLD by the authors' own Lean function (tested against real Go, not proved from fmt's source: count such statements apart). THE CARD IS WHAT COUNTS. Prove the row's statement (the work); the ties are given (YtflhjcdabbomiaaDoorTie.lean); close each card by the builder's one call (the guide's Derived/Test/ToyasCard.lean, 'card_holds'). Laid BY PROGRAM, IN A SANDBOX (cutbox-door.mjs). By AI agents, Wed Nov 11 2026. No macro, syntax, notation, axiom, sorry.
-/
import Derived.Test.YtflhjcdabbomiaaDoorRows
import GoSem.ClaimSeven
namespace Go.Proofs.YtflhjcdabbomiaaDoor
namespace Rows

/-- THE TIED CARD OF 'laws.FnExactLookup'. -/
def fnExactLookupCard : Claim7 := { stood := { row := fnExactLookupRow, standIns := [], harness := (true, "a7703557b116c5e613bd6796baf3e027adfae0dd7b7ac7ad091cf4b53915ef7a"), looks := false }, kinds := [], alts := [], laidByText := true, laidKinds := [.data], laidTests := true, laidLooks := .later }
def FnExactLookupCardSaid : Prop := Claim7.holds Tryd.pinned (.plain (OpenSpec.ofChange fnExactLookupSpec)) fnExactLookupCard

/-- THE TIED CARD OF 'laws.FnExactSaveNames'. -/
def fnExactSaveNamesCard : Claim7 := { stood := { row := fnExactSaveNamesRow, standIns := [], harness := (true, "a7703557b116c5e613bd6796baf3e027adfae0dd7b7ac7ad091cf4b53915ef7a"), looks := false }, kinds := [], alts := [], laidByText := true, laidKinds := [.data], laidTests := true, laidLooks := .later }
def FnExactSaveNamesCardSaid : Prop := Claim7.holds Tryd.pinned (.plain (OpenSpec.ofChange fnExactSaveNamesSpec)) fnExactSaveNamesCard

/-- THE SECOND FORM's CARD OF 'laws.FnExactLookup'. -/
def fnExactLookupUptoCard : Claim7 := { stood := { row := fnExactLookupUptoRow, standIns := [], harness := (true, "a7703557b116c5e613bd6796baf3e027adfae0dd7b7ac7ad091cf4b53915ef7a"), looks := false }, kinds := [], alts := [], laidByText := true, laidKinds := [.data], laidTests := true, laidLooks := .later }
def FnExactLookupUptoCardSaid : Prop := Claim7.holds Tryd.pinned (.plain (OpenSpec.upto fnExactLookupSpec)) fnExactLookupUptoCard

/-- THE SECOND FORM's CARD OF 'laws.FnExactSaveNames'. -/
def fnExactSaveNamesUptoCard : Claim7 := { stood := { row := fnExactSaveNamesUptoRow, standIns := [], harness := (true, "a7703557b116c5e613bd6796baf3e027adfae0dd7b7ac7ad091cf4b53915ef7a"), looks := false }, kinds := [], alts := [], laidByText := true, laidKinds := [.data], laidTests := true, laidLooks := .later }
def FnExactSaveNamesUptoCardSaid : Prop := Claim7.holds Tryd.pinned (.plain (OpenSpec.upto fnExactSaveNamesSpec)) fnExactSaveNamesUptoCard
end Rows
end Go.Proofs.YtflhjcdabbomiaaDoor
