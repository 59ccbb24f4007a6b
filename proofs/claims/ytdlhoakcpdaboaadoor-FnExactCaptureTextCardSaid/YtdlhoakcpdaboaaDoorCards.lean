/-
  DERIVED. GIVEN WITH THE SEED: THE CARDS: each row of YtdlhoakcpdaboaaDoorRows.lean that lists a variable, with what it lists TIED to the program's text (the seventh form; the later family's looks); each row that meets fmt, with fmt's text TOLD by the authors' own Lean function (tested against real Go, not proved from fmt's source: count such statements apart). THE CARD IS WHAT COUNTS. Prove the row's statement (the work); the ties are given (YtdlhoakcpdaboaaDoorTie.lean); close each card by the builder's one call (the guide's Derived/Test/ToyasCard.lean, 'card_holds'). Laid BY PROGRAM, IN A SANDBOX (cutbox-door.mjs). By AI agents, Wed Nov 11 2026. No macro, syntax, notation, axiom, sorry.
-/
import Derived.Test.YtdlhoakcpdaboaaDoorRows
import GoSem.ClaimSeven
namespace Go.Proofs.YtdlhoakcpdaboaaDoor
namespace Rows

/-- THE TIED CARD OF 'laws.FnExactCaptureText'. -/
def fnExactCaptureTextCard : Claim7 := { stood := { row := fnExactCaptureTextRow, standIns := [], harness := (true, "8ae66f2ed0496988389e30c322ac25db6fcb9b7137551c3e7e934d871772edc0"), looks := false }, kinds := [], alts := [], laidByText := true, laidKinds := [.data, .data, .data, .data, .pinned], laidTests := true, laidLooks := .later }
def FnExactCaptureTextCardSaid : Prop := Claim7.holds Tryd.pinned (.plain (OpenSpec.ofChange fnExactCaptureTextSpec)) fnExactCaptureTextCard

/-- THE SECOND FORM's CARD OF 'laws.FnExactCaptureText'. -/
def fnExactCaptureTextUptoCard : Claim7 := { stood := { row := fnExactCaptureTextUptoRow, standIns := [], harness := (true, "8ae66f2ed0496988389e30c322ac25db6fcb9b7137551c3e7e934d871772edc0"), looks := false }, kinds := [], alts := [], laidByText := true, laidKinds := [.data, .data, .data, .data, .pinned], laidTests := true, laidLooks := .later }
def FnExactCaptureTextUptoCardSaid : Prop := Claim7.holds Tryd.pinned (.plain (OpenSpec.upto fnExactCaptureTextSpec)) fnExactCaptureTextUptoCard
end Rows
end Go.Proofs.YtdlhoakcpdaboaaDoor
