/-
  DERIVED. GIVEN WITH THE SEED: THE CARDS: each row of YtnckcfgaolekoaaDoorRows.lean that lists a variable, with what it lists TIED to the program's text (the seventh form; the later family's looks); each row that meets fmt, with fmt's text TOLD by the authors' own Lean function (tested against real Go, not proved from fmt's source: count such statements apart). THE CARD IS WHAT COUNTS. Prove the row's statement (the work); the ties are given (YtnckcfgaolekoaaDoorTie.lean); close each card by the builder's one call (the guide's Derived/Test/ToyasCard.lean, 'card_holds'). Laid BY PROGRAM, IN A SANDBOX (cutbox-door.mjs). By AI agents, Wed Nov 11 2026. No macro, syntax, notation, axiom, sorry.
-/
import Derived.Test.YtnckcfgaolekoaaDoorRows
import GoSem.ClaimSeven
namespace Go.Proofs.YtnckcfgaolekoaaDoor
namespace Rows

/-- THE TIED CARD OF 'laws.FnExactNegated'. -/
def fnExactNegatedCard : Claim7 := { stood := { row := fnExactNegatedRow, standIns := [], harness := (true, "6e4d9833e59345c68a7ec8910e374227ad9c2c04a79ef6f1e8cd91527686ebca"), looks := true }, kinds := [], alts := [], laidByText := true, laidKinds := [.data, .data, .data, .sentinel, .sentinel, .data], laidTests := true, laidLooks := .later }
def FnExactNegatedCardSaid : Prop := Claim7.holds Tryd.pinned (.plain (OpenSpec.ofChange fnExactNegatedSpec)) fnExactNegatedCard

/-- THE SECOND FORM's CARD OF 'laws.FnExactNegated'. -/
def fnExactNegatedUptoCard : Claim7 := { stood := { row := fnExactNegatedUptoRow, standIns := [], harness := (true, "6e4d9833e59345c68a7ec8910e374227ad9c2c04a79ef6f1e8cd91527686ebca"), looks := true }, kinds := [], alts := [], laidByText := true, laidKinds := [.data, .data, .data, .sentinel, .sentinel, .data], laidTests := true, laidLooks := .later }
def FnExactNegatedUptoCardSaid : Prop := Claim7.holds Tryd.pinned (.plain (OpenSpec.upto fnExactNegatedSpec)) fnExactNegatedUptoCard
end Rows
end Go.Proofs.YtnckcfgaolekoaaDoor
