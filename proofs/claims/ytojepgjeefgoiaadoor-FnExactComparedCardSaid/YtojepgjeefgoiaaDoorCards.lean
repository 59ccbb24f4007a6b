/-
  DERIVED. GIVEN WITH THE SEED: THE CARDS: each row of YtojepgjeefgoiaaDoorRows.lean that lists a variable, with what it lists TIED to the program's text (the seventh form; the later family's looks); each row that meets fmt, with fmt's text TOLD by the authors' own Lean function (tested against real Go, not proved from fmt's source: count such statements apart). THE CARD IS WHAT COUNTS. Prove the row's statement (the work); the ties are given (YtojepgjeefgoiaaDoorTie.lean); close each card by the builder's one call (the guide's Derived/Test/ToyasCard.lean, 'card_holds'). Laid BY PROGRAM, IN A SANDBOX (cutbox-door.mjs). By AI agents, Wed Nov 11 2026. No macro, syntax, notation, axiom, sorry.
-/
import Derived.Test.YtojepgjeefgoiaaDoorRows
import GoSem.ClaimSeven
namespace Go.Proofs.YtojepgjeefgoiaaDoor
namespace Rows

/-- THE TIED CARD OF 'laws.FnExactNegated'. -/
def fnExactNegatedCard : Claim7 := { stood := { row := fnExactNegatedRow, standIns := [], harness := (true, "70d049a656fe26979e9c45a81205c91041515dafa04b84893f2ded292c2f95ce"), looks := true }, kinds := [], alts := [], laidByText := true, laidKinds := [.data, .data, .data, .sentinel, .sentinel, .data], laidTests := true, laidLooks := .later }
def FnExactNegatedCardSaid : Prop := Claim7.holds Tryd.pinned (.plain (OpenSpec.ofChange fnExactNegatedSpec)) fnExactNegatedCard

/-- THE TIED CARD OF 'laws.FnExactArithmetic'. -/
def fnExactArithmeticCard : Claim7 := { stood := { row := fnExactArithmeticRow, standIns := [], harness := (true, "70d049a656fe26979e9c45a81205c91041515dafa04b84893f2ded292c2f95ce"), looks := true }, kinds := [], alts := [], laidByText := true, laidKinds := [.data, .data, .data, .sentinel, .sentinel, .data], laidTests := true, laidLooks := .later }
def FnExactArithmeticCardSaid : Prop := Claim7.holds Tryd.pinned (.plain (OpenSpec.ofChange fnExactArithmeticSpec)) fnExactArithmeticCard

/-- THE TIED CARD OF 'laws.FnExactCompared'. -/
def fnExactComparedCard : Claim7 := { stood := { row := fnExactComparedRow, standIns := [], harness := (true, "70d049a656fe26979e9c45a81205c91041515dafa04b84893f2ded292c2f95ce"), looks := true }, kinds := [], alts := [], laidByText := true, laidKinds := [.data, .data, .data, .sentinel, .sentinel, .data], laidTests := true, laidLooks := .later }
def FnExactComparedCardSaid : Prop := Claim7.holds Tryd.pinned (.plain (OpenSpec.ofChange fnExactComparedSpec)) fnExactComparedCard

/-- THE TIED CARD OF 'laws.FnExactConcatenated'. -/
def fnExactConcatenatedCard : Claim7 := { stood := { row := fnExactConcatenatedRow, standIns := [], harness := (true, "70d049a656fe26979e9c45a81205c91041515dafa04b84893f2ded292c2f95ce"), looks := true }, kinds := [], alts := [], laidByText := true, laidKinds := [.data, .data, .data, .data], laidTests := true, laidLooks := .later }
def FnExactConcatenatedCardSaid : Prop := Claim7.holds Tryd.pinned (.plain (OpenSpec.ofChange fnExactConcatenatedSpec)) fnExactConcatenatedCard

/-- THE TIED CARD OF 'laws.FnConversions'. -/
def fnConversionsCard : Claim7 := { stood := { row := fnConversionsRow, standIns := [], harness := (true, "70d049a656fe26979e9c45a81205c91041515dafa04b84893f2ded292c2f95ce"), looks := true }, kinds := [], alts := [], laidByText := true, laidKinds := [.data, .data, .data, .sentinel, .sentinel, .data], laidTests := true, laidLooks := .later }
def FnConversionsCardSaid : Prop := Claim7.holds Tryd.pinned (.plain (OpenSpec.ofChange fnConversionsSpec)) fnConversionsCard

/-- THE SECOND FORM's CARD OF 'laws.FnExactNegated'. -/
def fnExactNegatedUptoCard : Claim7 := { stood := { row := fnExactNegatedUptoRow, standIns := [], harness := (true, "70d049a656fe26979e9c45a81205c91041515dafa04b84893f2ded292c2f95ce"), looks := true }, kinds := [], alts := [], laidByText := true, laidKinds := [.data, .data, .data, .sentinel, .sentinel, .data], laidTests := true, laidLooks := .later }
def FnExactNegatedUptoCardSaid : Prop := Claim7.holds Tryd.pinned (.plain (OpenSpec.upto fnExactNegatedSpec)) fnExactNegatedUptoCard

/-- THE SECOND FORM's CARD OF 'laws.FnExactArithmetic'. -/
def fnExactArithmeticUptoCard : Claim7 := { stood := { row := fnExactArithmeticUptoRow, standIns := [], harness := (true, "70d049a656fe26979e9c45a81205c91041515dafa04b84893f2ded292c2f95ce"), looks := true }, kinds := [], alts := [], laidByText := true, laidKinds := [.data, .data, .data, .sentinel, .sentinel, .data], laidTests := true, laidLooks := .later }
def FnExactArithmeticUptoCardSaid : Prop := Claim7.holds Tryd.pinned (.plain (OpenSpec.upto fnExactArithmeticSpec)) fnExactArithmeticUptoCard

/-- THE SECOND FORM's CARD OF 'laws.FnExactCompared'. -/
def fnExactComparedUptoCard : Claim7 := { stood := { row := fnExactComparedUptoRow, standIns := [], harness := (true, "70d049a656fe26979e9c45a81205c91041515dafa04b84893f2ded292c2f95ce"), looks := true }, kinds := [], alts := [], laidByText := true, laidKinds := [.data, .data, .data, .sentinel, .sentinel, .data], laidTests := true, laidLooks := .later }
def FnExactComparedUptoCardSaid : Prop := Claim7.holds Tryd.pinned (.plain (OpenSpec.upto fnExactComparedSpec)) fnExactComparedUptoCard

/-- THE SECOND FORM's CARD OF 'laws.FnExactConcatenated'. -/
def fnExactConcatenatedUptoCard : Claim7 := { stood := { row := fnExactConcatenatedUptoRow, standIns := [], harness := (true, "70d049a656fe26979e9c45a81205c91041515dafa04b84893f2ded292c2f95ce"), looks := true }, kinds := [], alts := [], laidByText := true, laidKinds := [.data, .data, .data, .data], laidTests := true, laidLooks := .later }
def FnExactConcatenatedUptoCardSaid : Prop := Claim7.holds Tryd.pinned (.plain (OpenSpec.upto fnExactConcatenatedSpec)) fnExactConcatenatedUptoCard

/-- THE SECOND FORM's CARD OF 'laws.FnConversions'. -/
def fnConversionsUptoCard : Claim7 := { stood := { row := fnConversionsUptoRow, standIns := [], harness := (true, "70d049a656fe26979e9c45a81205c91041515dafa04b84893f2ded292c2f95ce"), looks := true }, kinds := [], alts := [], laidByText := true, laidKinds := [.data, .data, .data, .sentinel, .sentinel, .data], laidTests := true, laidLooks := .later }
def FnConversionsUptoCardSaid : Prop := Claim7.holds Tryd.pinned (.plain (OpenSpec.upto fnConversionsSpec)) fnConversionsUptoCard
end Rows
end Go.Proofs.YtojepgjeefgoiaaDoor
