/-
  DERIVED. GIVEN WITH THE SEED: THE CARDS: each row of YtjmiobmfphkdeaaDoorRows.lean that lists a variable, with what it lists TIED to the program's text (the seventh form; the later family's looks); each row that meets fmt, with fmt's text TOLD by the authors' own Lean function (tested against real Go, not proved from fmt's source: count such statements apart). THE CARD IS WHAT COUNTS. Prove the row's statement (the work); the ties are given (YtjmiobmfphkdeaaDoorTie.lean); close each card by the builder's one call (the guide's Derived/Test/ToyasCard.lean, 'card_holds'). Laid BY PROGRAM, IN A SANDBOX (cutbox-door.mjs). By AI agents, Wed Nov 11 2026. No macro, syntax, notation, axiom, sorry.
-/
import Derived.Test.YtjmiobmfphkdeaaDoorRows
import GoSem.ClaimSeven
namespace Go.Proofs.YtjmiobmfphkdeaaDoor
namespace Rows

/-- THE TIED CARD OF 'laws.FnExactValidExpr'. -/
def fnExactValidExprCard : Claim7 := { stood := { row := fnExactValidExprRow, standIns := [], harness := (true, "1f523d618262f980ee42a3e643138cce904c5f908a0cf76bdbee117f67dc3037"), looks := false }, kinds := [], alts := [], laidByText := true, laidKinds := [.data], laidTests := true, laidLooks := .later }
def FnExactValidExprCardSaid : Prop := Claim7.holds Tryd.pinned (.plain (OpenSpec.ofChange fnExactValidExprSpec)) fnExactValidExprCard

/-- THE TIED CARD OF 'laws.FnExactExprNodes'. -/
def fnExactExprNodesCard : Claim7 := { stood := { row := fnExactExprNodesRow, standIns := [], harness := (true, "1f523d618262f980ee42a3e643138cce904c5f908a0cf76bdbee117f67dc3037"), looks := false }, kinds := [], alts := [], laidByText := true, laidKinds := [.data], laidTests := true, laidLooks := .later }
def FnExactExprNodesCardSaid : Prop := Claim7.holds Tryd.pinned (.plain (OpenSpec.ofChange fnExactExprNodesSpec)) fnExactExprNodesCard

/-- THE TIED CARD OF 'laws.FnExactGotoText'. -/
def fnExactGotoTextCard : Claim7 := { stood := { row := fnExactGotoTextRow, standIns := [], harness := (true, "1f523d618262f980ee42a3e643138cce904c5f908a0cf76bdbee117f67dc3037"), looks := false }, kinds := [], alts := [], laidByText := true, laidKinds := [.data], laidTests := true, laidLooks := .later }
def FnExactGotoTextCardSaid : Prop := Claim7.holds Tryd.pinned (.plain (OpenSpec.ofChange fnExactGotoTextSpec)) fnExactGotoTextCard

/-- THE SECOND FORM's CARD OF 'laws.FnExactValidExpr'. -/
def fnExactValidExprUptoCard : Claim7 := { stood := { row := fnExactValidExprUptoRow, standIns := [], harness := (true, "1f523d618262f980ee42a3e643138cce904c5f908a0cf76bdbee117f67dc3037"), looks := false }, kinds := [], alts := [], laidByText := true, laidKinds := [.data], laidTests := true, laidLooks := .later }
def FnExactValidExprUptoCardSaid : Prop := Claim7.holds Tryd.pinned (.plain (OpenSpec.upto fnExactValidExprSpec)) fnExactValidExprUptoCard

/-- THE SECOND FORM's CARD OF 'laws.FnExactExprNodes'. -/
def fnExactExprNodesUptoCard : Claim7 := { stood := { row := fnExactExprNodesUptoRow, standIns := [], harness := (true, "1f523d618262f980ee42a3e643138cce904c5f908a0cf76bdbee117f67dc3037"), looks := false }, kinds := [], alts := [], laidByText := true, laidKinds := [.data], laidTests := true, laidLooks := .later }
def FnExactExprNodesUptoCardSaid : Prop := Claim7.holds Tryd.pinned (.plain (OpenSpec.upto fnExactExprNodesSpec)) fnExactExprNodesUptoCard

/-- THE SECOND FORM's CARD OF 'laws.FnExactGotoText'. -/
def fnExactGotoTextUptoCard : Claim7 := { stood := { row := fnExactGotoTextUptoRow, standIns := [], harness := (true, "1f523d618262f980ee42a3e643138cce904c5f908a0cf76bdbee117f67dc3037"), looks := false }, kinds := [], alts := [], laidByText := true, laidKinds := [.data], laidTests := true, laidLooks := .later }
def FnExactGotoTextUptoCardSaid : Prop := Claim7.holds Tryd.pinned (.plain (OpenSpec.upto fnExactGotoTextSpec)) fnExactGotoTextUptoCard
end Rows
end Go.Proofs.YtjmiobmfphkdeaaDoor
