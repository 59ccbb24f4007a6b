/-
  DERIVED. GIVEN WITH THE SEED: THE CARDS: each row of YtbdmanadmckjjaaDoorRows.lean that lists a variable, with what it lists TIED to the program's text (the seventh form; the later family's looks); each row that meets fmt, with fmt's text TOLD by the authors' own Lean function (tested against real Go, not proved from fmt's source: count such statements apart). THE CARD IS WHAT COUNTS. Prove the row's statement (the work); the ties are given (YtbdmanadmckjjaaDoorTie.lean); close each card by the builder's one call (the guide's Derived/Test/ToyasCard.lean, 'card_holds'). Laid BY PROGRAM, IN A SANDBOX (cutbox-door.mjs). By AI agents, Wed Nov 11 2026. No macro, syntax, notation, axiom, sorry.
-/
import Derived.Test.YtbdmanadmckjjaaDoorRows
import GoSem.ClaimSeven
namespace Go.Proofs.YtbdmanadmckjjaaDoor
namespace Rows

/-- THE TIED CARD OF 'laws.FnExactValidHeap'. -/
def fnExactValidHeapCard : Claim7 := { stood := { row := fnExactValidHeapRow, standIns := [], harness := (true, "eaeda5276d11f6bb126f9219e955faeb600558a48a7ccdb5e68dfaa7059e5967"), looks := true }, kinds := [], alts := [], laidByText := true, laidKinds := [.data], laidTests := true, laidLooks := .later }
def FnExactValidHeapCardSaid : Prop := Claim7.holds Tryd.pinned (.plain (OpenSpec.ofChange fnExactValidHeapSpec)) fnExactValidHeapCard

/-- THE TIED CARD OF 'laws.FnExactFitsHeap'. -/
def fnExactFitsHeapCard : Claim7 := { stood := { row := fnExactFitsHeapRow, standIns := [], harness := (true, "eaeda5276d11f6bb126f9219e955faeb600558a48a7ccdb5e68dfaa7059e5967"), looks := true }, kinds := [], alts := [], laidByText := true, laidKinds := [.data], laidTests := true, laidLooks := .later }
def FnExactFitsHeapCardSaid : Prop := Claim7.holds Tryd.pinned (.plain (OpenSpec.ofChange fnExactFitsHeapSpec)) fnExactFitsHeapCard

/-- THE TIED CARD OF 'laws.FnExactHeapSize'. -/
def fnExactHeapSizeCard : Claim7 := { stood := { row := fnExactHeapSizeRow, standIns := [], harness := (true, "eaeda5276d11f6bb126f9219e955faeb600558a48a7ccdb5e68dfaa7059e5967"), looks := true }, kinds := [], alts := [], laidByText := true, laidKinds := [.data], laidTests := true, laidLooks := .later }
def FnExactHeapSizeCardSaid : Prop := Claim7.holds Tryd.pinned (.plain (OpenSpec.ofChange fnExactHeapSizeSpec)) fnExactHeapSizeCard

/-- THE TIED CARD OF 'laws.FnExactValidRoots'. -/
def fnExactValidRootsCard : Claim7 := { stood := { row := fnExactValidRootsRow, standIns := [], harness := (true, "eaeda5276d11f6bb126f9219e955faeb600558a48a7ccdb5e68dfaa7059e5967"), looks := true }, kinds := [], alts := [], laidByText := true, laidKinds := [.data], laidTests := true, laidLooks := .later }
def FnExactValidRootsCardSaid : Prop := Claim7.holds Tryd.pinned (.plain (OpenSpec.ofChange fnExactValidRootsSpec)) fnExactValidRootsCard

/-- THE TIED CARD OF 'laws.FnExactObjectAt'. -/
def fnExactObjectAtCard : Claim7 := { stood := { row := fnExactObjectAtRow, standIns := [], harness := (true, "eaeda5276d11f6bb126f9219e955faeb600558a48a7ccdb5e68dfaa7059e5967"), looks := true }, kinds := [], alts := [], laidByText := true, laidKinds := [.data], laidTests := true, laidLooks := .later }
def FnExactObjectAtCardSaid : Prop := Claim7.holds Tryd.pinned (.plain (OpenSpec.ofChange fnExactObjectAtSpec)) fnExactObjectAtCard

/-- THE TIED CARD OF 'laws.FnExactNewObject'. -/
def fnExactNewObjectCard : Claim7 := { stood := { row := fnExactNewObjectRow, standIns := [], harness := (true, "eaeda5276d11f6bb126f9219e955faeb600558a48a7ccdb5e68dfaa7059e5967"), looks := true }, kinds := [], alts := [], laidByText := true, laidKinds := [.data], laidTests := true, laidLooks := .later }
def FnExactNewObjectCardSaid : Prop := Claim7.holds Tryd.pinned (.plain (OpenSpec.ofChange fnExactNewObjectSpec)) fnExactNewObjectCard

/-- THE TIED CARD OF 'laws.FnExactSetObject'. -/
def fnExactSetObjectCard : Claim7 := { stood := { row := fnExactSetObjectRow, standIns := [], harness := (true, "eaeda5276d11f6bb126f9219e955faeb600558a48a7ccdb5e68dfaa7059e5967"), looks := true }, kinds := [], alts := [], laidByText := true, laidKinds := [.data], laidTests := true, laidLooks := .later }
def FnExactSetObjectCardSaid : Prop := Claim7.holds Tryd.pinned (.plain (OpenSpec.ofChange fnExactSetObjectSpec)) fnExactSetObjectCard

/-- THE SECOND FORM's CARD OF 'laws.FnExactValidHeap'. -/
def fnExactValidHeapUptoCard : Claim7 := { stood := { row := fnExactValidHeapUptoRow, standIns := [], harness := (true, "eaeda5276d11f6bb126f9219e955faeb600558a48a7ccdb5e68dfaa7059e5967"), looks := true }, kinds := [], alts := [], laidByText := true, laidKinds := [.data], laidTests := true, laidLooks := .later }
def FnExactValidHeapUptoCardSaid : Prop := Claim7.holds Tryd.pinned (.plain (OpenSpec.upto fnExactValidHeapSpec)) fnExactValidHeapUptoCard

/-- THE SECOND FORM's CARD OF 'laws.FnExactFitsHeap'. -/
def fnExactFitsHeapUptoCard : Claim7 := { stood := { row := fnExactFitsHeapUptoRow, standIns := [], harness := (true, "eaeda5276d11f6bb126f9219e955faeb600558a48a7ccdb5e68dfaa7059e5967"), looks := true }, kinds := [], alts := [], laidByText := true, laidKinds := [.data], laidTests := true, laidLooks := .later }
def FnExactFitsHeapUptoCardSaid : Prop := Claim7.holds Tryd.pinned (.plain (OpenSpec.upto fnExactFitsHeapSpec)) fnExactFitsHeapUptoCard

/-- THE SECOND FORM's CARD OF 'laws.FnExactHeapSize'. -/
def fnExactHeapSizeUptoCard : Claim7 := { stood := { row := fnExactHeapSizeUptoRow, standIns := [], harness := (true, "eaeda5276d11f6bb126f9219e955faeb600558a48a7ccdb5e68dfaa7059e5967"), looks := true }, kinds := [], alts := [], laidByText := true, laidKinds := [.data], laidTests := true, laidLooks := .later }
def FnExactHeapSizeUptoCardSaid : Prop := Claim7.holds Tryd.pinned (.plain (OpenSpec.upto fnExactHeapSizeSpec)) fnExactHeapSizeUptoCard

/-- THE SECOND FORM's CARD OF 'laws.FnExactValidRoots'. -/
def fnExactValidRootsUptoCard : Claim7 := { stood := { row := fnExactValidRootsUptoRow, standIns := [], harness := (true, "eaeda5276d11f6bb126f9219e955faeb600558a48a7ccdb5e68dfaa7059e5967"), looks := true }, kinds := [], alts := [], laidByText := true, laidKinds := [.data], laidTests := true, laidLooks := .later }
def FnExactValidRootsUptoCardSaid : Prop := Claim7.holds Tryd.pinned (.plain (OpenSpec.upto fnExactValidRootsSpec)) fnExactValidRootsUptoCard

/-- THE SECOND FORM's CARD OF 'laws.FnExactObjectAt'. -/
def fnExactObjectAtUptoCard : Claim7 := { stood := { row := fnExactObjectAtUptoRow, standIns := [], harness := (true, "eaeda5276d11f6bb126f9219e955faeb600558a48a7ccdb5e68dfaa7059e5967"), looks := true }, kinds := [], alts := [], laidByText := true, laidKinds := [.data], laidTests := true, laidLooks := .later }
def FnExactObjectAtUptoCardSaid : Prop := Claim7.holds Tryd.pinned (.plain (OpenSpec.upto fnExactObjectAtSpec)) fnExactObjectAtUptoCard

/-- THE SECOND FORM's CARD OF 'laws.FnExactNewObject'. -/
def fnExactNewObjectUptoCard : Claim7 := { stood := { row := fnExactNewObjectUptoRow, standIns := [], harness := (true, "eaeda5276d11f6bb126f9219e955faeb600558a48a7ccdb5e68dfaa7059e5967"), looks := true }, kinds := [], alts := [], laidByText := true, laidKinds := [.data], laidTests := true, laidLooks := .later }
def FnExactNewObjectUptoCardSaid : Prop := Claim7.holds Tryd.pinned (.plain (OpenSpec.upto fnExactNewObjectSpec)) fnExactNewObjectUptoCard

/-- THE SECOND FORM's CARD OF 'laws.FnExactSetObject'. -/
def fnExactSetObjectUptoCard : Claim7 := { stood := { row := fnExactSetObjectUptoRow, standIns := [], harness := (true, "eaeda5276d11f6bb126f9219e955faeb600558a48a7ccdb5e68dfaa7059e5967"), looks := true }, kinds := [], alts := [], laidByText := true, laidKinds := [.data], laidTests := true, laidLooks := .later }
def FnExactSetObjectUptoCardSaid : Prop := Claim7.holds Tryd.pinned (.plain (OpenSpec.upto fnExactSetObjectSpec)) fnExactSetObjectUptoCard
end Rows
end Go.Proofs.YtbdmanadmckjjaaDoor
