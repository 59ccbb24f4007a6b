/-
  DERIVED. GIVEN WITH THE SEED: THE CARDS: each row of YtfcpdjfckeoniaaGreatDoorRows.lean that lists a variable, with what it lists TIED to the program's text (the seventh form; the later family's looks); each row that meets fmt, with fmt's text TOLD by the authors' own Lean function (tested against real Go, not proved from fmt's source: count such statements apart). THE CARD IS WHAT COUNTS. Prove the row's statement (the work); the ties are given (YtfcpdjfckeoniaaGreatDoorTie.lean); close each card by the builder's one call (the guide's Derived/Test/ToyasCard.lean, 'card_holds'). Laid BY PROGRAM, IN A SANDBOX (cutbox-door.mjs). By AI agents, Wed Nov 11 2026. No macro, syntax, notation, axiom, sorry.
-/
import Derived.Test.YtfcpdjfckeoniaaGreatDoorRows
import GoSem.ClaimSeven
namespace Go.Proofs.YtfcpdjfckeoniaaGreatDoor
namespace Rows

/-- THE TIED CARD OF 'laws.FnExactAddTrace'. -/
def fnExactAddTraceCard : Claim7 := { stood := { row := fnExactAddTraceRow, standIns := [], harness := (true, "3d1b22a5c0c10bcc2f8d3d0a64e0dbb0e1cd91342b6dfa9c40a8a739d2095e15"), looks := true }, kinds := [], alts := [], laidByText := true, laidKinds := [.data, .data, .data, .data, .data, .data, .data, .pinned], laidTests := true, laidLooks := .later }
def FnExactAddTraceCardSaid : Prop := Claim7.holds Tryz.pinned (.plain (OpenSpec.ofChange fnExactAddTraceSpec)) fnExactAddTraceCard

/-- THE TIED CARD OF 'laws.FnExactValidMemory'. -/
def fnExactValidMemoryCard : Claim7 := { stood := { row := fnExactValidMemoryRow, standIns := [], harness := (true, "3d1b22a5c0c10bcc2f8d3d0a64e0dbb0e1cd91342b6dfa9c40a8a739d2095e15"), looks := true }, kinds := [], alts := [], laidByText := true, laidKinds := [.data], laidTests := true, laidLooks := .later }
def FnExactValidMemoryCardSaid : Prop := Claim7.holds Tryz.pinned (.plain (OpenSpec.ofChange fnExactValidMemorySpec)) fnExactValidMemoryCard

/-- THE SECOND FORM's CARD OF 'laws.FnExactAddTrace'. -/
def fnExactAddTraceUptoCard : Claim7 := { stood := { row := fnExactAddTraceUptoRow, standIns := [], harness := (true, "3d1b22a5c0c10bcc2f8d3d0a64e0dbb0e1cd91342b6dfa9c40a8a739d2095e15"), looks := true }, kinds := [], alts := [], laidByText := true, laidKinds := [.data, .data, .data, .data, .data, .data, .data, .pinned], laidTests := true, laidLooks := .later }
def FnExactAddTraceUptoCardSaid : Prop := Claim7.holds Tryz.pinned (.plain (OpenSpec.upto fnExactAddTraceSpec)) fnExactAddTraceUptoCard

/-- THE SECOND FORM's CARD OF 'laws.FnExactValidMemory'. -/
def fnExactValidMemoryUptoCard : Claim7 := { stood := { row := fnExactValidMemoryUptoRow, standIns := [], harness := (true, "3d1b22a5c0c10bcc2f8d3d0a64e0dbb0e1cd91342b6dfa9c40a8a739d2095e15"), looks := true }, kinds := [], alts := [], laidByText := true, laidKinds := [.data], laidTests := true, laidLooks := .later }
def FnExactValidMemoryUptoCardSaid : Prop := Claim7.holds Tryz.pinned (.plain (OpenSpec.upto fnExactValidMemorySpec)) fnExactValidMemoryUptoCard
end Rows
end Go.Proofs.YtfcpdjfckeoniaaGreatDoor
