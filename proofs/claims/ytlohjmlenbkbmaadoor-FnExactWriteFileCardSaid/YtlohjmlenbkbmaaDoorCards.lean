/-
  DERIVED. GIVEN WITH THE SEED: THE CARDS: each row of YtlohjmlenbkbmaaDoorRows.lean that lists a variable, with what it lists TIED to the program's text (the seventh form; the later family's looks); each row that meets fmt, with fmt's text TOLD by the authors' own Lean function (tested against real Go, not proved from fmt's source: count such statements apart). THE CARD IS WHAT COUNTS. Prove the row's statement (the work); the ties are given (YtlohjmlenbkbmaaDoorTie.lean); close each card by the builder's one call (the guide's Derived/Test/ToyasCard.lean, 'card_holds'). Laid BY PROGRAM, IN A SANDBOX (cutbox-door.mjs). By AI agents, Wed Nov 11 2026. No macro, syntax, notation, axiom, sorry.
-/
import Derived.Test.YtlohjmlenbkbmaaDoorRows
import GoSem.ClaimSeven
namespace Go.Proofs.YtlohjmlenbkbmaaDoor
namespace Rows

/-- THE TIED CARD OF 'laws.FnExactOpenFile'. -/
def fnExactOpenFileCard : Claim7 := { stood := { row := fnExactOpenFileRow, standIns := [], harness := (true, "90e29f681043a03073bb2916484a5f0da4c35999756af7cf063738e137bec633"), looks := false }, kinds := [], alts := [], laidByText := true, laidKinds := [.data], laidTests := true, laidLooks := .later }
def FnExactOpenFileCardSaid : Prop := Claim7.holds Tryd.pinned (.plain (OpenSpec.ofChange fnExactOpenFileSpec)) fnExactOpenFileCard

/-- THE TIED CARD OF 'laws.FnExactReadFile'. -/
def fnExactReadFileCard : Claim7 := { stood := { row := fnExactReadFileRow, standIns := [], harness := (true, "90e29f681043a03073bb2916484a5f0da4c35999756af7cf063738e137bec633"), looks := false }, kinds := [], alts := [], laidByText := true, laidKinds := [.data], laidTests := true, laidLooks := .later }
def FnExactReadFileCardSaid : Prop := Claim7.holds Tryd.pinned (.plain (OpenSpec.ofChange fnExactReadFileSpec)) fnExactReadFileCard

/-- THE TIED CARD OF 'laws.FnExactWriteFile'. -/
def fnExactWriteFileCard : Claim7 := { stood := { row := fnExactWriteFileRow, standIns := [], harness := (true, "90e29f681043a03073bb2916484a5f0da4c35999756af7cf063738e137bec633"), looks := false }, kinds := [], alts := [], laidByText := true, laidKinds := [.data], laidTests := true, laidLooks := .later }
def FnExactWriteFileCardSaid : Prop := Claim7.holds Tryd.pinned (.plain (OpenSpec.ofChange fnExactWriteFileSpec)) fnExactWriteFileCard

/-- THE TIED CARD OF 'laws.FnExactRewindFile'. -/
def fnExactRewindFileCard : Claim7 := { stood := { row := fnExactRewindFileRow, standIns := [], harness := (true, "90e29f681043a03073bb2916484a5f0da4c35999756af7cf063738e137bec633"), looks := false }, kinds := [], alts := [], laidByText := true, laidKinds := [.data], laidTests := true, laidLooks := .later }
def FnExactRewindFileCardSaid : Prop := Claim7.holds Tryd.pinned (.plain (OpenSpec.ofChange fnExactRewindFileSpec)) fnExactRewindFileCard

/-- THE TIED CARD OF 'laws.FnExactCloseFile'. -/
def fnExactCloseFileCard : Claim7 := { stood := { row := fnExactCloseFileRow, standIns := [], harness := (true, "90e29f681043a03073bb2916484a5f0da4c35999756af7cf063738e137bec633"), looks := false }, kinds := [], alts := [], laidByText := true, laidKinds := [.data], laidTests := true, laidLooks := .later }
def FnExactCloseFileCardSaid : Prop := Claim7.holds Tryd.pinned (.plain (OpenSpec.ofChange fnExactCloseFileSpec)) fnExactCloseFileCard

/-- THE TIED CARD OF 'laws.FnExactDeleteFile'. -/
def fnExactDeleteFileCard : Claim7 := { stood := { row := fnExactDeleteFileRow, standIns := [], harness := (true, "90e29f681043a03073bb2916484a5f0da4c35999756af7cf063738e137bec633"), looks := false }, kinds := [], alts := [], laidByText := true, laidKinds := [.data], laidTests := true, laidLooks := .later }
def FnExactDeleteFileCardSaid : Prop := Claim7.holds Tryd.pinned (.plain (OpenSpec.ofChange fnExactDeleteFileSpec)) fnExactDeleteFileCard

/-- THE SECOND FORM's CARD OF 'laws.FnExactOpenFile'. -/
def fnExactOpenFileUptoCard : Claim7 := { stood := { row := fnExactOpenFileUptoRow, standIns := [], harness := (true, "90e29f681043a03073bb2916484a5f0da4c35999756af7cf063738e137bec633"), looks := false }, kinds := [], alts := [], laidByText := true, laidKinds := [.data], laidTests := true, laidLooks := .later }
def FnExactOpenFileUptoCardSaid : Prop := Claim7.holds Tryd.pinned (.plain (OpenSpec.upto fnExactOpenFileSpec)) fnExactOpenFileUptoCard

/-- THE SECOND FORM's CARD OF 'laws.FnExactReadFile'. -/
def fnExactReadFileUptoCard : Claim7 := { stood := { row := fnExactReadFileUptoRow, standIns := [], harness := (true, "90e29f681043a03073bb2916484a5f0da4c35999756af7cf063738e137bec633"), looks := false }, kinds := [], alts := [], laidByText := true, laidKinds := [.data], laidTests := true, laidLooks := .later }
def FnExactReadFileUptoCardSaid : Prop := Claim7.holds Tryd.pinned (.plain (OpenSpec.upto fnExactReadFileSpec)) fnExactReadFileUptoCard

/-- THE SECOND FORM's CARD OF 'laws.FnExactWriteFile'. -/
def fnExactWriteFileUptoCard : Claim7 := { stood := { row := fnExactWriteFileUptoRow, standIns := [], harness := (true, "90e29f681043a03073bb2916484a5f0da4c35999756af7cf063738e137bec633"), looks := false }, kinds := [], alts := [], laidByText := true, laidKinds := [.data], laidTests := true, laidLooks := .later }
def FnExactWriteFileUptoCardSaid : Prop := Claim7.holds Tryd.pinned (.plain (OpenSpec.upto fnExactWriteFileSpec)) fnExactWriteFileUptoCard

/-- THE SECOND FORM's CARD OF 'laws.FnExactRewindFile'. -/
def fnExactRewindFileUptoCard : Claim7 := { stood := { row := fnExactRewindFileUptoRow, standIns := [], harness := (true, "90e29f681043a03073bb2916484a5f0da4c35999756af7cf063738e137bec633"), looks := false }, kinds := [], alts := [], laidByText := true, laidKinds := [.data], laidTests := true, laidLooks := .later }
def FnExactRewindFileUptoCardSaid : Prop := Claim7.holds Tryd.pinned (.plain (OpenSpec.upto fnExactRewindFileSpec)) fnExactRewindFileUptoCard

/-- THE SECOND FORM's CARD OF 'laws.FnExactCloseFile'. -/
def fnExactCloseFileUptoCard : Claim7 := { stood := { row := fnExactCloseFileUptoRow, standIns := [], harness := (true, "90e29f681043a03073bb2916484a5f0da4c35999756af7cf063738e137bec633"), looks := false }, kinds := [], alts := [], laidByText := true, laidKinds := [.data], laidTests := true, laidLooks := .later }
def FnExactCloseFileUptoCardSaid : Prop := Claim7.holds Tryd.pinned (.plain (OpenSpec.upto fnExactCloseFileSpec)) fnExactCloseFileUptoCard

/-- THE SECOND FORM's CARD OF 'laws.FnExactDeleteFile'. -/
def fnExactDeleteFileUptoCard : Claim7 := { stood := { row := fnExactDeleteFileUptoRow, standIns := [], harness := (true, "90e29f681043a03073bb2916484a5f0da4c35999756af7cf063738e137bec633"), looks := false }, kinds := [], alts := [], laidByText := true, laidKinds := [.data], laidTests := true, laidLooks := .later }
def FnExactDeleteFileUptoCardSaid : Prop := Claim7.holds Tryd.pinned (.plain (OpenSpec.upto fnExactDeleteFileSpec)) fnExactDeleteFileUptoCard
end Rows
end Go.Proofs.YtlohjmlenbkbmaaDoor
