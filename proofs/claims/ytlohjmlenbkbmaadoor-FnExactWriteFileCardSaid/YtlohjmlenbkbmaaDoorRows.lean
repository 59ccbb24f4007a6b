/-
  NARROWER THAN 'FOR EVERY INPUT', by the rows' own cells (each row's printed sentence says how): FnExactOpenFile: laid · FnExactReadFile: laid · FnExactWriteFile: laid · FnExactRewindFile: laid · FnExactCloseFile: laid · FnExactDeleteFile: laid.
  DERIVED. THE GIVEN ROWS OF THIS SEAT. 6 by the template 'for every input the law returns true; each argument reads behind the call as it read before'; 0 by the template 'total and deterministic' (their statements: YtlohjmlenbkbmaaDoorTotals.lean).
  GIVEN WITH THE SEED: the statements are not yours to turn. If you find one false, say at which input.
  Laid BY PROGRAM, IN A SANDBOX (cutbox-rows.mjs): the forced cells as the released guide's own fill.sh prints them over the translation 9a83d7ed9a8d0d8b… (all of the seat's roots in one cut). By AI agents, Wed Nov 11 2026. No macro, syntax, notation, axiom, sorry.
-/
import Derived.Test.YtlohjmlenbkbmaaDoorChecked
import GoSem.Claim
import GoSem.ClaimJoined
import GoSem.ClaimMapViews
import Derived.JoinedTies
import Derived.KernelRfl
namespace Go.Proofs.YtlohjmlenbkbmaaDoor
/- THE CELL 'sum', in the pinned program and in every row, IS THE sha256 OF THE DUMP (.gsa) THAT YtlohjmlenbkbmaaDoorProg.lean LOADS. Nothing in Lean hashes anything: it is a label: what it is worth is what the hold of that sum in a sandbox is worth. -/
noncomputable def Tryd.pinned : Pinned := { name := "ytlohjmlenbkbmaadoor", sum := "9a83d7ed9a8d0d8b504912ed60e7eb5ce6bdff3b26eea273d06eebac266f3c8d", checked := Tryd.checked }
namespace Rows
def none {H : Type} : Left H := { results := [], args := [] }

/- WHAT THE LISTED PACKAGE-LEVEL VARIABLES READ AS WHEN THE CALL BEGINS. Each datum BY PROGRAM (the guide's laid-datum.mjs) off the statement by which the dump's own 'gosem.cut.vars' lays the variable. In a bare row this is a premise. The card (YtlohjmlenbkbmaaDoorCards.lean) ties it to the program's text. -/
def laid_loop_example_g00873_impl_byteClasses {H : Type} : DataW H := .agg [.lit (.int .u8 0), .lit (.int .u8 0), .lit (.int .u8 0), .lit (.int .u8 0), .lit (.int .u8 0), .lit (.int .u8 0), .lit (.int .u8 0), .lit (.int .u8 0), .lit (.int .u8 0), .lit (.int .u8 0), .lit (.int .u8 0), .lit (.int .u8 0), .lit (.int .u8 0), .lit (.int .u8 0), .lit (.int .u8 0), .lit (.int .u8 0), .lit (.int .u8 0), .lit (.int .u8 0), .lit (.int .u8 0), .lit (.int .u8 0), .lit (.int .u8 0), .lit (.int .u8 0), .lit (.int .u8 0), .lit (.int .u8 0), .lit (.int .u8 0), .lit (.int .u8 0), .lit (.int .u8 0), .lit (.int .u8 0), .lit (.int .u8 0), .lit (.int .u8 0), .lit (.int .u8 0), .lit (.int .u8 0), .lit (.int .u8 0), .lit (.int .u8 0), .lit (.int .u8 3), .lit (.int .u8 0), .lit (.int .u8 4), .lit (.int .u8 0), .lit (.int .u8 0), .lit (.int .u8 3), .lit (.int .u8 5), .lit (.int .u8 6), .lit (.int .u8 4), .lit (.int .u8 4), .lit (.int .u8 9), .lit (.int .u8 4), .lit (.int .u8 4), .lit (.int .u8 4), .lit (.int .u8 2), .lit (.int .u8 2), .lit (.int .u8 2), .lit (.int .u8 2), .lit (.int .u8 2), .lit (.int .u8 2), .lit (.int .u8 2), .lit (.int .u8 2), .lit (.int .u8 2), .lit (.int .u8 2), .lit (.int .u8 10), .lit (.int .u8 0), .lit (.int .u8 7), .lit (.int .u8 4), .lit (.int .u8 8), .lit (.int .u8 0), .lit (.int .u8 4), .lit (.int .u8 1), .lit (.int .u8 1), .lit (.int .u8 1), .lit (.int .u8 1), .lit (.int .u8 1), .lit (.int .u8 1), .lit (.int .u8 1), .lit (.int .u8 1), .lit (.int .u8 1), .lit (.int .u8 1), .lit (.int .u8 1), .lit (.int .u8 1), .lit (.int .u8 1), .lit (.int .u8 1), .lit (.int .u8 1), .lit (.int .u8 1), .lit (.int .u8 1), .lit (.int .u8 1), .lit (.int .u8 1), .lit (.int .u8 1), .lit (.int .u8 1), .lit (.int .u8 1), .lit (.int .u8 1), .lit (.int .u8 1), .lit (.int .u8 1), .lit (.int .u8 1), .lit (.int .u8 0), .lit (.int .u8 0), .lit (.int .u8 0), .lit (.int .u8 0), .lit (.int .u8 11), .lit (.int .u8 0), .lit (.int .u8 1), .lit (.int .u8 1), .lit (.int .u8 1), .lit (.int .u8 1), .lit (.int .u8 1), .lit (.int .u8 1), .lit (.int .u8 1), .lit (.int .u8 1), .lit (.int .u8 1), .lit (.int .u8 1), .lit (.int .u8 1), .lit (.int .u8 1), .lit (.int .u8 1), .lit (.int .u8 1), .lit (.int .u8 1), .lit (.int .u8 1), .lit (.int .u8 1), .lit (.int .u8 1), .lit (.int .u8 1), .lit (.int .u8 1), .lit (.int .u8 1), .lit (.int .u8 1), .lit (.int .u8 1), .lit (.int .u8 1), .lit (.int .u8 1), .lit (.int .u8 1), .lit (.int .u8 0), .lit (.int .u8 4), .lit (.int .u8 0), .lit (.int .u8 0), .lit (.int .u8 0)]

/-- 'laws.FnExactOpenFile': WHATEVER THE INPUT: true; the input reads as it did. -/
def fnExactOpenFileSpec : ChangeSpec := { name := "fnExactOpenFile", vars := ["loop.example/g00873/impl.byteClasses"], fn := fun _ => fun
  | [d1, d2, d3, g1] => { results := [.lit (.bool true)], args := [d1, d2, d3], vars := [g1] }
  | _ => none }
def fnExactOpenFileRow : OpenClaim := { program := "ytlohjmlenbkbmaadoor", sum := "9a83d7ed9a8d0d8b504912ed60e7eb5ce6bdff3b26eea273d06eebac266f3c8d", func := "loop.example/g00873/laws.FnExactOpenFile", spec := "fnExactOpenFile", unfollowed := true, recurses := true, named := ["loop.example/g00873/impl.byteClasses"], apart := false, laid := [("loop.example/g00873/impl.byteClasses", laid_loop_example_g00873_impl_byteClasses)] }
def FnExactOpenFileSaid : Prop := fnExactOpenFileRow.holds Tryd.pinned (OpenSpec.ofChange fnExactOpenFileSpec)

/-- ITS FALSE NEIGHBOUR: 'it returns false'. Refute it at one input. -/
def fnExactOpenFileWrong : ChangeSpec := { name := "fnExactOpenFile", vars := ["loop.example/g00873/impl.byteClasses"], fn := fun _ => fun
  | [d1, d2, d3, g1] => { results := [.lit (.bool false)], args := [d1, d2, d3], vars := [g1] }
  | _ => none }
def FnExactOpenFileWrongFalsely : Prop := fnExactOpenFileRow.holds Tryd.pinned (OpenSpec.ofChange fnExactOpenFileWrong)

/-- 'laws.FnExactReadFile': WHATEVER THE INPUT: true; the input reads as it did. -/
def fnExactReadFileSpec : ChangeSpec := { name := "fnExactReadFile", vars := ["loop.example/g00873/impl.byteClasses"], fn := fun _ => fun
  | [d1, d2, g1] => { results := [.lit (.bool true)], args := [d1, d2], vars := [g1] }
  | _ => none }
def fnExactReadFileRow : OpenClaim := { program := "ytlohjmlenbkbmaadoor", sum := "9a83d7ed9a8d0d8b504912ed60e7eb5ce6bdff3b26eea273d06eebac266f3c8d", func := "loop.example/g00873/laws.FnExactReadFile", spec := "fnExactReadFile", unfollowed := true, recurses := true, named := ["loop.example/g00873/impl.byteClasses"], apart := false, laid := [("loop.example/g00873/impl.byteClasses", laid_loop_example_g00873_impl_byteClasses)] }
def FnExactReadFileSaid : Prop := fnExactReadFileRow.holds Tryd.pinned (OpenSpec.ofChange fnExactReadFileSpec)

/-- ITS FALSE NEIGHBOUR: 'it returns false'. Refute it at one input. -/
def fnExactReadFileWrong : ChangeSpec := { name := "fnExactReadFile", vars := ["loop.example/g00873/impl.byteClasses"], fn := fun _ => fun
  | [d1, d2, g1] => { results := [.lit (.bool false)], args := [d1, d2], vars := [g1] }
  | _ => none }
def FnExactReadFileWrongFalsely : Prop := fnExactReadFileRow.holds Tryd.pinned (OpenSpec.ofChange fnExactReadFileWrong)

/-- 'laws.FnExactWriteFile': WHATEVER THE INPUT: true; the input reads as it did. -/
def fnExactWriteFileSpec : ChangeSpec := { name := "fnExactWriteFile", vars := ["loop.example/g00873/impl.byteClasses"], fn := fun _ => fun
  | [d1, d2, d3, g1] => { results := [.lit (.bool true)], args := [d1, d2, d3], vars := [g1] }
  | _ => none }
def fnExactWriteFileRow : OpenClaim := { program := "ytlohjmlenbkbmaadoor", sum := "9a83d7ed9a8d0d8b504912ed60e7eb5ce6bdff3b26eea273d06eebac266f3c8d", func := "loop.example/g00873/laws.FnExactWriteFile", spec := "fnExactWriteFile", unfollowed := true, recurses := true, named := ["loop.example/g00873/impl.byteClasses"], apart := false, laid := [("loop.example/g00873/impl.byteClasses", laid_loop_example_g00873_impl_byteClasses)] }
def FnExactWriteFileSaid : Prop := fnExactWriteFileRow.holds Tryd.pinned (OpenSpec.ofChange fnExactWriteFileSpec)

/-- ITS FALSE NEIGHBOUR: 'it returns false'. Refute it at one input. -/
def fnExactWriteFileWrong : ChangeSpec := { name := "fnExactWriteFile", vars := ["loop.example/g00873/impl.byteClasses"], fn := fun _ => fun
  | [d1, d2, d3, g1] => { results := [.lit (.bool false)], args := [d1, d2, d3], vars := [g1] }
  | _ => none }
def FnExactWriteFileWrongFalsely : Prop := fnExactWriteFileRow.holds Tryd.pinned (OpenSpec.ofChange fnExactWriteFileWrong)

/-- 'laws.FnExactRewindFile': WHATEVER THE INPUT: true; the input reads as it did. -/
def fnExactRewindFileSpec : ChangeSpec := { name := "fnExactRewindFile", vars := ["loop.example/g00873/impl.byteClasses"], fn := fun _ => fun
  | [d1, d2, g1] => { results := [.lit (.bool true)], args := [d1, d2], vars := [g1] }
  | _ => none }
def fnExactRewindFileRow : OpenClaim := { program := "ytlohjmlenbkbmaadoor", sum := "9a83d7ed9a8d0d8b504912ed60e7eb5ce6bdff3b26eea273d06eebac266f3c8d", func := "loop.example/g00873/laws.FnExactRewindFile", spec := "fnExactRewindFile", unfollowed := true, recurses := true, named := ["loop.example/g00873/impl.byteClasses"], apart := false, laid := [("loop.example/g00873/impl.byteClasses", laid_loop_example_g00873_impl_byteClasses)] }
def FnExactRewindFileSaid : Prop := fnExactRewindFileRow.holds Tryd.pinned (OpenSpec.ofChange fnExactRewindFileSpec)

/-- ITS FALSE NEIGHBOUR: 'it returns false'. Refute it at one input. -/
def fnExactRewindFileWrong : ChangeSpec := { name := "fnExactRewindFile", vars := ["loop.example/g00873/impl.byteClasses"], fn := fun _ => fun
  | [d1, d2, g1] => { results := [.lit (.bool false)], args := [d1, d2], vars := [g1] }
  | _ => none }
def FnExactRewindFileWrongFalsely : Prop := fnExactRewindFileRow.holds Tryd.pinned (OpenSpec.ofChange fnExactRewindFileWrong)

/-- 'laws.FnExactCloseFile': WHATEVER THE INPUT: true; the input reads as it did. -/
def fnExactCloseFileSpec : ChangeSpec := { name := "fnExactCloseFile", vars := ["loop.example/g00873/impl.byteClasses"], fn := fun _ => fun
  | [d1, d2, g1] => { results := [.lit (.bool true)], args := [d1, d2], vars := [g1] }
  | _ => none }
def fnExactCloseFileRow : OpenClaim := { program := "ytlohjmlenbkbmaadoor", sum := "9a83d7ed9a8d0d8b504912ed60e7eb5ce6bdff3b26eea273d06eebac266f3c8d", func := "loop.example/g00873/laws.FnExactCloseFile", spec := "fnExactCloseFile", unfollowed := true, recurses := true, named := ["loop.example/g00873/impl.byteClasses"], apart := false, laid := [("loop.example/g00873/impl.byteClasses", laid_loop_example_g00873_impl_byteClasses)] }
def FnExactCloseFileSaid : Prop := fnExactCloseFileRow.holds Tryd.pinned (OpenSpec.ofChange fnExactCloseFileSpec)

/-- ITS FALSE NEIGHBOUR: 'it returns false'. Refute it at one input. -/
def fnExactCloseFileWrong : ChangeSpec := { name := "fnExactCloseFile", vars := ["loop.example/g00873/impl.byteClasses"], fn := fun _ => fun
  | [d1, d2, g1] => { results := [.lit (.bool false)], args := [d1, d2], vars := [g1] }
  | _ => none }
def FnExactCloseFileWrongFalsely : Prop := fnExactCloseFileRow.holds Tryd.pinned (OpenSpec.ofChange fnExactCloseFileWrong)

/-- 'laws.FnExactDeleteFile': WHATEVER THE INPUT: true; the input reads as it did. -/
def fnExactDeleteFileSpec : ChangeSpec := { name := "fnExactDeleteFile", vars := ["loop.example/g00873/impl.byteClasses"], fn := fun _ => fun
  | [d1, d2, g1] => { results := [.lit (.bool true)], args := [d1, d2], vars := [g1] }
  | _ => none }
def fnExactDeleteFileRow : OpenClaim := { program := "ytlohjmlenbkbmaadoor", sum := "9a83d7ed9a8d0d8b504912ed60e7eb5ce6bdff3b26eea273d06eebac266f3c8d", func := "loop.example/g00873/laws.FnExactDeleteFile", spec := "fnExactDeleteFile", unfollowed := true, recurses := true, named := ["loop.example/g00873/impl.byteClasses"], apart := false, laid := [("loop.example/g00873/impl.byteClasses", laid_loop_example_g00873_impl_byteClasses)] }
def FnExactDeleteFileSaid : Prop := fnExactDeleteFileRow.holds Tryd.pinned (OpenSpec.ofChange fnExactDeleteFileSpec)

/-- ITS FALSE NEIGHBOUR: 'it returns false'. Refute it at one input. -/
def fnExactDeleteFileWrong : ChangeSpec := { name := "fnExactDeleteFile", vars := ["loop.example/g00873/impl.byteClasses"], fn := fun _ => fun
  | [d1, d2, g1] => { results := [.lit (.bool false)], args := [d1, d2], vars := [g1] }
  | _ => none }
def FnExactDeleteFileWrongFalsely : Prop := fnExactDeleteFileRow.holds Tryd.pinned (OpenSpec.ofChange fnExactDeleteFileWrong)

/- THE SECOND FORM. 'bulk': how many values and letters a reading holds, each counted each time it is reached (what is shared counts as often as it is met; a slice's spare places count too). A statement '..UptoSaid' is the law's where the arguments, and the package variables that the reading takes, are together of bulk at most 1048576: NARROWER than '..Said'. Prove '..Said' where nothing that the law and all that it calls make is longer than what came in: it says more and counts as full. Else prove '..UptoSaid'. A law counts once. -/
mutual
def uptoBulk {H : Type} : DataW H → Nat
  | .lit (.string bytes) => bytes.length + 1
  | .lit _ => 1
  | .nil => 1
  | .ptr d => uptoBulk d + 1
  | .slice elems spare => uptoBulkAll elems + uptoBulkAll spare + 1
  | .agg parts => uptoBulkAll parts + 1
  | .iface _ d => uptoBulk d + 1
  | .map entries => uptoBulkEntries entries + 1
  | .held _ => 1
def uptoBulkAll {H : Type} : List (DataW H) → Nat
  | [] => 0
  | d :: r => uptoBulk d + uptoBulkAll r
def uptoBulkEntries {H : Type} : List (Lit × DataW H) → Nat
  | [] => 0
  | x :: r => uptoBulkEntry x + uptoBulkEntries r
def uptoBulkEntry {H : Type} : Lit × DataW H → Nat
  | (.string bytes, d) => bytes.length + uptoBulk d + 1
  | (_, d) => uptoBulk d + 1
 end
def uptoSmall : (H : Type) → List (DataW H) → Bool := fun _ ds => decide (uptoBulkAll ds ≤ 1048576)
def OpenSpec.upto (s : _root_.Go.ChangeSpec) : _root_.Go.OpenSpec := { _root_.Go.OpenSpec.ofChange s with cond := some uptoSmall }

/-- 'laws.FnExactOpenFile', WHERE WHAT IT READS IS OF BULK AT MOST 1048576: true; the input reads as it did. -/
def fnExactOpenFileUptoRow : OpenClaim := { program := "ytlohjmlenbkbmaadoor", sum := "9a83d7ed9a8d0d8b504912ed60e7eb5ce6bdff3b26eea273d06eebac266f3c8d", func := "loop.example/g00873/laws.FnExactOpenFile", spec := "fnExactOpenFile", unfollowed := true, recurses := true, named := ["loop.example/g00873/impl.byteClasses"], apart := false, laid := [("loop.example/g00873/impl.byteClasses", laid_loop_example_g00873_impl_byteClasses)], narrowed := true }
def FnExactOpenFileUptoSaid : Prop := fnExactOpenFileUptoRow.holds Tryd.pinned (OpenSpec.upto fnExactOpenFileSpec)

/-- 'laws.FnExactReadFile', WHERE WHAT IT READS IS OF BULK AT MOST 1048576: true; the input reads as it did. -/
def fnExactReadFileUptoRow : OpenClaim := { program := "ytlohjmlenbkbmaadoor", sum := "9a83d7ed9a8d0d8b504912ed60e7eb5ce6bdff3b26eea273d06eebac266f3c8d", func := "loop.example/g00873/laws.FnExactReadFile", spec := "fnExactReadFile", unfollowed := true, recurses := true, named := ["loop.example/g00873/impl.byteClasses"], apart := false, laid := [("loop.example/g00873/impl.byteClasses", laid_loop_example_g00873_impl_byteClasses)], narrowed := true }
def FnExactReadFileUptoSaid : Prop := fnExactReadFileUptoRow.holds Tryd.pinned (OpenSpec.upto fnExactReadFileSpec)

/-- 'laws.FnExactWriteFile', WHERE WHAT IT READS IS OF BULK AT MOST 1048576: true; the input reads as it did. -/
def fnExactWriteFileUptoRow : OpenClaim := { program := "ytlohjmlenbkbmaadoor", sum := "9a83d7ed9a8d0d8b504912ed60e7eb5ce6bdff3b26eea273d06eebac266f3c8d", func := "loop.example/g00873/laws.FnExactWriteFile", spec := "fnExactWriteFile", unfollowed := true, recurses := true, named := ["loop.example/g00873/impl.byteClasses"], apart := false, laid := [("loop.example/g00873/impl.byteClasses", laid_loop_example_g00873_impl_byteClasses)], narrowed := true }
def FnExactWriteFileUptoSaid : Prop := fnExactWriteFileUptoRow.holds Tryd.pinned (OpenSpec.upto fnExactWriteFileSpec)

/-- 'laws.FnExactRewindFile', WHERE WHAT IT READS IS OF BULK AT MOST 1048576: true; the input reads as it did. -/
def fnExactRewindFileUptoRow : OpenClaim := { program := "ytlohjmlenbkbmaadoor", sum := "9a83d7ed9a8d0d8b504912ed60e7eb5ce6bdff3b26eea273d06eebac266f3c8d", func := "loop.example/g00873/laws.FnExactRewindFile", spec := "fnExactRewindFile", unfollowed := true, recurses := true, named := ["loop.example/g00873/impl.byteClasses"], apart := false, laid := [("loop.example/g00873/impl.byteClasses", laid_loop_example_g00873_impl_byteClasses)], narrowed := true }
def FnExactRewindFileUptoSaid : Prop := fnExactRewindFileUptoRow.holds Tryd.pinned (OpenSpec.upto fnExactRewindFileSpec)

/-- 'laws.FnExactCloseFile', WHERE WHAT IT READS IS OF BULK AT MOST 1048576: true; the input reads as it did. -/
def fnExactCloseFileUptoRow : OpenClaim := { program := "ytlohjmlenbkbmaadoor", sum := "9a83d7ed9a8d0d8b504912ed60e7eb5ce6bdff3b26eea273d06eebac266f3c8d", func := "loop.example/g00873/laws.FnExactCloseFile", spec := "fnExactCloseFile", unfollowed := true, recurses := true, named := ["loop.example/g00873/impl.byteClasses"], apart := false, laid := [("loop.example/g00873/impl.byteClasses", laid_loop_example_g00873_impl_byteClasses)], narrowed := true }
def FnExactCloseFileUptoSaid : Prop := fnExactCloseFileUptoRow.holds Tryd.pinned (OpenSpec.upto fnExactCloseFileSpec)

/-- 'laws.FnExactDeleteFile', WHERE WHAT IT READS IS OF BULK AT MOST 1048576: true; the input reads as it did. -/
def fnExactDeleteFileUptoRow : OpenClaim := { program := "ytlohjmlenbkbmaadoor", sum := "9a83d7ed9a8d0d8b504912ed60e7eb5ce6bdff3b26eea273d06eebac266f3c8d", func := "loop.example/g00873/laws.FnExactDeleteFile", spec := "fnExactDeleteFile", unfollowed := true, recurses := true, named := ["loop.example/g00873/impl.byteClasses"], apart := false, laid := [("loop.example/g00873/impl.byteClasses", laid_loop_example_g00873_impl_byteClasses)], narrowed := true }
def FnExactDeleteFileUptoSaid : Prop := fnExactDeleteFileUptoRow.holds Tryd.pinned (OpenSpec.upto fnExactDeleteFileSpec)

end Rows
end Go.Proofs.YtlohjmlenbkbmaaDoor
