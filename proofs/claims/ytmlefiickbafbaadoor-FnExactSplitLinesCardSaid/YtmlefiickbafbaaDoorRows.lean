/-
  NARROWER THAN 'FOR EVERY INPUT', by the rows' own cells (each row's printed sentence says how): FnExactCodeName: laid · FnExactSplitLines: laid · FnExactValidSource: laid · FnExactIsBlankLine: laid · FnExactLogicalLines: laid · FnLines: laid · FnExactIsOperator: laid.
  DERIVED. THE GIVEN ROWS OF THIS SEAT. 7 by the template 'for every input the law returns true; each argument reads behind the call as it read before'; 0 by the template 'total and deterministic' (their statements: YtmlefiickbafbaaDoorTotals.lean).
  GIVEN WITH THE SEED: the statements are not yours to turn. If you find one false, say at which input.
  Laid BY PROGRAM, IN A SANDBOX (cutbox-rows.mjs): the forced cells as the released guide's own fill.sh prints them over the translation d1e8589bd50dbd67… (all of the seat's roots in one cut). By AI agents, Wed Nov 11 2026. No macro, syntax, notation, axiom, sorry.
-/
import Derived.Test.YtmlefiickbafbaaDoorChecked
import GoSem.PinnedTables
import GoSem.Claim
import GoSem.ClaimJoined
import GoSem.ClaimMapViews
import Derived.JoinedTies
import Derived.KernelRfl
namespace Go.Proofs.YtmlefiickbafbaaDoor
/- THE CELL 'sum', in the pinned program and in every row, IS THE sha256 OF THE DUMP (.gsa) THAT YtmlefiickbafbaaDoorProg.lean LOADS. Nothing in Lean hashes anything: it is a label: what it is worth is what the hold of that sum in a sandbox is worth. -/
noncomputable def Tryd.pinned : Pinned := { name := "ytmlefiickbafbaadoor", sum := "d1e8589bd50dbd670d719109ed6215795479a1cc71982c0fc8241a491b91d82f", checked := Tryd.checked }
namespace Rows
def none {H : Type} : Left H := { results := [], args := [] }

/- WHAT THE LISTED PACKAGE-LEVEL VARIABLES READ AS WHEN THE CALL BEGINS. Each datum BY PROGRAM (the guide's laid-datum.mjs) off the statement by which the dump's own 'gosem.cut.vars' lays the variable. In a bare row this is a premise. The card (YtmlefiickbafbaaDoorCards.lean) ties it to the program's text. -/
def laid_loop_example_g00873_impl_codeNames {H : Type} : DataW H := .agg [.lit (.string [111, 107]), .lit (.string [105, 110, 118, 97, 108, 105, 100]), .lit (.string [115, 121, 110, 116, 97, 120]), .lit (.string [114, 97, 110, 103, 101]), .lit (.string [116, 121, 112, 101]), .lit (.string [117, 110, 100, 101, 102, 105, 110, 101, 100]), .lit (.string [102, 117, 108, 108]), .lit (.string [115, 116, 101, 112, 115]), .lit (.string [100, 105, 118, 105, 115, 105, 111, 110]), .lit (.string [115, 116, 97, 99, 107]), .lit (.string [115, 116, 97, 116, 101]), .lit (.string [110, 111, 116, 45, 102, 111, 117, 110, 100])]
def laid_unicode_utf8_acceptRanges {H : Type} : DataW H := .agg [.agg [.lit (.int .u8 128), .lit (.int .u8 191)], .agg [.lit (.int .u8 160), .lit (.int .u8 191)], .agg [.lit (.int .u8 128), .lit (.int .u8 159)], .agg [.lit (.int .u8 144), .lit (.int .u8 191)], .agg [.lit (.int .u8 128), .lit (.int .u8 143)], .agg [.lit (.int .u8 0), .lit (.int .u8 0)], .agg [.lit (.int .u8 0), .lit (.int .u8 0)], .agg [.lit (.int .u8 0), .lit (.int .u8 0)], .agg [.lit (.int .u8 0), .lit (.int .u8 0)], .agg [.lit (.int .u8 0), .lit (.int .u8 0)], .agg [.lit (.int .u8 0), .lit (.int .u8 0)], .agg [.lit (.int .u8 0), .lit (.int .u8 0)], .agg [.lit (.int .u8 0), .lit (.int .u8 0)], .agg [.lit (.int .u8 0), .lit (.int .u8 0)], .agg [.lit (.int .u8 0), .lit (.int .u8 0)], .agg [.lit (.int .u8 0), .lit (.int .u8 0)]]
/-- One of Go's own tables, pinned by name: the form's constant. -/
def laid_unicode_utf8_first : DataW Unit := Go.Pinned.utf8First
def laid_loop_example_g00873_impl_byteClasses {H : Type} : DataW H := .agg [.lit (.int .u8 0), .lit (.int .u8 0), .lit (.int .u8 0), .lit (.int .u8 0), .lit (.int .u8 0), .lit (.int .u8 0), .lit (.int .u8 0), .lit (.int .u8 0), .lit (.int .u8 0), .lit (.int .u8 0), .lit (.int .u8 0), .lit (.int .u8 0), .lit (.int .u8 0), .lit (.int .u8 0), .lit (.int .u8 0), .lit (.int .u8 0), .lit (.int .u8 0), .lit (.int .u8 0), .lit (.int .u8 0), .lit (.int .u8 0), .lit (.int .u8 0), .lit (.int .u8 0), .lit (.int .u8 0), .lit (.int .u8 0), .lit (.int .u8 0), .lit (.int .u8 0), .lit (.int .u8 0), .lit (.int .u8 0), .lit (.int .u8 0), .lit (.int .u8 0), .lit (.int .u8 0), .lit (.int .u8 0), .lit (.int .u8 0), .lit (.int .u8 0), .lit (.int .u8 3), .lit (.int .u8 0), .lit (.int .u8 4), .lit (.int .u8 0), .lit (.int .u8 0), .lit (.int .u8 3), .lit (.int .u8 5), .lit (.int .u8 6), .lit (.int .u8 4), .lit (.int .u8 4), .lit (.int .u8 9), .lit (.int .u8 4), .lit (.int .u8 4), .lit (.int .u8 4), .lit (.int .u8 2), .lit (.int .u8 2), .lit (.int .u8 2), .lit (.int .u8 2), .lit (.int .u8 2), .lit (.int .u8 2), .lit (.int .u8 2), .lit (.int .u8 2), .lit (.int .u8 2), .lit (.int .u8 2), .lit (.int .u8 10), .lit (.int .u8 0), .lit (.int .u8 7), .lit (.int .u8 4), .lit (.int .u8 8), .lit (.int .u8 0), .lit (.int .u8 4), .lit (.int .u8 1), .lit (.int .u8 1), .lit (.int .u8 1), .lit (.int .u8 1), .lit (.int .u8 1), .lit (.int .u8 1), .lit (.int .u8 1), .lit (.int .u8 1), .lit (.int .u8 1), .lit (.int .u8 1), .lit (.int .u8 1), .lit (.int .u8 1), .lit (.int .u8 1), .lit (.int .u8 1), .lit (.int .u8 1), .lit (.int .u8 1), .lit (.int .u8 1), .lit (.int .u8 1), .lit (.int .u8 1), .lit (.int .u8 1), .lit (.int .u8 1), .lit (.int .u8 1), .lit (.int .u8 1), .lit (.int .u8 1), .lit (.int .u8 1), .lit (.int .u8 1), .lit (.int .u8 0), .lit (.int .u8 0), .lit (.int .u8 0), .lit (.int .u8 0), .lit (.int .u8 11), .lit (.int .u8 0), .lit (.int .u8 1), .lit (.int .u8 1), .lit (.int .u8 1), .lit (.int .u8 1), .lit (.int .u8 1), .lit (.int .u8 1), .lit (.int .u8 1), .lit (.int .u8 1), .lit (.int .u8 1), .lit (.int .u8 1), .lit (.int .u8 1), .lit (.int .u8 1), .lit (.int .u8 1), .lit (.int .u8 1), .lit (.int .u8 1), .lit (.int .u8 1), .lit (.int .u8 1), .lit (.int .u8 1), .lit (.int .u8 1), .lit (.int .u8 1), .lit (.int .u8 1), .lit (.int .u8 1), .lit (.int .u8 1), .lit (.int .u8 1), .lit (.int .u8 1), .lit (.int .u8 1), .lit (.int .u8 0), .lit (.int .u8 4), .lit (.int .u8 0), .lit (.int .u8 0), .lit (.int .u8 0)]

/-- 'laws.FnExactCodeName': WHATEVER THE INPUT: true; the input reads as it did. -/
def fnExactCodeNameSpec : ChangeSpec := { name := "fnExactCodeName", vars := ["loop.example/g00873/impl.codeNames"], fn := fun _ => fun
  | [d, g1] => { results := [.lit (.bool true)], args := [d], vars := [g1] }
  | _ => none }
def fnExactCodeNameRow : OpenClaim := { program := "ytmlefiickbafbaadoor", sum := "d1e8589bd50dbd670d719109ed6215795479a1cc71982c0fc8241a491b91d82f", func := "loop.example/g00873/laws.FnExactCodeName", spec := "fnExactCodeName", named := ["loop.example/g00873/impl.codeNames"], apart := false, laid := [("loop.example/g00873/impl.codeNames", laid_loop_example_g00873_impl_codeNames)] }
def FnExactCodeNameSaid : Prop := fnExactCodeNameRow.holds Tryd.pinned (OpenSpec.ofChange fnExactCodeNameSpec)

/-- ITS FALSE NEIGHBOUR: 'it returns false'. Refute it at one input. -/
def fnExactCodeNameWrong : ChangeSpec := { name := "fnExactCodeName", vars := ["loop.example/g00873/impl.codeNames"], fn := fun _ => fun
  | [d, g1] => { results := [.lit (.bool false)], args := [d], vars := [g1] }
  | _ => none }
def FnExactCodeNameWrongFalsely : Prop := fnExactCodeNameRow.holds Tryd.pinned (OpenSpec.ofChange fnExactCodeNameWrong)

/-- 'laws.FnExactSplitLines': WHATEVER THE INPUT: true; the input reads as it did. -/
def fnExactSplitLinesSpec : ChangeSpec := { name := "fnExactSplitLines", fn := fun _ => fun
  | [d] => { results := [.lit (.bool true)], args := [d] }
  | _ => none }
def fnExactSplitLinesRow : OpenClaim := { program := "ytmlefiickbafbaadoor", sum := "d1e8589bd50dbd670d719109ed6215795479a1cc71982c0fc8241a491b91d82f", func := "loop.example/g00873/laws.FnExactSplitLines", spec := "fnExactSplitLines", inPlace := ["internal/bytealg.CountString", "internal/bytealg.IndexByteString", "internal/bytealg.IndexString"], named := ["unicode/utf8.first", "unicode/utf8.acceptRanges", "internal/bytealg.MaxLen"], apart := false, laid := [("unicode/utf8.acceptRanges", laid_unicode_utf8_acceptRanges), ("unicode/utf8.first", laid_unicode_utf8_first)] }
def FnExactSplitLinesSaid : Prop := fnExactSplitLinesRow.holds Tryd.pinned (OpenSpec.ofChange fnExactSplitLinesSpec)

/-- ITS FALSE NEIGHBOUR: 'it returns false'. Refute it at one input. -/
def fnExactSplitLinesWrong : ChangeSpec := { name := "fnExactSplitLines", fn := fun _ => fun
  | [d] => { results := [.lit (.bool false)], args := [d] }
  | _ => none }
def FnExactSplitLinesWrongFalsely : Prop := fnExactSplitLinesRow.holds Tryd.pinned (OpenSpec.ofChange fnExactSplitLinesWrong)

/-- 'laws.FnExactValidSource': WHATEVER THE INPUT: true; the input reads as it did. -/
def fnExactValidSourceSpec : ChangeSpec := { name := "fnExactValidSource", fn := fun _ => fun
  | [d] => { results := [.lit (.bool true)], args := [d] }
  | _ => none }
def fnExactValidSourceRow : OpenClaim := { program := "ytmlefiickbafbaadoor", sum := "d1e8589bd50dbd670d719109ed6215795479a1cc71982c0fc8241a491b91d82f", func := "loop.example/g00873/laws.FnExactValidSource", spec := "fnExactValidSource", inPlace := ["internal/bytealg.CountString", "internal/bytealg.IndexByteString", "internal/bytealg.IndexString"], named := ["unicode/utf8.first", "unicode/utf8.acceptRanges", "internal/bytealg.MaxLen"], apart := false, laid := [("unicode/utf8.acceptRanges", laid_unicode_utf8_acceptRanges), ("unicode/utf8.first", laid_unicode_utf8_first)] }
def FnExactValidSourceSaid : Prop := fnExactValidSourceRow.holds Tryd.pinned (OpenSpec.ofChange fnExactValidSourceSpec)

/-- ITS FALSE NEIGHBOUR: 'it returns false'. Refute it at one input. -/
def fnExactValidSourceWrong : ChangeSpec := { name := "fnExactValidSource", fn := fun _ => fun
  | [d] => { results := [.lit (.bool false)], args := [d] }
  | _ => none }
def FnExactValidSourceWrongFalsely : Prop := fnExactValidSourceRow.holds Tryd.pinned (OpenSpec.ofChange fnExactValidSourceWrong)

/-- 'laws.FnExactIsBlankLine': WHATEVER THE INPUT: true; the input reads as it did. -/
def fnExactIsBlankLineSpec : ChangeSpec := { name := "fnExactIsBlankLine", fn := fun _ => fun
  | [d] => { results := [.lit (.bool true)], args := [d] }
  | _ => none }
def fnExactIsBlankLineRow : OpenClaim := { program := "ytmlefiickbafbaadoor", sum := "d1e8589bd50dbd670d719109ed6215795479a1cc71982c0fc8241a491b91d82f", func := "loop.example/g00873/laws.FnExactIsBlankLine", spec := "fnExactIsBlankLine", inPlace := ["internal/bytealg.IndexByteString", "internal/bytealg.IndexString"], named := ["unicode/utf8.first", "unicode/utf8.acceptRanges", "internal/bytealg.MaxLen"], apart := false, laid := [("unicode/utf8.acceptRanges", laid_unicode_utf8_acceptRanges), ("unicode/utf8.first", laid_unicode_utf8_first)] }
def FnExactIsBlankLineSaid : Prop := fnExactIsBlankLineRow.holds Tryd.pinned (OpenSpec.ofChange fnExactIsBlankLineSpec)

/-- ITS FALSE NEIGHBOUR: 'it returns false'. Refute it at one input. -/
def fnExactIsBlankLineWrong : ChangeSpec := { name := "fnExactIsBlankLine", fn := fun _ => fun
  | [d] => { results := [.lit (.bool false)], args := [d] }
  | _ => none }
def FnExactIsBlankLineWrongFalsely : Prop := fnExactIsBlankLineRow.holds Tryd.pinned (OpenSpec.ofChange fnExactIsBlankLineWrong)

/-- 'laws.FnExactLogicalLines': WHATEVER THE INPUT: true; the input reads as it did. -/
def fnExactLogicalLinesSpec : ChangeSpec := { name := "fnExactLogicalLines", fn := fun _ => fun
  | [d] => { results := [.lit (.bool true)], args := [d] }
  | _ => none }
def fnExactLogicalLinesRow : OpenClaim := { program := "ytmlefiickbafbaadoor", sum := "d1e8589bd50dbd670d719109ed6215795479a1cc71982c0fc8241a491b91d82f", func := "loop.example/g00873/laws.FnExactLogicalLines", spec := "fnExactLogicalLines", inPlace := ["internal/bytealg.CountString", "internal/bytealg.IndexByteString", "internal/bytealg.IndexString"], named := ["unicode/utf8.first", "unicode/utf8.acceptRanges", "internal/bytealg.MaxLen"], apart := false, laid := [("unicode/utf8.acceptRanges", laid_unicode_utf8_acceptRanges), ("unicode/utf8.first", laid_unicode_utf8_first)] }
def FnExactLogicalLinesSaid : Prop := fnExactLogicalLinesRow.holds Tryd.pinned (OpenSpec.ofChange fnExactLogicalLinesSpec)

/-- ITS FALSE NEIGHBOUR: 'it returns false'. Refute it at one input. -/
def fnExactLogicalLinesWrong : ChangeSpec := { name := "fnExactLogicalLines", fn := fun _ => fun
  | [d] => { results := [.lit (.bool false)], args := [d] }
  | _ => none }
def FnExactLogicalLinesWrongFalsely : Prop := fnExactLogicalLinesRow.holds Tryd.pinned (OpenSpec.ofChange fnExactLogicalLinesWrong)

/-- 'laws.FnLines': WHATEVER THE INPUT: true; the input reads as it did. -/
def fnLinesSpec : ChangeSpec := { name := "fnLines", fn := fun _ => fun
  | [d] => { results := [.lit (.bool true)], args := [d] }
  | _ => none }
def fnLinesRow : OpenClaim := { program := "ytmlefiickbafbaadoor", sum := "d1e8589bd50dbd670d719109ed6215795479a1cc71982c0fc8241a491b91d82f", func := "loop.example/g00873/laws.FnLines", spec := "fnLines", inPlace := ["internal/bytealg.CountString", "internal/bytealg.IndexByteString", "internal/bytealg.IndexString"], unfollowed := true, recurses := true, named := ["unicode/utf8.first", "unicode/utf8.acceptRanges", "internal/bytealg.MaxLen"], apart := false, laid := [("unicode/utf8.acceptRanges", laid_unicode_utf8_acceptRanges), ("unicode/utf8.first", laid_unicode_utf8_first)] }
def FnLinesSaid : Prop := fnLinesRow.holds Tryd.pinned (OpenSpec.ofChange fnLinesSpec)

/-- ITS FALSE NEIGHBOUR: 'it returns false'. Refute it at one input. -/
def fnLinesWrong : ChangeSpec := { name := "fnLines", fn := fun _ => fun
  | [d] => { results := [.lit (.bool false)], args := [d] }
  | _ => none }
def FnLinesWrongFalsely : Prop := fnLinesRow.holds Tryd.pinned (OpenSpec.ofChange fnLinesWrong)

/-- 'laws.FnExactIsOperator': WHATEVER THE INPUT: true; the input reads as it did. -/
def fnExactIsOperatorSpec : ChangeSpec := { name := "fnExactIsOperator", vars := ["loop.example/g00873/impl.byteClasses"], fn := fun _ => fun
  | [d, g1] => { results := [.lit (.bool true)], args := [d], vars := [g1] }
  | _ => none }
def fnExactIsOperatorRow : OpenClaim := { program := "ytmlefiickbafbaadoor", sum := "d1e8589bd50dbd670d719109ed6215795479a1cc71982c0fc8241a491b91d82f", func := "loop.example/g00873/laws.FnExactIsOperator", spec := "fnExactIsOperator", named := ["loop.example/g00873/impl.byteClasses"], apart := false, laid := [("loop.example/g00873/impl.byteClasses", laid_loop_example_g00873_impl_byteClasses)] }
def FnExactIsOperatorSaid : Prop := fnExactIsOperatorRow.holds Tryd.pinned (OpenSpec.ofChange fnExactIsOperatorSpec)

/-- ITS FALSE NEIGHBOUR: 'it returns false'. Refute it at one input. -/
def fnExactIsOperatorWrong : ChangeSpec := { name := "fnExactIsOperator", vars := ["loop.example/g00873/impl.byteClasses"], fn := fun _ => fun
  | [d, g1] => { results := [.lit (.bool false)], args := [d], vars := [g1] }
  | _ => none }
def FnExactIsOperatorWrongFalsely : Prop := fnExactIsOperatorRow.holds Tryd.pinned (OpenSpec.ofChange fnExactIsOperatorWrong)

/- THE SECOND FORM. 'bulk': how many values and letters a reading holds, each counted each time it is reached (what is shared counts as often as it is met; a slice's spare places count too). A statement '..UptoSaid' is the law's where the arguments, and the package variables that the reading takes, are together of bulk at most 1048576: NARROWER than '..Said'. Prove '..Said' where nothing that the law and all that it calls make is longer than what came in: it says more and counts as full. Else prove '..UptoSaid'. A law counts once. -/
mutual
def uptoBulk {H : Type} : DataW H → Nat
  | .lit (.string bytes) => bytes.length + 1
  | .lit _ => 1
  | .nil => 1
  | .ptr d => uptoBulk d + 1
  | .slice elems spare => uptoBulkAll elems + uptoBulkAll spare + 1
  | .agg parts => uptoBulkAll parts + 1
  | .iface _ d => uptoBulk d + 1
  | .map entries => uptoBulkEntries entries + 1
  | .held _ => 1
def uptoBulkAll {H : Type} : List (DataW H) → Nat
  | [] => 0
  | d :: r => uptoBulk d + uptoBulkAll r
def uptoBulkEntries {H : Type} : List (Lit × DataW H) → Nat
  | [] => 0
  | x :: r => uptoBulkEntry x + uptoBulkEntries r
def uptoBulkEntry {H : Type} : Lit × DataW H → Nat
  | (.string bytes, d) => bytes.length + uptoBulk d + 1
  | (_, d) => uptoBulk d + 1
 end
def uptoSmall : (H : Type) → List (DataW H) → Bool := fun _ ds => decide (uptoBulkAll ds ≤ 1048576)
def OpenSpec.upto (s : _root_.Go.ChangeSpec) : _root_.Go.OpenSpec := { _root_.Go.OpenSpec.ofChange s with cond := some uptoSmall }

/-- 'laws.FnExactCodeName', WHERE WHAT IT READS IS OF BULK AT MOST 1048576: true; the input reads as it did. -/
def fnExactCodeNameUptoRow : OpenClaim := { program := "ytmlefiickbafbaadoor", sum := "d1e8589bd50dbd670d719109ed6215795479a1cc71982c0fc8241a491b91d82f", func := "loop.example/g00873/laws.FnExactCodeName", spec := "fnExactCodeName", named := ["loop.example/g00873/impl.codeNames"], apart := false, laid := [("loop.example/g00873/impl.codeNames", laid_loop_example_g00873_impl_codeNames)], narrowed := true }
def FnExactCodeNameUptoSaid : Prop := fnExactCodeNameUptoRow.holds Tryd.pinned (OpenSpec.upto fnExactCodeNameSpec)

/-- 'laws.FnExactSplitLines', WHERE WHAT IT READS IS OF BULK AT MOST 1048576: true; the input reads as it did. -/
def fnExactSplitLinesUptoRow : OpenClaim := { program := "ytmlefiickbafbaadoor", sum := "d1e8589bd50dbd670d719109ed6215795479a1cc71982c0fc8241a491b91d82f", func := "loop.example/g00873/laws.FnExactSplitLines", spec := "fnExactSplitLines", inPlace := ["internal/bytealg.CountString", "internal/bytealg.IndexByteString", "internal/bytealg.IndexString"], named := ["unicode/utf8.first", "unicode/utf8.acceptRanges", "internal/bytealg.MaxLen"], apart := false, laid := [("unicode/utf8.acceptRanges", laid_unicode_utf8_acceptRanges), ("unicode/utf8.first", laid_unicode_utf8_first)], narrowed := true }
def FnExactSplitLinesUptoSaid : Prop := fnExactSplitLinesUptoRow.holds Tryd.pinned (OpenSpec.upto fnExactSplitLinesSpec)

/-- 'laws.FnExactValidSource', WHERE WHAT IT READS IS OF BULK AT MOST 1048576: true; the input reads as it did. -/
def fnExactValidSourceUptoRow : OpenClaim := { program := "ytmlefiickbafbaadoor", sum := "d1e8589bd50dbd670d719109ed6215795479a1cc71982c0fc8241a491b91d82f", func := "loop.example/g00873/laws.FnExactValidSource", spec := "fnExactValidSource", inPlace := ["internal/bytealg.CountString", "internal/bytealg.IndexByteString", "internal/bytealg.IndexString"], named := ["unicode/utf8.first", "unicode/utf8.acceptRanges", "internal/bytealg.MaxLen"], apart := false, laid := [("unicode/utf8.acceptRanges", laid_unicode_utf8_acceptRanges), ("unicode/utf8.first", laid_unicode_utf8_first)], narrowed := true }
def FnExactValidSourceUptoSaid : Prop := fnExactValidSourceUptoRow.holds Tryd.pinned (OpenSpec.upto fnExactValidSourceSpec)

/-- 'laws.FnExactIsBlankLine', WHERE WHAT IT READS IS OF BULK AT MOST 1048576: true; the input reads as it did. -/
def fnExactIsBlankLineUptoRow : OpenClaim := { program := "ytmlefiickbafbaadoor", sum := "d1e8589bd50dbd670d719109ed6215795479a1cc71982c0fc8241a491b91d82f", func := "loop.example/g00873/laws.FnExactIsBlankLine", spec := "fnExactIsBlankLine", inPlace := ["internal/bytealg.IndexByteString", "internal/bytealg.IndexString"], named := ["unicode/utf8.first", "unicode/utf8.acceptRanges", "internal/bytealg.MaxLen"], apart := false, laid := [("unicode/utf8.acceptRanges", laid_unicode_utf8_acceptRanges), ("unicode/utf8.first", laid_unicode_utf8_first)], narrowed := true }
def FnExactIsBlankLineUptoSaid : Prop := fnExactIsBlankLineUptoRow.holds Tryd.pinned (OpenSpec.upto fnExactIsBlankLineSpec)

/-- 'laws.FnExactLogicalLines', WHERE WHAT IT READS IS OF BULK AT MOST 1048576: true; the input reads as it did. -/
def fnExactLogicalLinesUptoRow : OpenClaim := { program := "ytmlefiickbafbaadoor", sum := "d1e8589bd50dbd670d719109ed6215795479a1cc71982c0fc8241a491b91d82f", func := "loop.example/g00873/laws.FnExactLogicalLines", spec := "fnExactLogicalLines", inPlace := ["internal/bytealg.CountString", "internal/bytealg.IndexByteString", "internal/bytealg.IndexString"], named := ["unicode/utf8.first", "unicode/utf8.acceptRanges", "internal/bytealg.MaxLen"], apart := false, laid := [("unicode/utf8.acceptRanges", laid_unicode_utf8_acceptRanges), ("unicode/utf8.first", laid_unicode_utf8_first)], narrowed := true }
def FnExactLogicalLinesUptoSaid : Prop := fnExactLogicalLinesUptoRow.holds Tryd.pinned (OpenSpec.upto fnExactLogicalLinesSpec)

/-- 'laws.FnLines', WHERE WHAT IT READS IS OF BULK AT MOST 1048576: true; the input reads as it did. -/
def fnLinesUptoRow : OpenClaim := { program := "ytmlefiickbafbaadoor", sum := "d1e8589bd50dbd670d719109ed6215795479a1cc71982c0fc8241a491b91d82f", func := "loop.example/g00873/laws.FnLines", spec := "fnLines", inPlace := ["internal/bytealg.CountString", "internal/bytealg.IndexByteString", "internal/bytealg.IndexString"], unfollowed := true, recurses := true, named := ["unicode/utf8.first", "unicode/utf8.acceptRanges", "internal/bytealg.MaxLen"], apart := false, laid := [("unicode/utf8.acceptRanges", laid_unicode_utf8_acceptRanges), ("unicode/utf8.first", laid_unicode_utf8_first)], narrowed := true }
def FnLinesUptoSaid : Prop := fnLinesUptoRow.holds Tryd.pinned (OpenSpec.upto fnLinesSpec)

/-- 'laws.FnExactIsOperator', WHERE WHAT IT READS IS OF BULK AT MOST 1048576: true; the input reads as it did. -/
def fnExactIsOperatorUptoRow : OpenClaim := { program := "ytmlefiickbafbaadoor", sum := "d1e8589bd50dbd670d719109ed6215795479a1cc71982c0fc8241a491b91d82f", func := "loop.example/g00873/laws.FnExactIsOperator", spec := "fnExactIsOperator", named := ["loop.example/g00873/impl.byteClasses"], apart := false, laid := [("loop.example/g00873/impl.byteClasses", laid_loop_example_g00873_impl_byteClasses)], narrowed := true }
def FnExactIsOperatorUptoSaid : Prop := fnExactIsOperatorUptoRow.holds Tryd.pinned (OpenSpec.upto fnExactIsOperatorSpec)

end Rows
end Go.Proofs.YtmlefiickbafbaaDoor
