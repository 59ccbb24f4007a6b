/-
  No cell of these rows narrows 'for every input' (looked for: loops, veiled, ifaces, maps, wideKeys, modest, calm, conditions, laid).
  DERIVED. THE GIVEN ROWS OF THIS SEAT. 4 by the template 'for every input the law returns true; each argument reads behind the call as it read before'; 0 by the template 'total and deterministic' (their statements: YtmlefiickbafbaaTotals.lean).
  GIVEN WITH THE SEED: the statements are not yours to turn. If you find one false, say at which input.
  Laid BY PROGRAM, IN A SANDBOX (cutbox-rows.mjs): the forced cells as the released guide's own fill.sh prints them over the translation 611f674cd97c9421… (all of the seat's roots in one cut). By AI agents, Wed Nov 11 2026. No macro, syntax, notation, axiom, sorry.
-/
import Derived.Test.YtmlefiickbafbaaChecked
import GoSem.Claim
import GoSem.ClaimJoined
import GoSem.ClaimMapViews
import Derived.JoinedTies
import Derived.KernelRfl
namespace Go.Proofs.Ytmlefiickbafbaa
/- THE CELL 'sum', in the pinned program and in every row, IS THE sha256 OF THE DUMP (.gsa) THAT YtmlefiickbafbaaProg.lean LOADS. Nothing in Lean hashes anything: it is a label: what it is worth is what the hold of that sum in a sandbox is worth. -/
noncomputable def Try.pinned : Pinned := { name := "ytmlefiickbafbaa", sum := "611f674cd97c94215d26deeed90907e275da37bc758da0c6048ef78964316520", checked := Try.checked }
namespace Rows
def none {H : Type} : Left H := { results := [], args := [] }

/-- 'laws.FnExactIsComment': WHATEVER THE INPUT: true; the input reads as it did. -/
def fnExactIsCommentSpec : ChangeSpec := { name := "fnExactIsComment", fn := fun _ => fun
  | [d] => { results := [.lit (.bool true)], args := [d] }
  | _ => none }
def fnExactIsCommentRow : OpenClaim := { program := "ytmlefiickbafbaa", sum := "611f674cd97c94215d26deeed90907e275da37bc758da0c6048ef78964316520", func := "loop.example/g00873/laws.FnExactIsComment", spec := "fnExactIsComment", apart := false }
def FnExactIsCommentSaid : Prop := fnExactIsCommentRow.holds Try.pinned (OpenSpec.ofChange fnExactIsCommentSpec)

/-- ITS FALSE NEIGHBOUR: 'it returns false'. Refute it at one input. -/
def fnExactIsCommentWrong : ChangeSpec := { name := "fnExactIsComment", fn := fun _ => fun
  | [d] => { results := [.lit (.bool false)], args := [d] }
  | _ => none }
def FnExactIsCommentWrongFalsely : Prop := fnExactIsCommentRow.holds Try.pinned (OpenSpec.ofChange fnExactIsCommentWrong)

/-- 'laws.FnExactIsContinuation': WHATEVER THE INPUT: true; the input reads as it did. -/
def fnExactIsContinuationSpec : ChangeSpec := { name := "fnExactIsContinuation", fn := fun _ => fun
  | [d] => { results := [.lit (.bool true)], args := [d] }
  | _ => none }
def fnExactIsContinuationRow : OpenClaim := { program := "ytmlefiickbafbaa", sum := "611f674cd97c94215d26deeed90907e275da37bc758da0c6048ef78964316520", func := "loop.example/g00873/laws.FnExactIsContinuation", spec := "fnExactIsContinuation", apart := false }
def FnExactIsContinuationSaid : Prop := fnExactIsContinuationRow.holds Try.pinned (OpenSpec.ofChange fnExactIsContinuationSpec)

/-- ITS FALSE NEIGHBOUR: 'it returns false'. Refute it at one input. -/
def fnExactIsContinuationWrong : ChangeSpec := { name := "fnExactIsContinuation", fn := fun _ => fun
  | [d] => { results := [.lit (.bool false)], args := [d] }
  | _ => none }
def FnExactIsContinuationWrongFalsely : Prop := fnExactIsContinuationRow.holds Try.pinned (OpenSpec.ofChange fnExactIsContinuationWrong)

/-- 'laws.FnExactSplitStatements': WHATEVER THE INPUT: true; the input reads as it did. -/
def fnExactSplitStatementsSpec : ChangeSpec := { name := "fnExactSplitStatements", fn := fun _ => fun
  | [d] => { results := [.lit (.bool true)], args := [d] }
  | _ => none }
def fnExactSplitStatementsRow : OpenClaim := { program := "ytmlefiickbafbaa", sum := "611f674cd97c94215d26deeed90907e275da37bc758da0c6048ef78964316520", func := "loop.example/g00873/laws.FnExactSplitStatements", spec := "fnExactSplitStatements", inPlace := ["internal/bytealg.IndexByteString"], apart := false }
def FnExactSplitStatementsSaid : Prop := fnExactSplitStatementsRow.holds Try.pinned (OpenSpec.ofChange fnExactSplitStatementsSpec)

/-- ITS FALSE NEIGHBOUR: 'it returns false'. Refute it at one input. -/
def fnExactSplitStatementsWrong : ChangeSpec := { name := "fnExactSplitStatements", fn := fun _ => fun
  | [d] => { results := [.lit (.bool false)], args := [d] }
  | _ => none }
def FnExactSplitStatementsWrongFalsely : Prop := fnExactSplitStatementsRow.holds Try.pinned (OpenSpec.ofChange fnExactSplitStatementsWrong)

/-- 'laws.FnExactJoinLines': WHATEVER THE INPUT: true; the input reads as it did. -/
def fnExactJoinLinesSpec : ChangeSpec := { name := "fnExactJoinLines", fn := fun _ => fun
  | [d] => { results := [.lit (.bool true)], args := [d] }
  | _ => none }
def fnExactJoinLinesRow : OpenClaim := { program := "ytmlefiickbafbaa", sum := "611f674cd97c94215d26deeed90907e275da37bc758da0c6048ef78964316520", func := "loop.example/g00873/laws.FnExactJoinLines", spec := "fnExactJoinLines", unfollowed := true, recurses := true, apart := false }
def FnExactJoinLinesSaid : Prop := fnExactJoinLinesRow.holds Try.pinned (OpenSpec.ofChange fnExactJoinLinesSpec)

/-- ITS FALSE NEIGHBOUR: 'it returns false'. Refute it at one input. -/
def fnExactJoinLinesWrong : ChangeSpec := { name := "fnExactJoinLines", fn := fun _ => fun
  | [d] => { results := [.lit (.bool false)], args := [d] }
  | _ => none }
def FnExactJoinLinesWrongFalsely : Prop := fnExactJoinLinesRow.holds Try.pinned (OpenSpec.ofChange fnExactJoinLinesWrong)

/- THE SECOND FORM. 'bulk': how many values and letters a reading holds, each counted each time it is reached (what is shared counts as often as it is met; a slice's spare places count too). A statement '..UptoSaid' is the law's where the arguments, and the package variables that the reading takes, are together of bulk at most 1048576: NARROWER than '..Said'. Prove '..Said' where nothing that the law and all that it calls make is longer than what came in: it says more and counts as full. Else prove '..UptoSaid'. A law counts once. -/
mutual
def uptoBulk {H : Type} : DataW H → Nat
  | .lit (.string bytes) => bytes.length + 1
  | .lit _ => 1
  | .nil => 1
  | .ptr d => uptoBulk d + 1
  | .slice elems spare => uptoBulkAll elems + uptoBulkAll spare + 1
  | .agg parts => uptoBulkAll parts + 1
  | .iface _ d => uptoBulk d + 1
  | .map entries => uptoBulkEntries entries + 1
  | .held _ => 1
def uptoBulkAll {H : Type} : List (DataW H) → Nat
  | [] => 0
  | d :: r => uptoBulk d + uptoBulkAll r
def uptoBulkEntries {H : Type} : List (Lit × DataW H) → Nat
  | [] => 0
  | x :: r => uptoBulkEntry x + uptoBulkEntries r
def uptoBulkEntry {H : Type} : Lit × DataW H → Nat
  | (.string bytes, d) => bytes.length + uptoBulk d + 1
  | (_, d) => uptoBulk d + 1
 end
def uptoSmall : (H : Type) → List (DataW H) → Bool := fun _ ds => decide (uptoBulkAll ds ≤ 1048576)
def OpenSpec.upto (s : _root_.Go.ChangeSpec) : _root_.Go.OpenSpec := { _root_.Go.OpenSpec.ofChange s with cond := some uptoSmall }

/-- 'laws.FnExactIsComment', WHERE WHAT IT READS IS OF BULK AT MOST 1048576: true; the input reads as it did. -/
def fnExactIsCommentUptoRow : OpenClaim := { program := "ytmlefiickbafbaa", sum := "611f674cd97c94215d26deeed90907e275da37bc758da0c6048ef78964316520", func := "loop.example/g00873/laws.FnExactIsComment", spec := "fnExactIsComment", apart := false, narrowed := true }
def FnExactIsCommentUptoSaid : Prop := fnExactIsCommentUptoRow.holds Try.pinned (OpenSpec.upto fnExactIsCommentSpec)

/-- 'laws.FnExactIsContinuation', WHERE WHAT IT READS IS OF BULK AT MOST 1048576: true; the input reads as it did. -/
def fnExactIsContinuationUptoRow : OpenClaim := { program := "ytmlefiickbafbaa", sum := "611f674cd97c94215d26deeed90907e275da37bc758da0c6048ef78964316520", func := "loop.example/g00873/laws.FnExactIsContinuation", spec := "fnExactIsContinuation", apart := false, narrowed := true }
def FnExactIsContinuationUptoSaid : Prop := fnExactIsContinuationUptoRow.holds Try.pinned (OpenSpec.upto fnExactIsContinuationSpec)

/-- 'laws.FnExactSplitStatements', WHERE WHAT IT READS IS OF BULK AT MOST 1048576: true; the input reads as it did. -/
def fnExactSplitStatementsUptoRow : OpenClaim := { program := "ytmlefiickbafbaa", sum := "611f674cd97c94215d26deeed90907e275da37bc758da0c6048ef78964316520", func := "loop.example/g00873/laws.FnExactSplitStatements", spec := "fnExactSplitStatements", inPlace := ["internal/bytealg.IndexByteString"], apart := false, narrowed := true }
def FnExactSplitStatementsUptoSaid : Prop := fnExactSplitStatementsUptoRow.holds Try.pinned (OpenSpec.upto fnExactSplitStatementsSpec)

/-- 'laws.FnExactJoinLines', WHERE WHAT IT READS IS OF BULK AT MOST 1048576: true; the input reads as it did. -/
def fnExactJoinLinesUptoRow : OpenClaim := { program := "ytmlefiickbafbaa", sum := "611f674cd97c94215d26deeed90907e275da37bc758da0c6048ef78964316520", func := "loop.example/g00873/laws.FnExactJoinLines", spec := "fnExactJoinLines", unfollowed := true, recurses := true, apart := false, narrowed := true }
def FnExactJoinLinesUptoSaid : Prop := fnExactJoinLinesUptoRow.holds Try.pinned (OpenSpec.upto fnExactJoinLinesSpec)

end Rows
end Go.Proofs.Ytmlefiickbafbaa
