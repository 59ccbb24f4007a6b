/-
  NARROWER THAN 'FOR EVERY INPUT', by the rows' own cells (each row's printed sentence says how): FnExactSamePattern: loops · FnExactCountNodes: loops.
  DERIVED. THE GIVEN ROWS OF THIS SEAT. 4 by the template 'for every input the law returns true; each argument reads behind the call as it read before'; 0 by the template 'total and deterministic' (their statements: YtpmbalodbjfjbaaTotals.lean).
  GIVEN WITH THE SEED: the statements are not yours to turn. If you find one false, say at which input.
  Laid BY PROGRAM, IN A SANDBOX (cutbox-rows.mjs): the forced cells as the released guide's own fill.sh prints them over the translation 5b0e625a50056770… (all of the seat's roots in one cut). By AI agents, Wed Nov 11 2026. No macro, syntax, notation, axiom, sorry.
-/
import Derived.Test.YtpmbalodbjfjbaaChecked
import GoSem.Claim
import GoSem.ClaimJoined
import GoSem.ClaimMapViews
import Derived.JoinedTies
import Derived.KernelRfl
namespace Go.Proofs.Ytpmbalodbjfjbaa
/- THE CELL 'sum', in the pinned program and in every row, IS THE sha256 OF THE DUMP (.gsa) THAT YtpmbalodbjfjbaaProg.lean LOADS. Nothing in Lean hashes anything: it is a label: what it is worth is what the hold of that sum in a sandbox is worth. -/
noncomputable def Try.pinned : Pinned := { name := "ytpmbalodbjfjbaa", sum := "5b0e625a500567703d42b8205090d36872ce0b8f826c6731425a5d78edc4247f", checked := Try.checked }
namespace Rows
def none {H : Type} : Left H := { results := [], args := [] }

/-- 'laws.FnExactSamePatternCode': WHATEVER THE INPUT: true; the input reads as it did. -/
def fnExactSamePatternCodeSpec : ChangeSpec := { name := "fnExactSamePatternCode", fn := fun _ => fun
  | [d1, d2] => { results := [.lit (.bool true)], args := [d1, d2] }
  | _ => none }
def fnExactSamePatternCodeRow : OpenClaim := { program := "ytpmbalodbjfjbaa", sum := "5b0e625a500567703d42b8205090d36872ce0b8f826c6731425a5d78edc4247f", func := "loop.example/g00873/laws.FnExactSamePatternCode", spec := "fnExactSamePatternCode", plainKeys := false, apart := false }
def FnExactSamePatternCodeSaid : Prop := fnExactSamePatternCodeRow.holds Try.pinned (OpenSpec.ofChange fnExactSamePatternCodeSpec)

/-- ITS FALSE NEIGHBOUR: 'it returns false'. Refute it at one input. -/
def fnExactSamePatternCodeWrong : ChangeSpec := { name := "fnExactSamePatternCode", fn := fun _ => fun
  | [d1, d2] => { results := [.lit (.bool false)], args := [d1, d2] }
  | _ => none }
def FnExactSamePatternCodeWrongFalsely : Prop := fnExactSamePatternCodeRow.holds Try.pinned (OpenSpec.ofChange fnExactSamePatternCodeWrong)

/-- 'laws.FnExactSameMatcher': WHATEVER THE INPUT: true; the input reads as it did. -/
def fnExactSameMatcherSpec : ChangeSpec := { name := "fnExactSameMatcher", fn := fun _ => fun
  | [d1, d2] => { results := [.lit (.bool true)], args := [d1, d2] }
  | _ => none }
def fnExactSameMatcherRow : OpenClaim := { program := "ytpmbalodbjfjbaa", sum := "5b0e625a500567703d42b8205090d36872ce0b8f826c6731425a5d78edc4247f", func := "loop.example/g00873/laws.FnExactSameMatcher", spec := "fnExactSameMatcher", plainKeys := false, apart := false }
def FnExactSameMatcherSaid : Prop := fnExactSameMatcherRow.holds Try.pinned (OpenSpec.ofChange fnExactSameMatcherSpec)

/-- ITS FALSE NEIGHBOUR: 'it returns false'. Refute it at one input. -/
def fnExactSameMatcherWrong : ChangeSpec := { name := "fnExactSameMatcher", fn := fun _ => fun
  | [d1, d2] => { results := [.lit (.bool false)], args := [d1, d2] }
  | _ => none }
def FnExactSameMatcherWrongFalsely : Prop := fnExactSameMatcherRow.holds Try.pinned (OpenSpec.ofChange fnExactSameMatcherWrong)

/-- 'laws.FnExactSamePattern': WHATEVER THE INPUT: true; the input reads as it did. -/
def fnExactSamePatternSpec : ChangeSpec := { name := "fnExactSamePattern", fn := fun _ => fun
  | [d1, d2] => { results := [.lit (.bool true)], args := [d1, d2] }
  | _ => none }
def fnExactSamePatternRow : OpenClaim := { program := "ytpmbalodbjfjbaa", sum := "5b0e625a500567703d42b8205090d36872ce0b8f826c6731425a5d78edc4247f", func := "loop.example/g00873/laws.FnExactSamePattern", spec := "fnExactSamePattern", recurses := true, loops := true, plainKeys := false, apart := false }
def FnExactSamePatternSaid : Prop := fnExactSamePatternRow.holds Try.pinned (OpenSpec.ofChange fnExactSamePatternSpec)

/-- ITS FALSE NEIGHBOUR: 'it returns false'. Refute it at one input. -/
def fnExactSamePatternWrong : ChangeSpec := { name := "fnExactSamePattern", fn := fun _ => fun
  | [d1, d2] => { results := [.lit (.bool false)], args := [d1, d2] }
  | _ => none }
def FnExactSamePatternWrongFalsely : Prop := fnExactSamePatternRow.holds Try.pinned (OpenSpec.ofChange fnExactSamePatternWrong)

/-- 'laws.FnExactCountNodes': WHATEVER THE INPUT: true; the input reads as it did. -/
def fnExactCountNodesSpec : ChangeSpec := { name := "fnExactCountNodes", fn := fun _ => fun
  | [d] => { results := [.lit (.bool true)], args := [d] }
  | _ => none }
def fnExactCountNodesRow : OpenClaim := { program := "ytpmbalodbjfjbaa", sum := "5b0e625a500567703d42b8205090d36872ce0b8f826c6731425a5d78edc4247f", func := "loop.example/g00873/laws.FnExactCountNodes", spec := "fnExactCountNodes", recurses := true, loops := true, plainKeys := false, apart := false }
def FnExactCountNodesSaid : Prop := fnExactCountNodesRow.holds Try.pinned (OpenSpec.ofChange fnExactCountNodesSpec)

/-- ITS FALSE NEIGHBOUR: 'it returns false'. Refute it at one input. -/
def fnExactCountNodesWrong : ChangeSpec := { name := "fnExactCountNodes", fn := fun _ => fun
  | [d] => { results := [.lit (.bool false)], args := [d] }
  | _ => none }
def FnExactCountNodesWrongFalsely : Prop := fnExactCountNodesRow.holds Try.pinned (OpenSpec.ofChange fnExactCountNodesWrong)

/- THE SECOND FORM. 'bulk': how many values and letters a reading holds, each counted each time it is reached (what is shared counts as often as it is met; a slice's spare places count too). A statement '..UptoSaid' is the law's where the arguments, and the package variables that the reading takes, are together of bulk at most 1048576: NARROWER than '..Said'. Prove '..Said' where nothing that the law and all that it calls make is longer than what came in: it says more and counts as full. Else prove '..UptoSaid'. A law counts once. -/
mutual
def uptoBulk {H : Type} : DataW H → Nat
  | .lit (.string bytes) => bytes.length + 1
  | .lit _ => 1
  | .nil => 1
  | .ptr d => uptoBulk d + 1
  | .slice elems spare => uptoBulkAll elems + uptoBulkAll spare + 1
  | .agg parts => uptoBulkAll parts + 1
  | .iface _ d => uptoBulk d + 1
  | .map entries => uptoBulkEntries entries + 1
  | .held _ => 1
def uptoBulkAll {H : Type} : List (DataW H) → Nat
  | [] => 0
  | d :: r => uptoBulk d + uptoBulkAll r
def uptoBulkEntries {H : Type} : List (Lit × DataW H) → Nat
  | [] => 0
  | x :: r => uptoBulkEntry x + uptoBulkEntries r
def uptoBulkEntry {H : Type} : Lit × DataW H → Nat
  | (.string bytes, d) => bytes.length + uptoBulk d + 1
  | (_, d) => uptoBulk d + 1
 end
def uptoSmall : (H : Type) → List (DataW H) → Bool := fun _ ds => decide (uptoBulkAll ds ≤ 1048576)
def OpenSpec.upto (s : _root_.Go.ChangeSpec) : _root_.Go.OpenSpec := { _root_.Go.OpenSpec.ofChange s with cond := some uptoSmall }

/-- 'laws.FnExactSamePatternCode', WHERE WHAT IT READS IS OF BULK AT MOST 1048576: true; the input reads as it did. -/
def fnExactSamePatternCodeUptoRow : OpenClaim := { program := "ytpmbalodbjfjbaa", sum := "5b0e625a500567703d42b8205090d36872ce0b8f826c6731425a5d78edc4247f", func := "loop.example/g00873/laws.FnExactSamePatternCode", spec := "fnExactSamePatternCode", plainKeys := false, apart := false, narrowed := true }
def FnExactSamePatternCodeUptoSaid : Prop := fnExactSamePatternCodeUptoRow.holds Try.pinned (OpenSpec.upto fnExactSamePatternCodeSpec)

/-- 'laws.FnExactSameMatcher', WHERE WHAT IT READS IS OF BULK AT MOST 1048576: true; the input reads as it did. -/
def fnExactSameMatcherUptoRow : OpenClaim := { program := "ytpmbalodbjfjbaa", sum := "5b0e625a500567703d42b8205090d36872ce0b8f826c6731425a5d78edc4247f", func := "loop.example/g00873/laws.FnExactSameMatcher", spec := "fnExactSameMatcher", plainKeys := false, apart := false, narrowed := true }
def FnExactSameMatcherUptoSaid : Prop := fnExactSameMatcherUptoRow.holds Try.pinned (OpenSpec.upto fnExactSameMatcherSpec)

/-- 'laws.FnExactSamePattern', WHERE WHAT IT READS IS OF BULK AT MOST 1048576: true; the input reads as it did. -/
def fnExactSamePatternUptoRow : OpenClaim := { program := "ytpmbalodbjfjbaa", sum := "5b0e625a500567703d42b8205090d36872ce0b8f826c6731425a5d78edc4247f", func := "loop.example/g00873/laws.FnExactSamePattern", spec := "fnExactSamePattern", recurses := true, loops := true, plainKeys := false, apart := false, narrowed := true }
def FnExactSamePatternUptoSaid : Prop := fnExactSamePatternUptoRow.holds Try.pinned (OpenSpec.upto fnExactSamePatternSpec)

/-- 'laws.FnExactCountNodes', WHERE WHAT IT READS IS OF BULK AT MOST 1048576: true; the input reads as it did. -/
def fnExactCountNodesUptoRow : OpenClaim := { program := "ytpmbalodbjfjbaa", sum := "5b0e625a500567703d42b8205090d36872ce0b8f826c6731425a5d78edc4247f", func := "loop.example/g00873/laws.FnExactCountNodes", spec := "fnExactCountNodes", recurses := true, loops := true, plainKeys := false, apart := false, narrowed := true }
def FnExactCountNodesUptoSaid : Prop := fnExactCountNodesUptoRow.holds Try.pinned (OpenSpec.upto fnExactCountNodesSpec)

end Rows
end Go.Proofs.Ytpmbalodbjfjbaa
