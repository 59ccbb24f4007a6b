/-
  No cell of these rows narrows 'for every input' (looked for: loops, veiled, ifaces, maps, wideKeys, modest, calm, conditions, laid).
  DERIVED. THE GIVEN ROWS OF THIS SEAT. 4 by the template 'for every input the law returns true; each argument reads behind the call as it read before'; 0 by the template 'total and deterministic' (their statements: YtgagijddbokfhabTotals.lean).
  GIVEN WITH THE SEED: the statements are not yours to turn. If you find one false, say at which input.
  Laid BY PROGRAM, IN A SANDBOX (cutbox-rows.mjs): the forced cells as the released guide's own fill.sh prints them over the translation 1b12f251f2a13a28… (all of the seat's roots in one cut). By AI agents, Wed Nov 11 2026. No macro, syntax, notation, axiom, sorry.
-/
import Derived.Test.YtgagijddbokfhabChecked
import GoSem.Claim
import GoSem.ClaimJoined
import GoSem.ClaimMapViews
import Derived.JoinedTies
import Derived.KernelRfl
namespace Go.Proofs.Ytgagijddbokfhab
/- THE CELL 'sum', in the pinned program and in every row, IS THE sha256 OF THE DUMP (.gsa) THAT YtgagijddbokfhabProg.lean LOADS. Nothing in Lean hashes anything: it is a label: what it is worth is what the hold of that sum in a sandbox is worth. -/
noncomputable def Try.pinned : Pinned := { name := "ytgagijddbokfhab", sum := "1b12f251f2a13a285e475a5ea7fd3356afba9af2b8c1871828049a5f0bab1e37", checked := Try.checked }
namespace Rows
def none {H : Type} : Left H := { results := [], args := [] }

/-- 'laws.FnExactReverseText': WHATEVER THE INPUT: true; the input reads as it did. -/
def fnExactReverseTextSpec : ChangeSpec := { name := "fnExactReverseText", fn := fun _ => fun
  | [d] => { results := [.lit (.bool true)], args := [d] }
  | _ => none }
def fnExactReverseTextRow : OpenClaim := { program := "ytgagijddbokfhab", sum := "1b12f251f2a13a285e475a5ea7fd3356afba9af2b8c1871828049a5f0bab1e37", func := "loop.example/g00873/laws.FnExactReverseText", spec := "fnExactReverseText", apart := false }
def FnExactReverseTextSaid : Prop := fnExactReverseTextRow.holds Try.pinned (OpenSpec.ofChange fnExactReverseTextSpec)

/-- ITS FALSE NEIGHBOUR: 'it returns false'. Refute it at one input. -/
def fnExactReverseTextWrong : ChangeSpec := { name := "fnExactReverseText", fn := fun _ => fun
  | [d] => { results := [.lit (.bool false)], args := [d] }
  | _ => none }
def FnExactReverseTextWrongFalsely : Prop := fnExactReverseTextRow.holds Try.pinned (OpenSpec.ofChange fnExactReverseTextWrong)

/-- 'laws.FnExactTranslateText': WHATEVER THE INPUT: true; the input reads as it did. -/
def fnExactTranslateTextSpec : ChangeSpec := { name := "fnExactTranslateText", fn := fun _ => fun
  | [d1, d2, d3] => { results := [.lit (.bool true)], args := [d1, d2, d3] }
  | _ => none }
def fnExactTranslateTextRow : OpenClaim := { program := "ytgagijddbokfhab", sum := "1b12f251f2a13a285e475a5ea7fd3356afba9af2b8c1871828049a5f0bab1e37", func := "loop.example/g00873/laws.FnExactTranslateText", spec := "fnExactTranslateText", apart := false }
def FnExactTranslateTextSaid : Prop := fnExactTranslateTextRow.holds Try.pinned (OpenSpec.ofChange fnExactTranslateTextSpec)

/-- ITS FALSE NEIGHBOUR: 'it returns false'. Refute it at one input. -/
def fnExactTranslateTextWrong : ChangeSpec := { name := "fnExactTranslateText", fn := fun _ => fun
  | [d1, d2, d3] => { results := [.lit (.bool false)], args := [d1, d2, d3] }
  | _ => none }
def FnExactTranslateTextWrongFalsely : Prop := fnExactTranslateTextRow.holds Try.pinned (OpenSpec.ofChange fnExactTranslateTextWrong)

/-- 'laws.FnExactPadText': WHATEVER THE INPUT: true; the input reads as it did. -/
def fnExactPadTextSpec : ChangeSpec := { name := "fnExactPadText", fn := fun _ => fun
  | [d1, d2, d3, d4] => { results := [.lit (.bool true)], args := [d1, d2, d3, d4] }
  | _ => none }
def fnExactPadTextRow : OpenClaim := { program := "ytgagijddbokfhab", sum := "1b12f251f2a13a285e475a5ea7fd3356afba9af2b8c1871828049a5f0bab1e37", func := "loop.example/g00873/laws.FnExactPadText", spec := "fnExactPadText", inPlace := ["internal/abi.NoEscape", "internal/bytealg.MakeNoZero"], apart := false }
def FnExactPadTextSaid : Prop := fnExactPadTextRow.holds Try.pinned (OpenSpec.ofChange fnExactPadTextSpec)

/-- ITS FALSE NEIGHBOUR: 'it returns false'. Refute it at one input. -/
def fnExactPadTextWrong : ChangeSpec := { name := "fnExactPadText", fn := fun _ => fun
  | [d1, d2, d3, d4] => { results := [.lit (.bool false)], args := [d1, d2, d3, d4] }
  | _ => none }
def FnExactPadTextWrongFalsely : Prop := fnExactPadTextRow.holds Try.pinned (OpenSpec.ofChange fnExactPadTextWrong)

/-- 'laws.FnTranslate': WHATEVER THE INPUT: true; the input reads as it did. -/
def fnTranslateSpec : ChangeSpec := { name := "fnTranslate", fn := fun _ => fun
  | [d] => { results := [.lit (.bool true)], args := [d] }
  | _ => none }
def fnTranslateRow : OpenClaim := { program := "ytgagijddbokfhab", sum := "1b12f251f2a13a285e475a5ea7fd3356afba9af2b8c1871828049a5f0bab1e37", func := "loop.example/g00873/laws.FnTranslate", spec := "fnTranslate", apart := false }
def FnTranslateSaid : Prop := fnTranslateRow.holds Try.pinned (OpenSpec.ofChange fnTranslateSpec)

/-- ITS FALSE NEIGHBOUR: 'it returns false'. Refute it at one input. -/
def fnTranslateWrong : ChangeSpec := { name := "fnTranslate", fn := fun _ => fun
  | [d] => { results := [.lit (.bool false)], args := [d] }
  | _ => none }
def FnTranslateWrongFalsely : Prop := fnTranslateRow.holds Try.pinned (OpenSpec.ofChange fnTranslateWrong)

/- THE SECOND FORM. 'bulk': how many values and letters a reading holds, each counted each time it is reached (what is shared counts as often as it is met; a slice's spare places count too). A statement '..UptoSaid' is the law's where the arguments, and the package variables that the reading takes, are together of bulk at most 1048576: NARROWER than '..Said'. Prove '..Said' where nothing that the law and all that it calls make is longer than what came in: it says more and counts as full. Else prove '..UptoSaid'. A law counts once. -/
mutual
def uptoBulk {H : Type} : DataW H → Nat
  | .lit (.string bytes) => bytes.length + 1
  | .lit _ => 1
  | .nil => 1
  | .ptr d => uptoBulk d + 1
  | .slice elems spare => uptoBulkAll elems + uptoBulkAll spare + 1
  | .agg parts => uptoBulkAll parts + 1
  | .iface _ d => uptoBulk d + 1
  | .map entries => uptoBulkEntries entries + 1
  | .held _ => 1
def uptoBulkAll {H : Type} : List (DataW H) → Nat
  | [] => 0
  | d :: r => uptoBulk d + uptoBulkAll r
def uptoBulkEntries {H : Type} : List (Lit × DataW H) → Nat
  | [] => 0
  | x :: r => uptoBulkEntry x + uptoBulkEntries r
def uptoBulkEntry {H : Type} : Lit × DataW H → Nat
  | (.string bytes, d) => bytes.length + uptoBulk d + 1
  | (_, d) => uptoBulk d + 1
 end
def uptoSmall : (H : Type) → List (DataW H) → Bool := fun _ ds => decide (uptoBulkAll ds ≤ 1048576)
def OpenSpec.upto (s : _root_.Go.ChangeSpec) : _root_.Go.OpenSpec := { _root_.Go.OpenSpec.ofChange s with cond := some uptoSmall }

/-- 'laws.FnExactReverseText', WHERE WHAT IT READS IS OF BULK AT MOST 1048576: true; the input reads as it did. -/
def fnExactReverseTextUptoRow : OpenClaim := { program := "ytgagijddbokfhab", sum := "1b12f251f2a13a285e475a5ea7fd3356afba9af2b8c1871828049a5f0bab1e37", func := "loop.example/g00873/laws.FnExactReverseText", spec := "fnExactReverseText", apart := false, narrowed := true }
def FnExactReverseTextUptoSaid : Prop := fnExactReverseTextUptoRow.holds Try.pinned (OpenSpec.upto fnExactReverseTextSpec)

/-- 'laws.FnExactTranslateText', WHERE WHAT IT READS IS OF BULK AT MOST 1048576: true; the input reads as it did. -/
def fnExactTranslateTextUptoRow : OpenClaim := { program := "ytgagijddbokfhab", sum := "1b12f251f2a13a285e475a5ea7fd3356afba9af2b8c1871828049a5f0bab1e37", func := "loop.example/g00873/laws.FnExactTranslateText", spec := "fnExactTranslateText", apart := false, narrowed := true }
def FnExactTranslateTextUptoSaid : Prop := fnExactTranslateTextUptoRow.holds Try.pinned (OpenSpec.upto fnExactTranslateTextSpec)

/-- 'laws.FnExactPadText', WHERE WHAT IT READS IS OF BULK AT MOST 1048576: true; the input reads as it did. -/
def fnExactPadTextUptoRow : OpenClaim := { program := "ytgagijddbokfhab", sum := "1b12f251f2a13a285e475a5ea7fd3356afba9af2b8c1871828049a5f0bab1e37", func := "loop.example/g00873/laws.FnExactPadText", spec := "fnExactPadText", inPlace := ["internal/abi.NoEscape", "internal/bytealg.MakeNoZero"], apart := false, narrowed := true }
def FnExactPadTextUptoSaid : Prop := fnExactPadTextUptoRow.holds Try.pinned (OpenSpec.upto fnExactPadTextSpec)

/-- 'laws.FnTranslate', WHERE WHAT IT READS IS OF BULK AT MOST 1048576: true; the input reads as it did. -/
def fnTranslateUptoRow : OpenClaim := { program := "ytgagijddbokfhab", sum := "1b12f251f2a13a285e475a5ea7fd3356afba9af2b8c1871828049a5f0bab1e37", func := "loop.example/g00873/laws.FnTranslate", spec := "fnTranslate", apart := false, narrowed := true }
def FnTranslateUptoSaid : Prop := fnTranslateUptoRow.holds Try.pinned (OpenSpec.upto fnTranslateSpec)

end Rows
end Go.Proofs.Ytgagijddbokfhab
