/-
  NARROWER THAN 'FOR EVERY INPUT', by the rows' own cells (each row's printed sentence says how): FnExactValidPattern: loops, laid · FnExactValidIns: laid · FnExactValidEnv: loops, laid · FnExactLookupNamed: loops, laid · FnExactCatOf: loops, laid · FnExactAltOf: loops, laid · FnExactDeferredNames: loops, laid.
  DERIVED. THE GIVEN ROWS OF THIS SEAT. 7 by the template 'for every input the law returns true; each argument reads behind the call as it read before'; 0 by the template 'total and deterministic' (their statements: YtjeiiljdhnmofaaDoorTotals.lean).
  GIVEN WITH THE SEED: the statements are not yours to turn. If you find one false, say at which input.
  Laid BY PROGRAM, IN A SANDBOX (cutbox-rows.mjs): the forced cells as the released guide's own fill.sh prints them over the translation 1818882853d920f8… (all of the seat's roots in one cut). By AI agents, Wed Nov 11 2026. No macro, syntax, notation, axiom, sorry.
-/
import Derived.Test.YtjeiiljdhnmofaaDoorChecked
import GoSem.Claim
import GoSem.ClaimJoined
import GoSem.ClaimMapViews
import Derived.JoinedTies
import Derived.KernelRfl
namespace Go.Proofs.YtjeiiljdhnmofaaDoor
/- THE CELL 'sum', in the pinned program and in every row, IS THE sha256 OF THE DUMP (.gsa) THAT YtjeiiljdhnmofaaDoorProg.lean LOADS. Nothing in Lean hashes anything: it is a label: what it is worth is what the hold of that sum in a sandbox is worth. -/
noncomputable def Tryd.pinned : Pinned := { name := "ytjeiiljdhnmofaadoor", sum := "1818882853d920f84024e00d519dfc3803e1e0d86c4ec899f204f4fc66b25686", checked := Tryd.checked }
namespace Rows
def none {H : Type} : Left H := { results := [], args := [] }

/- WHAT THE LISTED PACKAGE-LEVEL VARIABLES READ AS WHEN THE CALL BEGINS. Each datum BY PROGRAM (the guide's laid-datum.mjs) off the statement by which the dump's own 'gosem.cut.vars' lays the variable. In a bare row this is a premise. The card (YtjeiiljdhnmofaaDoorCards.lean) ties it to the program's text. -/
def laid_loop_example_g00873_impl_byteClasses {H : Type} : DataW H := .agg [.lit (.int .u8 0), .lit (.int .u8 0), .lit (.int .u8 0), .lit (.int .u8 0), .lit (.int .u8 0), .lit (.int .u8 0), .lit (.int .u8 0), .lit (.int .u8 0), .lit (.int .u8 0), .lit (.int .u8 0), .lit (.int .u8 0), .lit (.int .u8 0), .lit (.int .u8 0), .lit (.int .u8 0), .lit (.int .u8 0), .lit (.int .u8 0), .lit (.int .u8 0), .lit (.int .u8 0), .lit (.int .u8 0), .lit (.int .u8 0), .lit (.int .u8 0), .lit (.int .u8 0), .lit (.int .u8 0), .lit (.int .u8 0), .lit (.int .u8 0), .lit (.int .u8 0), .lit (.int .u8 0), .lit (.int .u8 0), .lit (.int .u8 0), .lit (.int .u8 0), .lit (.int .u8 0), .lit (.int .u8 0), .lit (.int .u8 0), .lit (.int .u8 0), .lit (.int .u8 3), .lit (.int .u8 0), .lit (.int .u8 4), .lit (.int .u8 0), .lit (.int .u8 0), .lit (.int .u8 3), .lit (.int .u8 5), .lit (.int .u8 6), .lit (.int .u8 4), .lit (.int .u8 4), .lit (.int .u8 9), .lit (.int .u8 4), .lit (.int .u8 4), .lit (.int .u8 4), .lit (.int .u8 2), .lit (.int .u8 2), .lit (.int .u8 2), .lit (.int .u8 2), .lit (.int .u8 2), .lit (.int .u8 2), .lit (.int .u8 2), .lit (.int .u8 2), .lit (.int .u8 2), .lit (.int .u8 2), .lit (.int .u8 10), .lit (.int .u8 0), .lit (.int .u8 7), .lit (.int .u8 4), .lit (.int .u8 8), .lit (.int .u8 0), .lit (.int .u8 4), .lit (.int .u8 1), .lit (.int .u8 1), .lit (.int .u8 1), .lit (.int .u8 1), .lit (.int .u8 1), .lit (.int .u8 1), .lit (.int .u8 1), .lit (.int .u8 1), .lit (.int .u8 1), .lit (.int .u8 1), .lit (.int .u8 1), .lit (.int .u8 1), .lit (.int .u8 1), .lit (.int .u8 1), .lit (.int .u8 1), .lit (.int .u8 1), .lit (.int .u8 1), .lit (.int .u8 1), .lit (.int .u8 1), .lit (.int .u8 1), .lit (.int .u8 1), .lit (.int .u8 1), .lit (.int .u8 1), .lit (.int .u8 1), .lit (.int .u8 1), .lit (.int .u8 1), .lit (.int .u8 0), .lit (.int .u8 0), .lit (.int .u8 0), .lit (.int .u8 0), .lit (.int .u8 11), .lit (.int .u8 0), .lit (.int .u8 1), .lit (.int .u8 1), .lit (.int .u8 1), .lit (.int .u8 1), .lit (.int .u8 1), .lit (.int .u8 1), .lit (.int .u8 1), .lit (.int .u8 1), .lit (.int .u8 1), .lit (.int .u8 1), .lit (.int .u8 1), .lit (.int .u8 1), .lit (.int .u8 1), .lit (.int .u8 1), .lit (.int .u8 1), .lit (.int .u8 1), .lit (.int .u8 1), .lit (.int .u8 1), .lit (.int .u8 1), .lit (.int .u8 1), .lit (.int .u8 1), .lit (.int .u8 1), .lit (.int .u8 1), .lit (.int .u8 1), .lit (.int .u8 1), .lit (.int .u8 1), .lit (.int .u8 0), .lit (.int .u8 4), .lit (.int .u8 0), .lit (.int .u8 0), .lit (.int .u8 0)]
def laid_loop_example_g00873_impl_patternForms {H : Type} : DataW H := .agg [.agg [.lit (.string []), .lit (.string [])], .agg [.lit (.string []), .lit (.string [76])], .agg [.lit (.string [97, 110, 121]), .lit (.string [76])], .agg [.lit (.string [110, 111, 116, 97, 110, 121]), .lit (.string [76])], .agg [.lit (.string [115, 112, 97, 110]), .lit (.string [76])], .agg [.lit (.string [98, 114, 101, 97, 107]), .lit (.string [76])], .agg [.lit (.string [108, 101, 110]), .lit (.string [78])], .agg [.lit (.string [112, 111, 115]), .lit (.string [78])], .agg [.lit (.string [114, 112, 111, 115]), .lit (.string [78])], .agg [.lit (.string [116, 97, 98]), .lit (.string [78])], .agg [.lit (.string [114, 116, 97, 98]), .lit (.string [78])], .agg [.lit (.string [114, 101, 109]), .lit (.string [])], .agg [.lit (.string [97, 114, 98]), .lit (.string [])], .agg [.lit (.string [98, 97, 108]), .lit (.string [])], .agg [.lit (.string [102, 101, 110, 99, 101]), .lit (.string [])], .agg [.lit (.string [97, 98, 111, 114, 116]), .lit (.string [])], .agg [.lit (.string [102, 97, 105, 108]), .lit (.string [])], .agg [.lit (.string [115, 117, 99, 99, 101, 101, 100]), .lit (.string [])], .agg [.lit (.string [97, 108, 116]), .lit (.string [80, 80])], .agg [.lit (.string [99, 97, 116]), .lit (.string [80, 80])], .agg [.lit (.string [97, 114, 98, 110, 111]), .lit (.string [80])], .agg [.lit (.string [99, 111, 110, 100]), .lit (.string [80, 88])], .agg [.lit (.string [110, 111, 119]), .lit (.string [80, 88])], .agg [.lit (.string [99, 117, 114, 115, 111, 114]), .lit (.string [88])], .agg [.lit (.string [100, 101, 102, 101, 114]), .lit (.string [88])]]
def laid_loop_example_g00873_impl_controlForms {H : Type} : DataW H := .agg [.agg [.lit (.string [115, 116, 101, 112]), .lit (.string [])], .agg [.lit (.string [99, 104, 111, 105, 99, 101]), .lit (.string [78])], .agg [.lit (.string [106, 117, 109, 112]), .lit (.string [78])], .agg [.lit (.string [109, 97, 114, 107]), .lit (.string [])], .agg [.lit (.string [99, 111, 110, 100]), .lit (.string [88])], .agg [.lit (.string [110, 111, 119]), .lit (.string [88])], .agg [.lit (.string [108, 111, 111, 112]), .lit (.string [78])], .agg [.lit (.string [114, 101, 116, 117, 114, 110]), .lit (.string [])], .agg [.lit (.string [101, 110, 100]), .lit (.string [])]]

/-- 'laws.FnExactValidPattern': WHATEVER THE INPUT: true; the input reads as it did. -/
def fnExactValidPatternSpec : ChangeSpec := { name := "fnExactValidPattern", vars := ["loop.example/g00873/impl.patternForms", "loop.example/g00873/impl.byteClasses"], fn := fun _ => fun
  | [d, g1, g2] => { results := [.lit (.bool true)], args := [d], vars := [g1, g2] }
  | _ => none }
def fnExactValidPatternRow : OpenClaim := { program := "ytjeiiljdhnmofaadoor", sum := "1818882853d920f84024e00d519dfc3803e1e0d86c4ec899f204f4fc66b25686", func := "loop.example/g00873/laws.FnExactValidPattern", spec := "fnExactValidPattern", inPlace := ["internal/bytealg.CountString", "internal/bytealg.IndexByteString", "internal/bytealg.IndexString"], unfollowed := true, recurses := true, named := ["loop.example/g00873/impl.patternForms", "internal/bytealg.MaxLen", "loop.example/g00873/impl.byteClasses"], loops := true, apart := false, laid := [("loop.example/g00873/impl.byteClasses", laid_loop_example_g00873_impl_byteClasses), ("loop.example/g00873/impl.patternForms", laid_loop_example_g00873_impl_patternForms)] }
def FnExactValidPatternSaid : Prop := fnExactValidPatternRow.holds Tryd.pinned (OpenSpec.ofChange fnExactValidPatternSpec)

/-- ITS FALSE NEIGHBOUR: 'it returns false'. Refute it at one input. -/
def fnExactValidPatternWrong : ChangeSpec := { name := "fnExactValidPattern", vars := ["loop.example/g00873/impl.patternForms", "loop.example/g00873/impl.byteClasses"], fn := fun _ => fun
  | [d, g1, g2] => { results := [.lit (.bool false)], args := [d], vars := [g1, g2] }
  | _ => none }
def FnExactValidPatternWrongFalsely : Prop := fnExactValidPatternRow.holds Tryd.pinned (OpenSpec.ofChange fnExactValidPatternWrong)

/-- 'laws.FnExactValidIns': WHATEVER THE INPUT: true; the input reads as it did. -/
def fnExactValidInsSpec : ChangeSpec := { name := "fnExactValidIns", vars := ["loop.example/g00873/impl.patternForms", "loop.example/g00873/impl.byteClasses", "loop.example/g00873/impl.controlForms"], fn := fun _ => fun
  | [d, g1, g2, g3] => { results := [.lit (.bool true)], args := [d], vars := [g1, g2, g3] }
  | _ => none }
def fnExactValidInsRow : OpenClaim := { program := "ytjeiiljdhnmofaadoor", sum := "1818882853d920f84024e00d519dfc3803e1e0d86c4ec899f204f4fc66b25686", func := "loop.example/g00873/laws.FnExactValidIns", spec := "fnExactValidIns", inPlace := ["internal/bytealg.CountString", "internal/bytealg.IndexByteString", "internal/bytealg.IndexString"], named := ["loop.example/g00873/impl.patternForms", "internal/bytealg.MaxLen", "loop.example/g00873/impl.byteClasses", "loop.example/g00873/impl.controlForms"], apart := false, laid := [("loop.example/g00873/impl.byteClasses", laid_loop_example_g00873_impl_byteClasses), ("loop.example/g00873/impl.patternForms", laid_loop_example_g00873_impl_patternForms), ("loop.example/g00873/impl.controlForms", laid_loop_example_g00873_impl_controlForms)] }
def FnExactValidInsSaid : Prop := fnExactValidInsRow.holds Tryd.pinned (OpenSpec.ofChange fnExactValidInsSpec)

/-- ITS FALSE NEIGHBOUR: 'it returns false'. Refute it at one input. -/
def fnExactValidInsWrong : ChangeSpec := { name := "fnExactValidIns", vars := ["loop.example/g00873/impl.patternForms", "loop.example/g00873/impl.byteClasses", "loop.example/g00873/impl.controlForms"], fn := fun _ => fun
  | [d, g1, g2, g3] => { results := [.lit (.bool false)], args := [d], vars := [g1, g2, g3] }
  | _ => none }
def FnExactValidInsWrongFalsely : Prop := fnExactValidInsRow.holds Tryd.pinned (OpenSpec.ofChange fnExactValidInsWrong)

/-- 'laws.FnExactValidEnv': WHATEVER THE INPUT: true; the input reads as it did. -/
def fnExactValidEnvSpec : ChangeSpec := { name := "fnExactValidEnv", vars := ["loop.example/g00873/impl.byteClasses", "loop.example/g00873/impl.patternForms"], fn := fun _ => fun
  | [d, g1, g2] => { results := [.lit (.bool true)], args := [d], vars := [g1, g2] }
  | _ => none }
def fnExactValidEnvRow : OpenClaim := { program := "ytjeiiljdhnmofaadoor", sum := "1818882853d920f84024e00d519dfc3803e1e0d86c4ec899f204f4fc66b25686", func := "loop.example/g00873/laws.FnExactValidEnv", spec := "fnExactValidEnv", inPlace := ["internal/bytealg.CountString", "internal/bytealg.IndexByteString", "internal/bytealg.IndexString"], unfollowed := true, recurses := true, named := ["loop.example/g00873/impl.byteClasses", "loop.example/g00873/impl.patternForms", "internal/bytealg.MaxLen"], loops := true, apart := false, laid := [("loop.example/g00873/impl.byteClasses", laid_loop_example_g00873_impl_byteClasses), ("loop.example/g00873/impl.patternForms", laid_loop_example_g00873_impl_patternForms)] }
def FnExactValidEnvSaid : Prop := fnExactValidEnvRow.holds Tryd.pinned (OpenSpec.ofChange fnExactValidEnvSpec)

/-- ITS FALSE NEIGHBOUR: 'it returns false'. Refute it at one input. -/
def fnExactValidEnvWrong : ChangeSpec := { name := "fnExactValidEnv", vars := ["loop.example/g00873/impl.byteClasses", "loop.example/g00873/impl.patternForms"], fn := fun _ => fun
  | [d, g1, g2] => { results := [.lit (.bool false)], args := [d], vars := [g1, g2] }
  | _ => none }
def FnExactValidEnvWrongFalsely : Prop := fnExactValidEnvRow.holds Tryd.pinned (OpenSpec.ofChange fnExactValidEnvWrong)

/-- 'laws.FnExactLookupNamed': WHATEVER THE INPUT: true; the input reads as it did. -/
def fnExactLookupNamedSpec : ChangeSpec := { name := "fnExactLookupNamed", vars := ["loop.example/g00873/impl.byteClasses", "loop.example/g00873/impl.patternForms"], fn := fun _ => fun
  | [d1, d2, g1, g2] => { results := [.lit (.bool true)], args := [d1, d2], vars := [g1, g2] }
  | _ => none }
def fnExactLookupNamedRow : OpenClaim := { program := "ytjeiiljdhnmofaadoor", sum := "1818882853d920f84024e00d519dfc3803e1e0d86c4ec899f204f4fc66b25686", func := "loop.example/g00873/laws.FnExactLookupNamed", spec := "fnExactLookupNamed", inPlace := ["internal/bytealg.CountString", "internal/bytealg.IndexByteString", "internal/bytealg.IndexString"], unfollowed := true, recurses := true, named := ["loop.example/g00873/impl.byteClasses", "loop.example/g00873/impl.patternForms", "internal/bytealg.MaxLen"], loops := true, apart := false, laid := [("loop.example/g00873/impl.byteClasses", laid_loop_example_g00873_impl_byteClasses), ("loop.example/g00873/impl.patternForms", laid_loop_example_g00873_impl_patternForms)] }
def FnExactLookupNamedSaid : Prop := fnExactLookupNamedRow.holds Tryd.pinned (OpenSpec.ofChange fnExactLookupNamedSpec)

/-- ITS FALSE NEIGHBOUR: 'it returns false'. Refute it at one input. -/
def fnExactLookupNamedWrong : ChangeSpec := { name := "fnExactLookupNamed", vars := ["loop.example/g00873/impl.byteClasses", "loop.example/g00873/impl.patternForms"], fn := fun _ => fun
  | [d1, d2, g1, g2] => { results := [.lit (.bool false)], args := [d1, d2], vars := [g1, g2] }
  | _ => none }
def FnExactLookupNamedWrongFalsely : Prop := fnExactLookupNamedRow.holds Tryd.pinned (OpenSpec.ofChange fnExactLookupNamedWrong)

/-- 'laws.FnExactCatOf': WHATEVER THE INPUT: true; the input reads as it did. -/
def fnExactCatOfSpec : ChangeSpec := { name := "fnExactCatOf", vars := ["loop.example/g00873/impl.patternForms", "loop.example/g00873/impl.byteClasses"], fn := fun _ => fun
  | [d, g1, g2] => { results := [.lit (.bool true)], args := [d], vars := [g1, g2] }
  | _ => none }
def fnExactCatOfRow : OpenClaim := { program := "ytjeiiljdhnmofaadoor", sum := "1818882853d920f84024e00d519dfc3803e1e0d86c4ec899f204f4fc66b25686", func := "loop.example/g00873/laws.FnExactCatOf", spec := "fnExactCatOf", inPlace := ["internal/bytealg.CountString", "internal/bytealg.IndexByteString", "internal/bytealg.IndexString"], unfollowed := true, recurses := true, named := ["loop.example/g00873/impl.patternForms", "internal/bytealg.MaxLen", "loop.example/g00873/impl.byteClasses"], loops := true, apart := false, laid := [("loop.example/g00873/impl.byteClasses", laid_loop_example_g00873_impl_byteClasses), ("loop.example/g00873/impl.patternForms", laid_loop_example_g00873_impl_patternForms)] }
def FnExactCatOfSaid : Prop := fnExactCatOfRow.holds Tryd.pinned (OpenSpec.ofChange fnExactCatOfSpec)

/-- ITS FALSE NEIGHBOUR: 'it returns false'. Refute it at one input. -/
def fnExactCatOfWrong : ChangeSpec := { name := "fnExactCatOf", vars := ["loop.example/g00873/impl.patternForms", "loop.example/g00873/impl.byteClasses"], fn := fun _ => fun
  | [d, g1, g2] => { results := [.lit (.bool false)], args := [d], vars := [g1, g2] }
  | _ => none }
def FnExactCatOfWrongFalsely : Prop := fnExactCatOfRow.holds Tryd.pinned (OpenSpec.ofChange fnExactCatOfWrong)

/-- 'laws.FnExactAltOf': WHATEVER THE INPUT: true; the input reads as it did. -/
def fnExactAltOfSpec : ChangeSpec := { name := "fnExactAltOf", vars := ["loop.example/g00873/impl.patternForms", "loop.example/g00873/impl.byteClasses"], fn := fun _ => fun
  | [d, g1, g2] => { results := [.lit (.bool true)], args := [d], vars := [g1, g2] }
  | _ => none }
def fnExactAltOfRow : OpenClaim := { program := "ytjeiiljdhnmofaadoor", sum := "1818882853d920f84024e00d519dfc3803e1e0d86c4ec899f204f4fc66b25686", func := "loop.example/g00873/laws.FnExactAltOf", spec := "fnExactAltOf", inPlace := ["internal/bytealg.CountString", "internal/bytealg.IndexByteString", "internal/bytealg.IndexString"], unfollowed := true, recurses := true, named := ["loop.example/g00873/impl.patternForms", "internal/bytealg.MaxLen", "loop.example/g00873/impl.byteClasses"], loops := true, apart := false, laid := [("loop.example/g00873/impl.byteClasses", laid_loop_example_g00873_impl_byteClasses), ("loop.example/g00873/impl.patternForms", laid_loop_example_g00873_impl_patternForms)] }
def FnExactAltOfSaid : Prop := fnExactAltOfRow.holds Tryd.pinned (OpenSpec.ofChange fnExactAltOfSpec)

/-- ITS FALSE NEIGHBOUR: 'it returns false'. Refute it at one input. -/
def fnExactAltOfWrong : ChangeSpec := { name := "fnExactAltOf", vars := ["loop.example/g00873/impl.patternForms", "loop.example/g00873/impl.byteClasses"], fn := fun _ => fun
  | [d, g1, g2] => { results := [.lit (.bool false)], args := [d], vars := [g1, g2] }
  | _ => none }
def FnExactAltOfWrongFalsely : Prop := fnExactAltOfRow.holds Tryd.pinned (OpenSpec.ofChange fnExactAltOfWrong)

/-- 'laws.FnExactDeferredNames': WHATEVER THE INPUT: true; the input reads as it did. -/
def fnExactDeferredNamesSpec : ChangeSpec := { name := "fnExactDeferredNames", vars := ["loop.example/g00873/impl.patternForms", "loop.example/g00873/impl.byteClasses"], fn := fun _ => fun
  | [d, g1, g2] => { results := [.lit (.bool true)], args := [d], vars := [g1, g2] }
  | _ => none }
def fnExactDeferredNamesRow : OpenClaim := { program := "ytjeiiljdhnmofaadoor", sum := "1818882853d920f84024e00d519dfc3803e1e0d86c4ec899f204f4fc66b25686", func := "loop.example/g00873/laws.FnExactDeferredNames", spec := "fnExactDeferredNames", inPlace := ["internal/bytealg.CountString", "internal/bytealg.IndexByteString", "internal/bytealg.IndexString"], unfollowed := true, recurses := true, named := ["loop.example/g00873/impl.patternForms", "internal/bytealg.MaxLen", "loop.example/g00873/impl.byteClasses"], loops := true, apart := false, laid := [("loop.example/g00873/impl.byteClasses", laid_loop_example_g00873_impl_byteClasses), ("loop.example/g00873/impl.patternForms", laid_loop_example_g00873_impl_patternForms)] }
def FnExactDeferredNamesSaid : Prop := fnExactDeferredNamesRow.holds Tryd.pinned (OpenSpec.ofChange fnExactDeferredNamesSpec)

/-- ITS FALSE NEIGHBOUR: 'it returns false'. Refute it at one input. -/
def fnExactDeferredNamesWrong : ChangeSpec := { name := "fnExactDeferredNames", vars := ["loop.example/g00873/impl.patternForms", "loop.example/g00873/impl.byteClasses"], fn := fun _ => fun
  | [d, g1, g2] => { results := [.lit (.bool false)], args := [d], vars := [g1, g2] }
  | _ => none }
def FnExactDeferredNamesWrongFalsely : Prop := fnExactDeferredNamesRow.holds Tryd.pinned (OpenSpec.ofChange fnExactDeferredNamesWrong)

/- THE SECOND FORM. 'bulk': how many values and letters a reading holds, each counted each time it is reached (what is shared counts as often as it is met; a slice's spare places count too). A statement '..UptoSaid' is the law's where the arguments, and the package variables that the reading takes, are together of bulk at most 1048576: NARROWER than '..Said'. Prove '..Said' where nothing that the law and all that it calls make is longer than what came in: it says more and counts as full. Else prove '..UptoSaid'. A law counts once. -/
mutual
def uptoBulk {H : Type} : DataW H → Nat
  | .lit (.string bytes) => bytes.length + 1
  | .lit _ => 1
  | .nil => 1
  | .ptr d => uptoBulk d + 1
  | .slice elems spare => uptoBulkAll elems + uptoBulkAll spare + 1
  | .agg parts => uptoBulkAll parts + 1
  | .iface _ d => uptoBulk d + 1
  | .map entries => uptoBulkEntries entries + 1
  | .held _ => 1
def uptoBulkAll {H : Type} : List (DataW H) → Nat
  | [] => 0
  | d :: r => uptoBulk d + uptoBulkAll r
def uptoBulkEntries {H : Type} : List (Lit × DataW H) → Nat
  | [] => 0
  | x :: r => uptoBulkEntry x + uptoBulkEntries r
def uptoBulkEntry {H : Type} : Lit × DataW H → Nat
  | (.string bytes, d) => bytes.length + uptoBulk d + 1
  | (_, d) => uptoBulk d + 1
 end
def uptoSmall : (H : Type) → List (DataW H) → Bool := fun _ ds => decide (uptoBulkAll ds ≤ 1048576)
def OpenSpec.upto (s : _root_.Go.ChangeSpec) : _root_.Go.OpenSpec := { _root_.Go.OpenSpec.ofChange s with cond := some uptoSmall }

/-- 'laws.FnExactValidPattern', WHERE WHAT IT READS IS OF BULK AT MOST 1048576: true; the input reads as it did. -/
def fnExactValidPatternUptoRow : OpenClaim := { program := "ytjeiiljdhnmofaadoor", sum := "1818882853d920f84024e00d519dfc3803e1e0d86c4ec899f204f4fc66b25686", func := "loop.example/g00873/laws.FnExactValidPattern", spec := "fnExactValidPattern", inPlace := ["internal/bytealg.CountString", "internal/bytealg.IndexByteString", "internal/bytealg.IndexString"], unfollowed := true, recurses := true, named := ["loop.example/g00873/impl.patternForms", "internal/bytealg.MaxLen", "loop.example/g00873/impl.byteClasses"], loops := true, apart := false, laid := [("loop.example/g00873/impl.byteClasses", laid_loop_example_g00873_impl_byteClasses), ("loop.example/g00873/impl.patternForms", laid_loop_example_g00873_impl_patternForms)], narrowed := true }
def FnExactValidPatternUptoSaid : Prop := fnExactValidPatternUptoRow.holds Tryd.pinned (OpenSpec.upto fnExactValidPatternSpec)

/-- 'laws.FnExactValidIns', WHERE WHAT IT READS IS OF BULK AT MOST 1048576: true; the input reads as it did. -/
def fnExactValidInsUptoRow : OpenClaim := { program := "ytjeiiljdhnmofaadoor", sum := "1818882853d920f84024e00d519dfc3803e1e0d86c4ec899f204f4fc66b25686", func := "loop.example/g00873/laws.FnExactValidIns", spec := "fnExactValidIns", inPlace := ["internal/bytealg.CountString", "internal/bytealg.IndexByteString", "internal/bytealg.IndexString"], named := ["loop.example/g00873/impl.patternForms", "internal/bytealg.MaxLen", "loop.example/g00873/impl.byteClasses", "loop.example/g00873/impl.controlForms"], apart := false, laid := [("loop.example/g00873/impl.byteClasses", laid_loop_example_g00873_impl_byteClasses), ("loop.example/g00873/impl.patternForms", laid_loop_example_g00873_impl_patternForms), ("loop.example/g00873/impl.controlForms", laid_loop_example_g00873_impl_controlForms)], narrowed := true }
def FnExactValidInsUptoSaid : Prop := fnExactValidInsUptoRow.holds Tryd.pinned (OpenSpec.upto fnExactValidInsSpec)

/-- 'laws.FnExactValidEnv', WHERE WHAT IT READS IS OF BULK AT MOST 1048576: true; the input reads as it did. -/
def fnExactValidEnvUptoRow : OpenClaim := { program := "ytjeiiljdhnmofaadoor", sum := "1818882853d920f84024e00d519dfc3803e1e0d86c4ec899f204f4fc66b25686", func := "loop.example/g00873/laws.FnExactValidEnv", spec := "fnExactValidEnv", inPlace := ["internal/bytealg.CountString", "internal/bytealg.IndexByteString", "internal/bytealg.IndexString"], unfollowed := true, recurses := true, named := ["loop.example/g00873/impl.byteClasses", "loop.example/g00873/impl.patternForms", "internal/bytealg.MaxLen"], loops := true, apart := false, laid := [("loop.example/g00873/impl.byteClasses", laid_loop_example_g00873_impl_byteClasses), ("loop.example/g00873/impl.patternForms", laid_loop_example_g00873_impl_patternForms)], narrowed := true }
def FnExactValidEnvUptoSaid : Prop := fnExactValidEnvUptoRow.holds Tryd.pinned (OpenSpec.upto fnExactValidEnvSpec)

/-- 'laws.FnExactLookupNamed', WHERE WHAT IT READS IS OF BULK AT MOST 1048576: true; the input reads as it did. -/
def fnExactLookupNamedUptoRow : OpenClaim := { program := "ytjeiiljdhnmofaadoor", sum := "1818882853d920f84024e00d519dfc3803e1e0d86c4ec899f204f4fc66b25686", func := "loop.example/g00873/laws.FnExactLookupNamed", spec := "fnExactLookupNamed", inPlace := ["internal/bytealg.CountString", "internal/bytealg.IndexByteString", "internal/bytealg.IndexString"], unfollowed := true, recurses := true, named := ["loop.example/g00873/impl.byteClasses", "loop.example/g00873/impl.patternForms", "internal/bytealg.MaxLen"], loops := true, apart := false, laid := [("loop.example/g00873/impl.byteClasses", laid_loop_example_g00873_impl_byteClasses), ("loop.example/g00873/impl.patternForms", laid_loop_example_g00873_impl_patternForms)], narrowed := true }
def FnExactLookupNamedUptoSaid : Prop := fnExactLookupNamedUptoRow.holds Tryd.pinned (OpenSpec.upto fnExactLookupNamedSpec)

/-- 'laws.FnExactCatOf', WHERE WHAT IT READS IS OF BULK AT MOST 1048576: true; the input reads as it did. -/
def fnExactCatOfUptoRow : OpenClaim := { program := "ytjeiiljdhnmofaadoor", sum := "1818882853d920f84024e00d519dfc3803e1e0d86c4ec899f204f4fc66b25686", func := "loop.example/g00873/laws.FnExactCatOf", spec := "fnExactCatOf", inPlace := ["internal/bytealg.CountString", "internal/bytealg.IndexByteString", "internal/bytealg.IndexString"], unfollowed := true, recurses := true, named := ["loop.example/g00873/impl.patternForms", "internal/bytealg.MaxLen", "loop.example/g00873/impl.byteClasses"], loops := true, apart := false, laid := [("loop.example/g00873/impl.byteClasses", laid_loop_example_g00873_impl_byteClasses), ("loop.example/g00873/impl.patternForms", laid_loop_example_g00873_impl_patternForms)], narrowed := true }
def FnExactCatOfUptoSaid : Prop := fnExactCatOfUptoRow.holds Tryd.pinned (OpenSpec.upto fnExactCatOfSpec)

/-- 'laws.FnExactAltOf', WHERE WHAT IT READS IS OF BULK AT MOST 1048576: true; the input reads as it did. -/
def fnExactAltOfUptoRow : OpenClaim := { program := "ytjeiiljdhnmofaadoor", sum := "1818882853d920f84024e00d519dfc3803e1e0d86c4ec899f204f4fc66b25686", func := "loop.example/g00873/laws.FnExactAltOf", spec := "fnExactAltOf", inPlace := ["internal/bytealg.CountString", "internal/bytealg.IndexByteString", "internal/bytealg.IndexString"], unfollowed := true, recurses := true, named := ["loop.example/g00873/impl.patternForms", "internal/bytealg.MaxLen", "loop.example/g00873/impl.byteClasses"], loops := true, apart := false, laid := [("loop.example/g00873/impl.byteClasses", laid_loop_example_g00873_impl_byteClasses), ("loop.example/g00873/impl.patternForms", laid_loop_example_g00873_impl_patternForms)], narrowed := true }
def FnExactAltOfUptoSaid : Prop := fnExactAltOfUptoRow.holds Tryd.pinned (OpenSpec.upto fnExactAltOfSpec)

/-- 'laws.FnExactDeferredNames', WHERE WHAT IT READS IS OF BULK AT MOST 1048576: true; the input reads as it did. -/
def fnExactDeferredNamesUptoRow : OpenClaim := { program := "ytjeiiljdhnmofaadoor", sum := "1818882853d920f84024e00d519dfc3803e1e0d86c4ec899f204f4fc66b25686", func := "loop.example/g00873/laws.FnExactDeferredNames", spec := "fnExactDeferredNames", inPlace := ["internal/bytealg.CountString", "internal/bytealg.IndexByteString", "internal/bytealg.IndexString"], unfollowed := true, recurses := true, named := ["loop.example/g00873/impl.patternForms", "internal/bytealg.MaxLen", "loop.example/g00873/impl.byteClasses"], loops := true, apart := false, laid := [("loop.example/g00873/impl.byteClasses", laid_loop_example_g00873_impl_byteClasses), ("loop.example/g00873/impl.patternForms", laid_loop_example_g00873_impl_patternForms)], narrowed := true }
def FnExactDeferredNamesUptoSaid : Prop := fnExactDeferredNamesUptoRow.holds Tryd.pinned (OpenSpec.upto fnExactDeferredNamesSpec)

end Rows
end Go.Proofs.YtjeiiljdhnmofaaDoor
