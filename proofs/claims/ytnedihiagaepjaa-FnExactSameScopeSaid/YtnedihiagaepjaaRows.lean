/-
  No cell of these rows narrows 'for every input' (looked for: loops, veiled, ifaces, maps, wideKeys, modest, calm, conditions, laid).
  DERIVED. THE GIVEN ROWS OF THIS SEAT. 5 by the template 'for every input the law returns true; each argument reads behind the call as it read before'; 0 by the template 'total and deterministic' (their statements: YtnedihiagaepjaaTotals.lean).
  GIVEN WITH THE SEED: the statements are not yours to turn. If you find one false, say at which input.
  Laid BY PROGRAM, IN A SANDBOX (cutbox-rows.mjs): the forced cells as the released guide's own fill.sh prints them over the translation 2a935d742d47e93f… (all of the seat's roots in one cut). By AI agents, Wed Nov 11 2026. No macro, syntax, notation, axiom, sorry.
-/
import Derived.Test.YtnedihiagaepjaaChecked
import GoSem.Claim
import GoSem.ClaimJoined
import GoSem.ClaimMapViews
import Derived.JoinedTies
import Derived.KernelRfl
namespace Go.Proofs.Ytnedihiagaepjaa
/- THE CELL 'sum', in the pinned program and in every row, IS THE sha256 OF THE DUMP (.gsa) THAT YtnedihiagaepjaaProg.lean LOADS. Nothing in Lean hashes anything: it is a label: what it is worth is what the hold of that sum in a sandbox is worth. -/
noncomputable def Try.pinned : Pinned := { name := "ytnedihiagaepjaa", sum := "2a935d742d47e93f3b48b15fe711dee406d48627309a995265e3bb18164b8c56", checked := Try.checked }
namespace Rows
def none {H : Type} : Left H := { results := [], args := [] }

/-- 'laws.FnExactSameScope': WHATEVER THE INPUT: true; the input reads as it did. -/
def fnExactSameScopeSpec : ChangeSpec := { name := "fnExactSameScope", fn := fun _ => fun
  | [d1, d2] => { results := [.lit (.bool true)], args := [d1, d2] }
  | _ => none }
def fnExactSameScopeRow : OpenClaim := { program := "ytnedihiagaepjaa", sum := "2a935d742d47e93f3b48b15fe711dee406d48627309a995265e3bb18164b8c56", func := "loop.example/g00873/laws.FnExactSameScope", spec := "fnExactSameScope", unfollowed := true, recurses := true, apart := false }
def FnExactSameScopeSaid : Prop := fnExactSameScopeRow.holds Try.pinned (OpenSpec.ofChange fnExactSameScopeSpec)

/-- ITS FALSE NEIGHBOUR: 'it returns false'. Refute it at one input. -/
def fnExactSameScopeWrong : ChangeSpec := { name := "fnExactSameScope", fn := fun _ => fun
  | [d1, d2] => { results := [.lit (.bool false)], args := [d1, d2] }
  | _ => none }
def FnExactSameScopeWrongFalsely : Prop := fnExactSameScopeRow.holds Try.pinned (OpenSpec.ofChange fnExactSameScopeWrong)

/-- 'laws.FnExactValidScope': WHATEVER THE INPUT: true; the input reads as it did. -/
def fnExactValidScopeSpec : ChangeSpec := { name := "fnExactValidScope", fn := fun _ => fun
  | [d] => { results := [.lit (.bool true)], args := [d] }
  | _ => none }
def fnExactValidScopeRow : OpenClaim := { program := "ytnedihiagaepjaa", sum := "2a935d742d47e93f3b48b15fe711dee406d48627309a995265e3bb18164b8c56", func := "loop.example/g00873/laws.FnExactValidScope", spec := "fnExactValidScope", unfollowed := true, recurses := true, apart := false }
def FnExactValidScopeSaid : Prop := fnExactValidScopeRow.holds Try.pinned (OpenSpec.ofChange fnExactValidScopeSpec)

/-- ITS FALSE NEIGHBOUR: 'it returns false'. Refute it at one input. -/
def fnExactValidScopeWrong : ChangeSpec := { name := "fnExactValidScope", fn := fun _ => fun
  | [d] => { results := [.lit (.bool false)], args := [d] }
  | _ => none }
def FnExactValidScopeWrongFalsely : Prop := fnExactValidScopeRow.holds Try.pinned (OpenSpec.ofChange fnExactValidScopeWrong)

/-- 'laws.FnExactFunctionOf': WHATEVER THE INPUT: true; the input reads as it did. -/
def fnExactFunctionOfSpec : ChangeSpec := { name := "fnExactFunctionOf", fn := fun _ => fun
  | [d1, d2] => { results := [.lit (.bool true)], args := [d1, d2] }
  | _ => none }
def fnExactFunctionOfRow : OpenClaim := { program := "ytnedihiagaepjaa", sum := "2a935d742d47e93f3b48b15fe711dee406d48627309a995265e3bb18164b8c56", func := "loop.example/g00873/laws.FnExactFunctionOf", spec := "fnExactFunctionOf", unfollowed := true, recurses := true, apart := false }
def FnExactFunctionOfSaid : Prop := fnExactFunctionOfRow.holds Try.pinned (OpenSpec.ofChange fnExactFunctionOfSpec)

/-- ITS FALSE NEIGHBOUR: 'it returns false'. Refute it at one input. -/
def fnExactFunctionOfWrong : ChangeSpec := { name := "fnExactFunctionOf", fn := fun _ => fun
  | [d1, d2] => { results := [.lit (.bool false)], args := [d1, d2] }
  | _ => none }
def FnExactFunctionOfWrongFalsely : Prop := fnExactFunctionOfRow.holds Try.pinned (OpenSpec.ofChange fnExactFunctionOfWrong)

/-- 'laws.FnExactTypeOf': WHATEVER THE INPUT: true; the input reads as it did. -/
def fnExactTypeOfSpec : ChangeSpec := { name := "fnExactTypeOf", fn := fun _ => fun
  | [d1, d2] => { results := [.lit (.bool true)], args := [d1, d2] }
  | _ => none }
def fnExactTypeOfRow : OpenClaim := { program := "ytnedihiagaepjaa", sum := "2a935d742d47e93f3b48b15fe711dee406d48627309a995265e3bb18164b8c56", func := "loop.example/g00873/laws.FnExactTypeOf", spec := "fnExactTypeOf", unfollowed := true, recurses := true, apart := false }
def FnExactTypeOfSaid : Prop := fnExactTypeOfRow.holds Try.pinned (OpenSpec.ofChange fnExactTypeOfSpec)

/-- ITS FALSE NEIGHBOUR: 'it returns false'. Refute it at one input. -/
def fnExactTypeOfWrong : ChangeSpec := { name := "fnExactTypeOf", fn := fun _ => fun
  | [d1, d2] => { results := [.lit (.bool false)], args := [d1, d2] }
  | _ => none }
def FnExactTypeOfWrongFalsely : Prop := fnExactTypeOfRow.holds Try.pinned (OpenSpec.ofChange fnExactTypeOfWrong)

/-- 'laws.FnExactScopeRoots': WHATEVER THE INPUT: true; the input reads as it did. -/
def fnExactScopeRootsSpec : ChangeSpec := { name := "fnExactScopeRoots", fn := fun _ => fun
  | [d] => { results := [.lit (.bool true)], args := [d] }
  | _ => none }
def fnExactScopeRootsRow : OpenClaim := { program := "ytnedihiagaepjaa", sum := "2a935d742d47e93f3b48b15fe711dee406d48627309a995265e3bb18164b8c56", func := "loop.example/g00873/laws.FnExactScopeRoots", spec := "fnExactScopeRoots", unfollowed := true, recurses := true, apart := false }
def FnExactScopeRootsSaid : Prop := fnExactScopeRootsRow.holds Try.pinned (OpenSpec.ofChange fnExactScopeRootsSpec)

/-- ITS FALSE NEIGHBOUR: 'it returns false'. Refute it at one input. -/
def fnExactScopeRootsWrong : ChangeSpec := { name := "fnExactScopeRoots", fn := fun _ => fun
  | [d] => { results := [.lit (.bool false)], args := [d] }
  | _ => none }
def FnExactScopeRootsWrongFalsely : Prop := fnExactScopeRootsRow.holds Try.pinned (OpenSpec.ofChange fnExactScopeRootsWrong)

/- THE SECOND FORM. 'bulk': how many values and letters a reading holds, each counted each time it is reached (what is shared counts as often as it is met; a slice's spare places count too). A statement '..UptoSaid' is the law's where the arguments, and the package variables that the reading takes, are together of bulk at most 1048576: NARROWER than '..Said'. Prove '..Said' where nothing that the law and all that it calls make is longer than what came in: it says more and counts as full. Else prove '..UptoSaid'. A law counts once. -/
mutual
def uptoBulk {H : Type} : DataW H → Nat
  | .lit (.string bytes) => bytes.length + 1
  | .lit _ => 1
  | .nil => 1
  | .ptr d => uptoBulk d + 1
  | .slice elems spare => uptoBulkAll elems + uptoBulkAll spare + 1
  | .agg parts => uptoBulkAll parts + 1
  | .iface _ d => uptoBulk d + 1
  | .map entries => uptoBulkEntries entries + 1
  | .held _ => 1
def uptoBulkAll {H : Type} : List (DataW H) → Nat
  | [] => 0
  | d :: r => uptoBulk d + uptoBulkAll r
def uptoBulkEntries {H : Type} : List (Lit × DataW H) → Nat
  | [] => 0
  | x :: r => uptoBulkEntry x + uptoBulkEntries r
def uptoBulkEntry {H : Type} : Lit × DataW H → Nat
  | (.string bytes, d) => bytes.length + uptoBulk d + 1
  | (_, d) => uptoBulk d + 1
 end
def uptoSmall : (H : Type) → List (DataW H) → Bool := fun _ ds => decide (uptoBulkAll ds ≤ 1048576)
def OpenSpec.upto (s : _root_.Go.ChangeSpec) : _root_.Go.OpenSpec := { _root_.Go.OpenSpec.ofChange s with cond := some uptoSmall }

/-- 'laws.FnExactSameScope', WHERE WHAT IT READS IS OF BULK AT MOST 1048576: true; the input reads as it did. -/
def fnExactSameScopeUptoRow : OpenClaim := { program := "ytnedihiagaepjaa", sum := "2a935d742d47e93f3b48b15fe711dee406d48627309a995265e3bb18164b8c56", func := "loop.example/g00873/laws.FnExactSameScope", spec := "fnExactSameScope", unfollowed := true, recurses := true, apart := false, narrowed := true }
def FnExactSameScopeUptoSaid : Prop := fnExactSameScopeUptoRow.holds Try.pinned (OpenSpec.upto fnExactSameScopeSpec)

/-- 'laws.FnExactValidScope', WHERE WHAT IT READS IS OF BULK AT MOST 1048576: true; the input reads as it did. -/
def fnExactValidScopeUptoRow : OpenClaim := { program := "ytnedihiagaepjaa", sum := "2a935d742d47e93f3b48b15fe711dee406d48627309a995265e3bb18164b8c56", func := "loop.example/g00873/laws.FnExactValidScope", spec := "fnExactValidScope", unfollowed := true, recurses := true, apart := false, narrowed := true }
def FnExactValidScopeUptoSaid : Prop := fnExactValidScopeUptoRow.holds Try.pinned (OpenSpec.upto fnExactValidScopeSpec)

/-- 'laws.FnExactFunctionOf', WHERE WHAT IT READS IS OF BULK AT MOST 1048576: true; the input reads as it did. -/
def fnExactFunctionOfUptoRow : OpenClaim := { program := "ytnedihiagaepjaa", sum := "2a935d742d47e93f3b48b15fe711dee406d48627309a995265e3bb18164b8c56", func := "loop.example/g00873/laws.FnExactFunctionOf", spec := "fnExactFunctionOf", unfollowed := true, recurses := true, apart := false, narrowed := true }
def FnExactFunctionOfUptoSaid : Prop := fnExactFunctionOfUptoRow.holds Try.pinned (OpenSpec.upto fnExactFunctionOfSpec)

/-- 'laws.FnExactTypeOf', WHERE WHAT IT READS IS OF BULK AT MOST 1048576: true; the input reads as it did. -/
def fnExactTypeOfUptoRow : OpenClaim := { program := "ytnedihiagaepjaa", sum := "2a935d742d47e93f3b48b15fe711dee406d48627309a995265e3bb18164b8c56", func := "loop.example/g00873/laws.FnExactTypeOf", spec := "fnExactTypeOf", unfollowed := true, recurses := true, apart := false, narrowed := true }
def FnExactTypeOfUptoSaid : Prop := fnExactTypeOfUptoRow.holds Try.pinned (OpenSpec.upto fnExactTypeOfSpec)

/-- 'laws.FnExactScopeRoots', WHERE WHAT IT READS IS OF BULK AT MOST 1048576: true; the input reads as it did. -/
def fnExactScopeRootsUptoRow : OpenClaim := { program := "ytnedihiagaepjaa", sum := "2a935d742d47e93f3b48b15fe711dee406d48627309a995265e3bb18164b8c56", func := "loop.example/g00873/laws.FnExactScopeRoots", spec := "fnExactScopeRoots", unfollowed := true, recurses := true, apart := false, narrowed := true }
def FnExactScopeRootsUptoSaid : Prop := fnExactScopeRootsUptoRow.holds Try.pinned (OpenSpec.upto fnExactScopeRootsSpec)

end Rows
end Go.Proofs.Ytnedihiagaepjaa
