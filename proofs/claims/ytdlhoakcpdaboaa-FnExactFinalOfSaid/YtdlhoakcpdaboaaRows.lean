/-
  No cell of these rows narrows 'for every input' (looked for: loops, veiled, ifaces, maps, wideKeys, modest, calm, conditions, laid).
  DERIVED. THE GIVEN ROWS OF THIS SEAT. 7 by the template 'for every input the law returns true; each argument reads behind the call as it read before'; 0 by the template 'total and deterministic' (their statements: YtdlhoakcpdaboaaTotals.lean).
  GIVEN WITH THE SEED: the statements are not yours to turn. If you find one false, say at which input.
  Laid BY PROGRAM, IN A SANDBOX (cutbox-rows.mjs): the forced cells as the released guide's own fill.sh prints them over the translation 7119dbaad6b7b498… (all of the seat's roots in one cut). By AI agents, Wed Nov 11 2026. No macro, syntax, notation, axiom, sorry.
-/
import Derived.Test.YtdlhoakcpdaboaaChecked
import GoSem.Claim
import GoSem.ClaimJoined
import GoSem.ClaimMapViews
import Derived.JoinedTies
import Derived.KernelRfl
namespace Go.Proofs.Ytdlhoakcpdaboaa
/- THE CELL 'sum', in the pinned program and in every row, IS THE sha256 OF THE DUMP (.gsa) THAT YtdlhoakcpdaboaaProg.lean LOADS. Nothing in Lean hashes anything: it is a label: what it is worth is what the hold of that sum in a sandbox is worth. -/
noncomputable def Try.pinned : Pinned := { name := "ytdlhoakcpdaboaa", sum := "7119dbaad6b7b498e57274ccdc0dfc7d809b80a2b81cfd517fbab263d18a69dc", checked := Try.checked }
namespace Rows
def none {H : Type} : Left H := { results := [], args := [] }

/-- 'laws.FnExactBeforeMatch': WHATEVER THE INPUT: true; the input reads as it did. -/
def fnExactBeforeMatchSpec : ChangeSpec := { name := "fnExactBeforeMatch", fn := fun _ => fun
  | [d1, d2] => { results := [.lit (.bool true)], args := [d1, d2] }
  | _ => none }
def fnExactBeforeMatchRow : OpenClaim := { program := "ytdlhoakcpdaboaa", sum := "7119dbaad6b7b498e57274ccdc0dfc7d809b80a2b81cfd517fbab263d18a69dc", func := "loop.example/g00873/laws.FnExactBeforeMatch", spec := "fnExactBeforeMatch", apart := false }
def FnExactBeforeMatchSaid : Prop := fnExactBeforeMatchRow.holds Try.pinned (OpenSpec.ofChange fnExactBeforeMatchSpec)

/-- ITS FALSE NEIGHBOUR: 'it returns false'. Refute it at one input. -/
def fnExactBeforeMatchWrong : ChangeSpec := { name := "fnExactBeforeMatch", fn := fun _ => fun
  | [d1, d2] => { results := [.lit (.bool false)], args := [d1, d2] }
  | _ => none }
def FnExactBeforeMatchWrongFalsely : Prop := fnExactBeforeMatchRow.holds Try.pinned (OpenSpec.ofChange fnExactBeforeMatchWrong)

/-- 'laws.FnExactAfterMatch': WHATEVER THE INPUT: true; the input reads as it did. -/
def fnExactAfterMatchSpec : ChangeSpec := { name := "fnExactAfterMatch", fn := fun _ => fun
  | [d1, d2] => { results := [.lit (.bool true)], args := [d1, d2] }
  | _ => none }
def fnExactAfterMatchRow : OpenClaim := { program := "ytdlhoakcpdaboaa", sum := "7119dbaad6b7b498e57274ccdc0dfc7d809b80a2b81cfd517fbab263d18a69dc", func := "loop.example/g00873/laws.FnExactAfterMatch", spec := "fnExactAfterMatch", apart := false }
def FnExactAfterMatchSaid : Prop := fnExactAfterMatchRow.holds Try.pinned (OpenSpec.ofChange fnExactAfterMatchSpec)

/-- ITS FALSE NEIGHBOUR: 'it returns false'. Refute it at one input. -/
def fnExactAfterMatchWrong : ChangeSpec := { name := "fnExactAfterMatch", fn := fun _ => fun
  | [d1, d2] => { results := [.lit (.bool false)], args := [d1, d2] }
  | _ => none }
def FnExactAfterMatchWrongFalsely : Prop := fnExactAfterMatchRow.holds Try.pinned (OpenSpec.ofChange fnExactAfterMatchWrong)

/-- 'laws.FnExactReplaceMatch': WHATEVER THE INPUT: true; the input reads as it did. -/
def fnExactReplaceMatchSpec : ChangeSpec := { name := "fnExactReplaceMatch", fn := fun _ => fun
  | [d1, d2, d3] => { results := [.lit (.bool true)], args := [d1, d2, d3] }
  | _ => none }
def fnExactReplaceMatchRow : OpenClaim := { program := "ytdlhoakcpdaboaa", sum := "7119dbaad6b7b498e57274ccdc0dfc7d809b80a2b81cfd517fbab263d18a69dc", func := "loop.example/g00873/laws.FnExactReplaceMatch", spec := "fnExactReplaceMatch", apart := false }
def FnExactReplaceMatchSaid : Prop := fnExactReplaceMatchRow.holds Try.pinned (OpenSpec.ofChange fnExactReplaceMatchSpec)

/-- ITS FALSE NEIGHBOUR: 'it returns false'. Refute it at one input. -/
def fnExactReplaceMatchWrong : ChangeSpec := { name := "fnExactReplaceMatch", fn := fun _ => fun
  | [d1, d2, d3] => { results := [.lit (.bool false)], args := [d1, d2, d3] }
  | _ => none }
def FnExactReplaceMatchWrongFalsely : Prop := fnExactReplaceMatchRow.holds Try.pinned (OpenSpec.ofChange fnExactReplaceMatchWrong)

/-- 'laws.FnExactFinalOf': WHATEVER THE INPUT: true; the input reads as it did. -/
def fnExactFinalOfSpec : ChangeSpec := { name := "fnExactFinalOf", fn := fun _ => fun
  | [d] => { results := [.lit (.bool true)], args := [d] }
  | _ => none }
def fnExactFinalOfRow : OpenClaim := { program := "ytdlhoakcpdaboaa", sum := "7119dbaad6b7b498e57274ccdc0dfc7d809b80a2b81cfd517fbab263d18a69dc", func := "loop.example/g00873/laws.FnExactFinalOf", spec := "fnExactFinalOf", apart := false }
def FnExactFinalOfSaid : Prop := fnExactFinalOfRow.holds Try.pinned (OpenSpec.ofChange fnExactFinalOfSpec)

/-- ITS FALSE NEIGHBOUR: 'it returns false'. Refute it at one input. -/
def fnExactFinalOfWrong : ChangeSpec := { name := "fnExactFinalOf", fn := fun _ => fun
  | [d] => { results := [.lit (.bool false)], args := [d] }
  | _ => none }
def FnExactFinalOfWrongFalsely : Prop := fnExactFinalOfRow.holds Try.pinned (OpenSpec.ofChange fnExactFinalOfWrong)

/-- 'laws.FnExactAssignmentsOf': WHATEVER THE INPUT: true; the input reads as it did. -/
def fnExactAssignmentsOfSpec : ChangeSpec := { name := "fnExactAssignmentsOf", fn := fun _ => fun
  | [d] => { results := [.lit (.bool true)], args := [d] }
  | _ => none }
def fnExactAssignmentsOfRow : OpenClaim := { program := "ytdlhoakcpdaboaa", sum := "7119dbaad6b7b498e57274ccdc0dfc7d809b80a2b81cfd517fbab263d18a69dc", func := "loop.example/g00873/laws.FnExactAssignmentsOf", spec := "fnExactAssignmentsOf", unfollowed := true, recurses := true, leaving := true, apart := false }
def FnExactAssignmentsOfSaid : Prop := fnExactAssignmentsOfRow.holds Try.pinned (OpenSpec.ofChange fnExactAssignmentsOfSpec)

/-- ITS FALSE NEIGHBOUR: 'it returns false'. Refute it at one input. -/
def fnExactAssignmentsOfWrong : ChangeSpec := { name := "fnExactAssignmentsOf", fn := fun _ => fun
  | [d] => { results := [.lit (.bool false)], args := [d] }
  | _ => none }
def FnExactAssignmentsOfWrongFalsely : Prop := fnExactAssignmentsOfRow.holds Try.pinned (OpenSpec.ofChange fnExactAssignmentsOfWrong)

/-- 'laws.FnExactImmediateOf': WHATEVER THE INPUT: true; the input reads as it did. -/
def fnExactImmediateOfSpec : ChangeSpec := { name := "fnExactImmediateOf", fn := fun _ => fun
  | [d] => { results := [.lit (.bool true)], args := [d] }
  | _ => none }
def fnExactImmediateOfRow : OpenClaim := { program := "ytdlhoakcpdaboaa", sum := "7119dbaad6b7b498e57274ccdc0dfc7d809b80a2b81cfd517fbab263d18a69dc", func := "loop.example/g00873/laws.FnExactImmediateOf", spec := "fnExactImmediateOf", unfollowed := true, recurses := true, leaving := true, apart := false }
def FnExactImmediateOfSaid : Prop := fnExactImmediateOfRow.holds Try.pinned (OpenSpec.ofChange fnExactImmediateOfSpec)

/-- ITS FALSE NEIGHBOUR: 'it returns false'. Refute it at one input. -/
def fnExactImmediateOfWrong : ChangeSpec := { name := "fnExactImmediateOf", fn := fun _ => fun
  | [d] => { results := [.lit (.bool false)], args := [d] }
  | _ => none }
def FnExactImmediateOfWrongFalsely : Prop := fnExactImmediateOfRow.holds Try.pinned (OpenSpec.ofChange fnExactImmediateOfWrong)

/-- 'laws.FnCaptures': WHATEVER THE INPUT: true; the input reads as it did. -/
def fnCapturesSpec : ChangeSpec := { name := "fnCaptures", fn := fun _ => fun
  | [d] => { results := [.lit (.bool true)], args := [d] }
  | _ => none }
def fnCapturesRow : OpenClaim := { program := "ytdlhoakcpdaboaa", sum := "7119dbaad6b7b498e57274ccdc0dfc7d809b80a2b81cfd517fbab263d18a69dc", func := "loop.example/g00873/laws.FnCaptures", spec := "fnCaptures", unfollowed := true, recurses := true, leaving := true, apart := false }
def FnCapturesSaid : Prop := fnCapturesRow.holds Try.pinned (OpenSpec.ofChange fnCapturesSpec)

/-- ITS FALSE NEIGHBOUR: 'it returns false'. Refute it at one input. -/
def fnCapturesWrong : ChangeSpec := { name := "fnCaptures", fn := fun _ => fun
  | [d] => { results := [.lit (.bool false)], args := [d] }
  | _ => none }
def FnCapturesWrongFalsely : Prop := fnCapturesRow.holds Try.pinned (OpenSpec.ofChange fnCapturesWrong)

/- THE SECOND FORM. 'bulk': how many values and letters a reading holds, each counted each time it is reached (what is shared counts as often as it is met; a slice's spare places count too). A statement '..UptoSaid' is the law's where the arguments, and the package variables that the reading takes, are together of bulk at most 1048576: NARROWER than '..Said'. Prove '..Said' where nothing that the law and all that it calls make is longer than what came in: it says more and counts as full. Else prove '..UptoSaid'. A law counts once. -/
mutual
def uptoBulk {H : Type} : DataW H → Nat
  | .lit (.string bytes) => bytes.length + 1
  | .lit _ => 1
  | .nil => 1
  | .ptr d => uptoBulk d + 1
  | .slice elems spare => uptoBulkAll elems + uptoBulkAll spare + 1
  | .agg parts => uptoBulkAll parts + 1
  | .iface _ d => uptoBulk d + 1
  | .map entries => uptoBulkEntries entries + 1
  | .held _ => 1
def uptoBulkAll {H : Type} : List (DataW H) → Nat
  | [] => 0
  | d :: r => uptoBulk d + uptoBulkAll r
def uptoBulkEntries {H : Type} : List (Lit × DataW H) → Nat
  | [] => 0
  | x :: r => uptoBulkEntry x + uptoBulkEntries r
def uptoBulkEntry {H : Type} : Lit × DataW H → Nat
  | (.string bytes, d) => bytes.length + uptoBulk d + 1
  | (_, d) => uptoBulk d + 1
 end
def uptoSmall : (H : Type) → List (DataW H) → Bool := fun _ ds => decide (uptoBulkAll ds ≤ 1048576)
def OpenSpec.upto (s : _root_.Go.ChangeSpec) : _root_.Go.OpenSpec := { _root_.Go.OpenSpec.ofChange s with cond := some uptoSmall }

/-- 'laws.FnExactBeforeMatch', WHERE WHAT IT READS IS OF BULK AT MOST 1048576: true; the input reads as it did. -/
def fnExactBeforeMatchUptoRow : OpenClaim := { program := "ytdlhoakcpdaboaa", sum := "7119dbaad6b7b498e57274ccdc0dfc7d809b80a2b81cfd517fbab263d18a69dc", func := "loop.example/g00873/laws.FnExactBeforeMatch", spec := "fnExactBeforeMatch", apart := false, narrowed := true }
def FnExactBeforeMatchUptoSaid : Prop := fnExactBeforeMatchUptoRow.holds Try.pinned (OpenSpec.upto fnExactBeforeMatchSpec)

/-- 'laws.FnExactAfterMatch', WHERE WHAT IT READS IS OF BULK AT MOST 1048576: true; the input reads as it did. -/
def fnExactAfterMatchUptoRow : OpenClaim := { program := "ytdlhoakcpdaboaa", sum := "7119dbaad6b7b498e57274ccdc0dfc7d809b80a2b81cfd517fbab263d18a69dc", func := "loop.example/g00873/laws.FnExactAfterMatch", spec := "fnExactAfterMatch", apart := false, narrowed := true }
def FnExactAfterMatchUptoSaid : Prop := fnExactAfterMatchUptoRow.holds Try.pinned (OpenSpec.upto fnExactAfterMatchSpec)

/-- 'laws.FnExactReplaceMatch', WHERE WHAT IT READS IS OF BULK AT MOST 1048576: true; the input reads as it did. -/
def fnExactReplaceMatchUptoRow : OpenClaim := { program := "ytdlhoakcpdaboaa", sum := "7119dbaad6b7b498e57274ccdc0dfc7d809b80a2b81cfd517fbab263d18a69dc", func := "loop.example/g00873/laws.FnExactReplaceMatch", spec := "fnExactReplaceMatch", apart := false, narrowed := true }
def FnExactReplaceMatchUptoSaid : Prop := fnExactReplaceMatchUptoRow.holds Try.pinned (OpenSpec.upto fnExactReplaceMatchSpec)

/-- 'laws.FnExactFinalOf', WHERE WHAT IT READS IS OF BULK AT MOST 1048576: true; the input reads as it did. -/
def fnExactFinalOfUptoRow : OpenClaim := { program := "ytdlhoakcpdaboaa", sum := "7119dbaad6b7b498e57274ccdc0dfc7d809b80a2b81cfd517fbab263d18a69dc", func := "loop.example/g00873/laws.FnExactFinalOf", spec := "fnExactFinalOf", apart := false, narrowed := true }
def FnExactFinalOfUptoSaid : Prop := fnExactFinalOfUptoRow.holds Try.pinned (OpenSpec.upto fnExactFinalOfSpec)

/-- 'laws.FnExactAssignmentsOf', WHERE WHAT IT READS IS OF BULK AT MOST 1048576: true; the input reads as it did. -/
def fnExactAssignmentsOfUptoRow : OpenClaim := { program := "ytdlhoakcpdaboaa", sum := "7119dbaad6b7b498e57274ccdc0dfc7d809b80a2b81cfd517fbab263d18a69dc", func := "loop.example/g00873/laws.FnExactAssignmentsOf", spec := "fnExactAssignmentsOf", unfollowed := true, recurses := true, leaving := true, apart := false, narrowed := true }
def FnExactAssignmentsOfUptoSaid : Prop := fnExactAssignmentsOfUptoRow.holds Try.pinned (OpenSpec.upto fnExactAssignmentsOfSpec)

/-- 'laws.FnExactImmediateOf', WHERE WHAT IT READS IS OF BULK AT MOST 1048576: true; the input reads as it did. -/
def fnExactImmediateOfUptoRow : OpenClaim := { program := "ytdlhoakcpdaboaa", sum := "7119dbaad6b7b498e57274ccdc0dfc7d809b80a2b81cfd517fbab263d18a69dc", func := "loop.example/g00873/laws.FnExactImmediateOf", spec := "fnExactImmediateOf", unfollowed := true, recurses := true, leaving := true, apart := false, narrowed := true }
def FnExactImmediateOfUptoSaid : Prop := fnExactImmediateOfUptoRow.holds Try.pinned (OpenSpec.upto fnExactImmediateOfSpec)

/-- 'laws.FnCaptures', WHERE WHAT IT READS IS OF BULK AT MOST 1048576: true; the input reads as it did. -/
def fnCapturesUptoRow : OpenClaim := { program := "ytdlhoakcpdaboaa", sum := "7119dbaad6b7b498e57274ccdc0dfc7d809b80a2b81cfd517fbab263d18a69dc", func := "loop.example/g00873/laws.FnCaptures", spec := "fnCaptures", unfollowed := true, recurses := true, leaving := true, apart := false, narrowed := true }
def FnCapturesUptoSaid : Prop := fnCapturesUptoRow.holds Try.pinned (OpenSpec.upto fnCapturesSpec)

end Rows
end Go.Proofs.Ytdlhoakcpdaboaa
