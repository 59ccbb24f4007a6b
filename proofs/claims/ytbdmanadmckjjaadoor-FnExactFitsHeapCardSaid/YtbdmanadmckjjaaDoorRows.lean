/-
  NARROWER THAN 'FOR EVERY INPUT', by the rows' own cells (each row's printed sentence says how): FnExactValidHeap: laid · FnExactFitsHeap: laid · FnExactHeapSize: laid · FnExactValidRoots: laid · FnExactObjectAt: laid · FnExactNewObject: laid · FnExactSetObject: laid.
  DERIVED. THE GIVEN ROWS OF THIS SEAT. 7 by the template 'for every input the law returns true; each argument reads behind the call as it read before'; 0 by the template 'total and deterministic' (their statements: YtbdmanadmckjjaaDoorTotals.lean).
  GIVEN WITH THE SEED: the statements are not yours to turn. If you find one false, say at which input.
  Laid BY PROGRAM, IN A SANDBOX (cutbox-rows.mjs): the forced cells as the released guide's own fill.sh prints them over the translation 10de48bf78564d2c… (all of the seat's roots in one cut). By AI agents, Wed Nov 11 2026. No macro, syntax, notation, axiom, sorry.
-/
import Derived.Test.YtbdmanadmckjjaaDoorChecked
import GoSem.Claim
import GoSem.ClaimJoined
import GoSem.ClaimMapViews
import Derived.JoinedTies
import Derived.KernelRfl
namespace Go.Proofs.YtbdmanadmckjjaaDoor
/- THE CELL 'sum', in the pinned program and in every row, IS THE sha256 OF THE DUMP (.gsa) THAT YtbdmanadmckjjaaDoorProg.lean LOADS. Nothing in Lean hashes anything: it is a label: what it is worth is what the hold of that sum in a sandbox is worth. -/
noncomputable def Tryd.pinned : Pinned := { name := "ytbdmanadmckjjaadoor", sum := "10de48bf78564d2c93432fe357cc8480a27995d57c9994e011d851d43a291c34", checked := Tryd.checked }
namespace Rows
def none {H : Type} : Left H := { results := [], args := [] }

/- WHAT THE LISTED PACKAGE-LEVEL VARIABLES READ AS WHEN THE CALL BEGINS. Each datum BY PROGRAM (the guide's laid-datum.mjs) off the statement by which the dump's own 'gosem.cut.vars' lays the variable. In a bare row this is a premise. The card (YtbdmanadmckjjaaDoorCards.lean) ties it to the program's text. -/
def laid_loop_example_g00873_impl_byteClasses {H : Type} : DataW H := .agg [.lit (.int .u8 0), .lit (.int .u8 0), .lit (.int .u8 0), .lit (.int .u8 0), .lit (.int .u8 0), .lit (.int .u8 0), .lit (.int .u8 0), .lit (.int .u8 0), .lit (.int .u8 0), .lit (.int .u8 0), .lit (.int .u8 0), .lit (.int .u8 0), .lit (.int .u8 0), .lit (.int .u8 0), .lit (.int .u8 0), .lit (.int .u8 0), .lit (.int .u8 0), .lit (.int .u8 0), .lit (.int .u8 0), .lit (.int .u8 0), .lit (.int .u8 0), .lit (.int .u8 0), .lit (.int .u8 0), .lit (.int .u8 0), .lit (.int .u8 0), .lit (.int .u8 0), .lit (.int .u8 0), .lit (.int .u8 0), .lit (.int .u8 0), .lit (.int .u8 0), .lit (.int .u8 0), .lit (.int .u8 0), .lit (.int .u8 0), .lit (.int .u8 0), .lit (.int .u8 3), .lit (.int .u8 0), .lit (.int .u8 4), .lit (.int .u8 0), .lit (.int .u8 0), .lit (.int .u8 3), .lit (.int .u8 5), .lit (.int .u8 6), .lit (.int .u8 4), .lit (.int .u8 4), .lit (.int .u8 9), .lit (.int .u8 4), .lit (.int .u8 4), .lit (.int .u8 4), .lit (.int .u8 2), .lit (.int .u8 2), .lit (.int .u8 2), .lit (.int .u8 2), .lit (.int .u8 2), .lit (.int .u8 2), .lit (.int .u8 2), .lit (.int .u8 2), .lit (.int .u8 2), .lit (.int .u8 2), .lit (.int .u8 10), .lit (.int .u8 0), .lit (.int .u8 7), .lit (.int .u8 4), .lit (.int .u8 8), .lit (.int .u8 0), .lit (.int .u8 4), .lit (.int .u8 1), .lit (.int .u8 1), .lit (.int .u8 1), .lit (.int .u8 1), .lit (.int .u8 1), .lit (.int .u8 1), .lit (.int .u8 1), .lit (.int .u8 1), .lit (.int .u8 1), .lit (.int .u8 1), .lit (.int .u8 1), .lit (.int .u8 1), .lit (.int .u8 1), .lit (.int .u8 1), .lit (.int .u8 1), .lit (.int .u8 1), .lit (.int .u8 1), .lit (.int .u8 1), .lit (.int .u8 1), .lit (.int .u8 1), .lit (.int .u8 1), .lit (.int .u8 1), .lit (.int .u8 1), .lit (.int .u8 1), .lit (.int .u8 1), .lit (.int .u8 1), .lit (.int .u8 0), .lit (.int .u8 0), .lit (.int .u8 0), .lit (.int .u8 0), .lit (.int .u8 11), .lit (.int .u8 0), .lit (.int .u8 1), .lit (.int .u8 1), .lit (.int .u8 1), .lit (.int .u8 1), .lit (.int .u8 1), .lit (.int .u8 1), .lit (.int .u8 1), .lit (.int .u8 1), .lit (.int .u8 1), .lit (.int .u8 1), .lit (.int .u8 1), .lit (.int .u8 1), .lit (.int .u8 1), .lit (.int .u8 1), .lit (.int .u8 1), .lit (.int .u8 1), .lit (.int .u8 1), .lit (.int .u8 1), .lit (.int .u8 1), .lit (.int .u8 1), .lit (.int .u8 1), .lit (.int .u8 1), .lit (.int .u8 1), .lit (.int .u8 1), .lit (.int .u8 1), .lit (.int .u8 1), .lit (.int .u8 0), .lit (.int .u8 4), .lit (.int .u8 0), .lit (.int .u8 0), .lit (.int .u8 0)]

/-- 'laws.FnExactValidHeap': WHATEVER THE INPUT: true; the input reads as it did. -/
def fnExactValidHeapSpec : ChangeSpec := { name := "fnExactValidHeap", vars := ["loop.example/g00873/impl.byteClasses"], fn := fun _ => fun
  | [d, g1] => { results := [.lit (.bool true)], args := [d], vars := [g1] }
  | _ => none }
def fnExactValidHeapRow : OpenClaim := { program := "ytbdmanadmckjjaadoor", sum := "10de48bf78564d2c93432fe357cc8480a27995d57c9994e011d851d43a291c34", func := "loop.example/g00873/laws.FnExactValidHeap", spec := "fnExactValidHeap", unfollowed := true, recurses := true, named := ["loop.example/g00873/impl.byteClasses"], apart := false, laid := [("loop.example/g00873/impl.byteClasses", laid_loop_example_g00873_impl_byteClasses)] }
def FnExactValidHeapSaid : Prop := fnExactValidHeapRow.holds Tryd.pinned (OpenSpec.ofChange fnExactValidHeapSpec)

/-- ITS FALSE NEIGHBOUR: 'it returns false'. Refute it at one input. -/
def fnExactValidHeapWrong : ChangeSpec := { name := "fnExactValidHeap", vars := ["loop.example/g00873/impl.byteClasses"], fn := fun _ => fun
  | [d, g1] => { results := [.lit (.bool false)], args := [d], vars := [g1] }
  | _ => none }
def FnExactValidHeapWrongFalsely : Prop := fnExactValidHeapRow.holds Tryd.pinned (OpenSpec.ofChange fnExactValidHeapWrong)

/-- 'laws.FnExactFitsHeap': WHATEVER THE INPUT: true; the input reads as it did. -/
def fnExactFitsHeapSpec : ChangeSpec := { name := "fnExactFitsHeap", vars := ["loop.example/g00873/impl.byteClasses"], fn := fun _ => fun
  | [d1, d2, g1] => { results := [.lit (.bool true)], args := [d1, d2], vars := [g1] }
  | _ => none }
def fnExactFitsHeapRow : OpenClaim := { program := "ytbdmanadmckjjaadoor", sum := "10de48bf78564d2c93432fe357cc8480a27995d57c9994e011d851d43a291c34", func := "loop.example/g00873/laws.FnExactFitsHeap", spec := "fnExactFitsHeap", unfollowed := true, recurses := true, named := ["loop.example/g00873/impl.byteClasses"], apart := false, laid := [("loop.example/g00873/impl.byteClasses", laid_loop_example_g00873_impl_byteClasses)] }
def FnExactFitsHeapSaid : Prop := fnExactFitsHeapRow.holds Tryd.pinned (OpenSpec.ofChange fnExactFitsHeapSpec)

/-- ITS FALSE NEIGHBOUR: 'it returns false'. Refute it at one input. -/
def fnExactFitsHeapWrong : ChangeSpec := { name := "fnExactFitsHeap", vars := ["loop.example/g00873/impl.byteClasses"], fn := fun _ => fun
  | [d1, d2, g1] => { results := [.lit (.bool false)], args := [d1, d2], vars := [g1] }
  | _ => none }
def FnExactFitsHeapWrongFalsely : Prop := fnExactFitsHeapRow.holds Tryd.pinned (OpenSpec.ofChange fnExactFitsHeapWrong)

/-- 'laws.FnExactHeapSize': WHATEVER THE INPUT: true; the input reads as it did. -/
def fnExactHeapSizeSpec : ChangeSpec := { name := "fnExactHeapSize", vars := ["loop.example/g00873/impl.byteClasses"], fn := fun _ => fun
  | [d, g1] => { results := [.lit (.bool true)], args := [d], vars := [g1] }
  | _ => none }
def fnExactHeapSizeRow : OpenClaim := { program := "ytbdmanadmckjjaadoor", sum := "10de48bf78564d2c93432fe357cc8480a27995d57c9994e011d851d43a291c34", func := "loop.example/g00873/laws.FnExactHeapSize", spec := "fnExactHeapSize", unfollowed := true, recurses := true, named := ["loop.example/g00873/impl.byteClasses"], apart := false, laid := [("loop.example/g00873/impl.byteClasses", laid_loop_example_g00873_impl_byteClasses)] }
def FnExactHeapSizeSaid : Prop := fnExactHeapSizeRow.holds Tryd.pinned (OpenSpec.ofChange fnExactHeapSizeSpec)

/-- ITS FALSE NEIGHBOUR: 'it returns false'. Refute it at one input. -/
def fnExactHeapSizeWrong : ChangeSpec := { name := "fnExactHeapSize", vars := ["loop.example/g00873/impl.byteClasses"], fn := fun _ => fun
  | [d, g1] => { results := [.lit (.bool false)], args := [d], vars := [g1] }
  | _ => none }
def FnExactHeapSizeWrongFalsely : Prop := fnExactHeapSizeRow.holds Tryd.pinned (OpenSpec.ofChange fnExactHeapSizeWrong)

/-- 'laws.FnExactValidRoots': WHATEVER THE INPUT: true; the input reads as it did. -/
def fnExactValidRootsSpec : ChangeSpec := { name := "fnExactValidRoots", vars := ["loop.example/g00873/impl.byteClasses"], fn := fun _ => fun
  | [d1, d2, g1] => { results := [.lit (.bool true)], args := [d1, d2], vars := [g1] }
  | _ => none }
def fnExactValidRootsRow : OpenClaim := { program := "ytbdmanadmckjjaadoor", sum := "10de48bf78564d2c93432fe357cc8480a27995d57c9994e011d851d43a291c34", func := "loop.example/g00873/laws.FnExactValidRoots", spec := "fnExactValidRoots", unfollowed := true, recurses := true, named := ["loop.example/g00873/impl.byteClasses"], apart := false, laid := [("loop.example/g00873/impl.byteClasses", laid_loop_example_g00873_impl_byteClasses)] }
def FnExactValidRootsSaid : Prop := fnExactValidRootsRow.holds Tryd.pinned (OpenSpec.ofChange fnExactValidRootsSpec)

/-- ITS FALSE NEIGHBOUR: 'it returns false'. Refute it at one input. -/
def fnExactValidRootsWrong : ChangeSpec := { name := "fnExactValidRoots", vars := ["loop.example/g00873/impl.byteClasses"], fn := fun _ => fun
  | [d1, d2, g1] => { results := [.lit (.bool false)], args := [d1, d2], vars := [g1] }
  | _ => none }
def FnExactValidRootsWrongFalsely : Prop := fnExactValidRootsRow.holds Tryd.pinned (OpenSpec.ofChange fnExactValidRootsWrong)

/-- 'laws.FnExactObjectAt': WHATEVER THE INPUT: true; the input reads as it did. -/
def fnExactObjectAtSpec : ChangeSpec := { name := "fnExactObjectAt", vars := ["loop.example/g00873/impl.byteClasses"], fn := fun _ => fun
  | [d1, d2, g1] => { results := [.lit (.bool true)], args := [d1, d2], vars := [g1] }
  | _ => none }
def fnExactObjectAtRow : OpenClaim := { program := "ytbdmanadmckjjaadoor", sum := "10de48bf78564d2c93432fe357cc8480a27995d57c9994e011d851d43a291c34", func := "loop.example/g00873/laws.FnExactObjectAt", spec := "fnExactObjectAt", unfollowed := true, recurses := true, named := ["loop.example/g00873/impl.byteClasses"], apart := false, laid := [("loop.example/g00873/impl.byteClasses", laid_loop_example_g00873_impl_byteClasses)] }
def FnExactObjectAtSaid : Prop := fnExactObjectAtRow.holds Tryd.pinned (OpenSpec.ofChange fnExactObjectAtSpec)

/-- ITS FALSE NEIGHBOUR: 'it returns false'. Refute it at one input. -/
def fnExactObjectAtWrong : ChangeSpec := { name := "fnExactObjectAt", vars := ["loop.example/g00873/impl.byteClasses"], fn := fun _ => fun
  | [d1, d2, g1] => { results := [.lit (.bool false)], args := [d1, d2], vars := [g1] }
  | _ => none }
def FnExactObjectAtWrongFalsely : Prop := fnExactObjectAtRow.holds Tryd.pinned (OpenSpec.ofChange fnExactObjectAtWrong)

/-- 'laws.FnExactNewObject': WHATEVER THE INPUT: true; the input reads as it did. -/
def fnExactNewObjectSpec : ChangeSpec := { name := "fnExactNewObject", vars := ["loop.example/g00873/impl.byteClasses"], fn := fun _ => fun
  | [d1, d2, g1] => { results := [.lit (.bool true)], args := [d1, d2], vars := [g1] }
  | _ => none }
def fnExactNewObjectRow : OpenClaim := { program := "ytbdmanadmckjjaadoor", sum := "10de48bf78564d2c93432fe357cc8480a27995d57c9994e011d851d43a291c34", func := "loop.example/g00873/laws.FnExactNewObject", spec := "fnExactNewObject", unfollowed := true, recurses := true, named := ["loop.example/g00873/impl.byteClasses"], apart := false, laid := [("loop.example/g00873/impl.byteClasses", laid_loop_example_g00873_impl_byteClasses)] }
def FnExactNewObjectSaid : Prop := fnExactNewObjectRow.holds Tryd.pinned (OpenSpec.ofChange fnExactNewObjectSpec)

/-- ITS FALSE NEIGHBOUR: 'it returns false'. Refute it at one input. -/
def fnExactNewObjectWrong : ChangeSpec := { name := "fnExactNewObject", vars := ["loop.example/g00873/impl.byteClasses"], fn := fun _ => fun
  | [d1, d2, g1] => { results := [.lit (.bool false)], args := [d1, d2], vars := [g1] }
  | _ => none }
def FnExactNewObjectWrongFalsely : Prop := fnExactNewObjectRow.holds Tryd.pinned (OpenSpec.ofChange fnExactNewObjectWrong)

/-- 'laws.FnExactSetObject': WHATEVER THE INPUT: true; the input reads as it did. -/
def fnExactSetObjectSpec : ChangeSpec := { name := "fnExactSetObject", vars := ["loop.example/g00873/impl.byteClasses"], fn := fun _ => fun
  | [d1, d2, g1] => { results := [.lit (.bool true)], args := [d1, d2], vars := [g1] }
  | _ => none }
def fnExactSetObjectRow : OpenClaim := { program := "ytbdmanadmckjjaadoor", sum := "10de48bf78564d2c93432fe357cc8480a27995d57c9994e011d851d43a291c34", func := "loop.example/g00873/laws.FnExactSetObject", spec := "fnExactSetObject", unfollowed := true, recurses := true, named := ["loop.example/g00873/impl.byteClasses"], apart := false, laid := [("loop.example/g00873/impl.byteClasses", laid_loop_example_g00873_impl_byteClasses)] }
def FnExactSetObjectSaid : Prop := fnExactSetObjectRow.holds Tryd.pinned (OpenSpec.ofChange fnExactSetObjectSpec)

/-- ITS FALSE NEIGHBOUR: 'it returns false'. Refute it at one input. -/
def fnExactSetObjectWrong : ChangeSpec := { name := "fnExactSetObject", vars := ["loop.example/g00873/impl.byteClasses"], fn := fun _ => fun
  | [d1, d2, g1] => { results := [.lit (.bool false)], args := [d1, d2], vars := [g1] }
  | _ => none }
def FnExactSetObjectWrongFalsely : Prop := fnExactSetObjectRow.holds Tryd.pinned (OpenSpec.ofChange fnExactSetObjectWrong)

/- THE SECOND FORM. 'bulk': how many values and letters a reading holds, each counted each time it is reached (what is shared counts as often as it is met; a slice's spare places count too). A statement '..UptoSaid' is the law's where the arguments, and the package variables that the reading takes, are together of bulk at most 1048576: NARROWER than '..Said'. Prove '..Said' where nothing that the law and all that it calls make is longer than what came in: it says more and counts as full. Else prove '..UptoSaid'. A law counts once. -/
mutual
def uptoBulk {H : Type} : DataW H → Nat
  | .lit (.string bytes) => bytes.length + 1
  | .lit _ => 1
  | .nil => 1
  | .ptr d => uptoBulk d + 1
  | .slice elems spare => uptoBulkAll elems + uptoBulkAll spare + 1
  | .agg parts => uptoBulkAll parts + 1
  | .iface _ d => uptoBulk d + 1
  | .map entries => uptoBulkEntries entries + 1
  | .held _ => 1
def uptoBulkAll {H : Type} : List (DataW H) → Nat
  | [] => 0
  | d :: r => uptoBulk d + uptoBulkAll r
def uptoBulkEntries {H : Type} : List (Lit × DataW H) → Nat
  | [] => 0
  | x :: r => uptoBulkEntry x + uptoBulkEntries r
def uptoBulkEntry {H : Type} : Lit × DataW H → Nat
  | (.string bytes, d) => bytes.length + uptoBulk d + 1
  | (_, d) => uptoBulk d + 1
 end
def uptoSmall : (H : Type) → List (DataW H) → Bool := fun _ ds => decide (uptoBulkAll ds ≤ 1048576)
def OpenSpec.upto (s : _root_.Go.ChangeSpec) : _root_.Go.OpenSpec := { _root_.Go.OpenSpec.ofChange s with cond := some uptoSmall }

/-- 'laws.FnExactValidHeap', WHERE WHAT IT READS IS OF BULK AT MOST 1048576: true; the input reads as it did. -/
def fnExactValidHeapUptoRow : OpenClaim := { program := "ytbdmanadmckjjaadoor", sum := "10de48bf78564d2c93432fe357cc8480a27995d57c9994e011d851d43a291c34", func := "loop.example/g00873/laws.FnExactValidHeap", spec := "fnExactValidHeap", unfollowed := true, recurses := true, named := ["loop.example/g00873/impl.byteClasses"], apart := false, laid := [("loop.example/g00873/impl.byteClasses", laid_loop_example_g00873_impl_byteClasses)], narrowed := true }
def FnExactValidHeapUptoSaid : Prop := fnExactValidHeapUptoRow.holds Tryd.pinned (OpenSpec.upto fnExactValidHeapSpec)

/-- 'laws.FnExactFitsHeap', WHERE WHAT IT READS IS OF BULK AT MOST 1048576: true; the input reads as it did. -/
def fnExactFitsHeapUptoRow : OpenClaim := { program := "ytbdmanadmckjjaadoor", sum := "10de48bf78564d2c93432fe357cc8480a27995d57c9994e011d851d43a291c34", func := "loop.example/g00873/laws.FnExactFitsHeap", spec := "fnExactFitsHeap", unfollowed := true, recurses := true, named := ["loop.example/g00873/impl.byteClasses"], apart := false, laid := [("loop.example/g00873/impl.byteClasses", laid_loop_example_g00873_impl_byteClasses)], narrowed := true }
def FnExactFitsHeapUptoSaid : Prop := fnExactFitsHeapUptoRow.holds Tryd.pinned (OpenSpec.upto fnExactFitsHeapSpec)

/-- 'laws.FnExactHeapSize', WHERE WHAT IT READS IS OF BULK AT MOST 1048576: true; the input reads as it did. -/
def fnExactHeapSizeUptoRow : OpenClaim := { program := "ytbdmanadmckjjaadoor", sum := "10de48bf78564d2c93432fe357cc8480a27995d57c9994e011d851d43a291c34", func := "loop.example/g00873/laws.FnExactHeapSize", spec := "fnExactHeapSize", unfollowed := true, recurses := true, named := ["loop.example/g00873/impl.byteClasses"], apart := false, laid := [("loop.example/g00873/impl.byteClasses", laid_loop_example_g00873_impl_byteClasses)], narrowed := true }
def FnExactHeapSizeUptoSaid : Prop := fnExactHeapSizeUptoRow.holds Tryd.pinned (OpenSpec.upto fnExactHeapSizeSpec)

/-- 'laws.FnExactValidRoots', WHERE WHAT IT READS IS OF BULK AT MOST 1048576: true; the input reads as it did. -/
def fnExactValidRootsUptoRow : OpenClaim := { program := "ytbdmanadmckjjaadoor", sum := "10de48bf78564d2c93432fe357cc8480a27995d57c9994e011d851d43a291c34", func := "loop.example/g00873/laws.FnExactValidRoots", spec := "fnExactValidRoots", unfollowed := true, recurses := true, named := ["loop.example/g00873/impl.byteClasses"], apart := false, laid := [("loop.example/g00873/impl.byteClasses", laid_loop_example_g00873_impl_byteClasses)], narrowed := true }
def FnExactValidRootsUptoSaid : Prop := fnExactValidRootsUptoRow.holds Tryd.pinned (OpenSpec.upto fnExactValidRootsSpec)

/-- 'laws.FnExactObjectAt', WHERE WHAT IT READS IS OF BULK AT MOST 1048576: true; the input reads as it did. -/
def fnExactObjectAtUptoRow : OpenClaim := { program := "ytbdmanadmckjjaadoor", sum := "10de48bf78564d2c93432fe357cc8480a27995d57c9994e011d851d43a291c34", func := "loop.example/g00873/laws.FnExactObjectAt", spec := "fnExactObjectAt", unfollowed := true, recurses := true, named := ["loop.example/g00873/impl.byteClasses"], apart := false, laid := [("loop.example/g00873/impl.byteClasses", laid_loop_example_g00873_impl_byteClasses)], narrowed := true }
def FnExactObjectAtUptoSaid : Prop := fnExactObjectAtUptoRow.holds Tryd.pinned (OpenSpec.upto fnExactObjectAtSpec)

/-- 'laws.FnExactNewObject', WHERE WHAT IT READS IS OF BULK AT MOST 1048576: true; the input reads as it did. -/
def fnExactNewObjectUptoRow : OpenClaim := { program := "ytbdmanadmckjjaadoor", sum := "10de48bf78564d2c93432fe357cc8480a27995d57c9994e011d851d43a291c34", func := "loop.example/g00873/laws.FnExactNewObject", spec := "fnExactNewObject", unfollowed := true, recurses := true, named := ["loop.example/g00873/impl.byteClasses"], apart := false, laid := [("loop.example/g00873/impl.byteClasses", laid_loop_example_g00873_impl_byteClasses)], narrowed := true }
def FnExactNewObjectUptoSaid : Prop := fnExactNewObjectUptoRow.holds Tryd.pinned (OpenSpec.upto fnExactNewObjectSpec)

/-- 'laws.FnExactSetObject', WHERE WHAT IT READS IS OF BULK AT MOST 1048576: true; the input reads as it did. -/
def fnExactSetObjectUptoRow : OpenClaim := { program := "ytbdmanadmckjjaadoor", sum := "10de48bf78564d2c93432fe357cc8480a27995d57c9994e011d851d43a291c34", func := "loop.example/g00873/laws.FnExactSetObject", spec := "fnExactSetObject", unfollowed := true, recurses := true, named := ["loop.example/g00873/impl.byteClasses"], apart := false, laid := [("loop.example/g00873/impl.byteClasses", laid_loop_example_g00873_impl_byteClasses)], narrowed := true }
def FnExactSetObjectUptoSaid : Prop := fnExactSetObjectUptoRow.holds Tryd.pinned (OpenSpec.upto fnExactSetObjectSpec)

end Rows
end Go.Proofs.YtbdmanadmckjjaaDoor
