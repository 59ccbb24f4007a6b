/- Contracts: ValidIns of the program (isControl, controlForm, leafOf); when an instruction is valid. Condition: the tables hold what the program's text lays. -/
import Derived.Test.YtjeiiljdhnmofaaDoorPin1
import Derived.Test.YtjeiiljdhnmofaaDoorPtFld
import Derived.Laws.ResultCell
import Derived.Laws.Rows
namespace Go.Proofs.YtjeiiljdhnmofaaDoor
open Go Go.RowKit

/-- The words of the control instructions, and their parts. -/
def cwordsL : List (List UInt8) := [[115, 116, 101, 112], [99, 104, 111, 105, 99, 101], [106, 117, 109, 112], [109, 97, 114, 107], [99, 111, 110, 100], [110, 111, 119], [108, 111, 111, 112], [114, 101, 116, 117, 114, 110], [101, 110, 100]]
def cpartsL : List (List UInt8) := [[], [78], [78], [], [88], [88], [78], [], []]
def cwordK (j : Nat) : ByteArray := ⟨((cwordsL[j]?).getD []).toArray⟩
def cpartsK (j : Nat) : ByteArray := ⟨((cpartsL[j]?).getD []).toArray⟩
def ctlName (j : Nat) : Bool := decide (j = 4 ∨ j = 5)
def ctlNum (j : Nat) : Bool := decide (j = 1 ∨ j = 2 ∨ j = 6)
theorem cparts_facts : ∀ j, j < 9 → decide (0 ≤ Lib.indexByte (cpartsK j).data.toList 78) = ctlNum j ∧ decide (0 ≤ Lib.indexByte (cpartsK j).data.toList 88) = ctlName j := by decide
def ctlMax (j : Nat) : Int := if ctlNum j = true then 12999 else 0
/-- An instruction is valid. -/
def insOk (op n : Int) (t : ByteArray) : Bool :=
  if 31 ≤ op ∧ op ≤ 39 then (if ctlName (op - 31).toNat = true then (n == 0) && isNameB t else (t.size == 0) && decide (0 ≤ n ∧ n ≤ ctlMax (op - 31).toNat))
  else (Pt.node op n t []).proper
def cformFacts : List (Nat × Value) := (List.range 9).flatMap fun j => [(j * 2, .string (cwordK j)), (j * 2 + 1, .string (cpartsK j))]
theorem gCforms : Tryd.prog.globalNamed "loop.example/g00873/impl.controlForms" = some 1 := by kernel_rfl
theorem tCforms : (Tryd.prog.globals[1]?).map (·.type) = some 95 := by kernel_rfl
theorem facts_cforms : facts (H := Unit) Tryd.prog 8 95 Rows.laid_loop_example_g00873_impl_controlForms = cformFacts := by kernel_rfl
/-- The table of the control instructions stands as the text lays it. -/
def Cforms (W : World) : Prop := ∀ (i : Nat) (v : Value), (i, v) ∈ cformFacts → W.cell? ⟨1, i, none⟩ = some v
theorem cforms_of {W : World} {rest : List (String × DataW Unit)} (h : laidMet Tryd.prog (("loop.example/g00873/impl.controlForms", Rows.laid_loop_example_g00873_impl_controlForms) :: rest) W) : Cforms W := fun i v hm =>
  laid_cells 8 gCforms tCforms h i v (by rw [facts_cforms]; exact hm)
theorem Cforms.at_ {W : World} (h : Cforms W) {j : Nat} (hj : j < 9) : W.cell? ⟨1, j * 2, none⟩ = some (.string (cwordK j)) ∧ W.cell? ⟨1, j * 2 + 1, none⟩ = some (.string (cpartsK j)) :=
  ⟨h _ _ (List.mem_flatMap.2 ⟨j, List.mem_range.2 hj, .head _⟩), h _ _ (List.mem_flatMap.2 ⟨j, List.mem_range.2 hj, .tail _ (.head _)⟩)⟩
theorem Cforms.lt {W : World} (h : Cforms W) : 1 < W.heap.size := heap_pos (h.at_ (j := 0) (by decide)).1
theorem Cforms.go {W W' : World} (h : Cforms W) (hb : Below W.heap.size W W') : Cforms W' := fun i v hm => (hb.cell (p := ⟨1, i, none⟩) h.lt).trans (h i v hm)

theorem isControl_any (op : Int) (W : World) : Calls Tryd.prog 49 #[.int .i64 op] W fun e w' => e = .returned (.bool (decide (31 ≤ op ∧ op ≤ 39))) ∧ W = w' := by
  obtain ⟨z, hz⟩ : ∃ z, decide (31 ≤ op ∧ op ≤ 39) = z := ⟨_, rfl⟩
  have HZ := Lib.hid hz
  rw [hz]
  clear hz
  go_enter Tryd.func49, Tryd.ntmps49
  go_wp2_with (go_at_call 54; refine (withinB_i64 _ _ _ _).mono ?_; rintro e w1 ⟨rfl, rfl⟩; rw [HZ.out])
  go_ret
  exact ⟨rfl, rfl⟩
theorem controlForm_any (j : Nat) (hj : j < 9) (W : World) (hC : Cforms W) : Calls Tryd.prog 51 #[.int .i64 (31 + (j : Int))] W fun e w' => e = .returned (.agg #[.string (cwordK j), .string (cpartsK j)]) ∧ Below W.heap.size W w' := by
  obtain ⟨c0, c1⟩ := hC.at_ hj
  have hlt := hC.lt
  have b0 : (0 : Int) ≤ (j : Int) := by omega
  have b1 : (j : Int) < 9 := by omega
  have e1 : (31 : Int) + (j : Int) - 31 = (j : Int) := by omega
  clear hC
  generalize cwordK j = a at c0 ⊢
  generalize cpartsK j = p at c1 ⊢
  go_enter Tryd.func51, Tryd.ntmps51
  go_wp2_with fail
  exact bodyPost_ret (v := .agg #[.string a, .string p]) (by simp [results, Tryd.results51, go_sem]) rfl
    ⟨rfl, by repeat (first | exact Below.refl _ _ | refine Below.setCell ?_ (by first | (simp; done) | (simp; omega)) _ | refine Below.alloc ?_ (by first | (simp; done) | (simp; omega)) _)⟩
theorem leafOf_any (op n : Int) (t : ByteArray) (W : World) : Calls Tryd.prog 50 #[.agg #[.int .i64 op, .int .i64 n, .string t]] W fun e w' => e = .returned (.agg #[.int .i64 op, .int .i64 n, .string t, .slice none 0 0]) ∧ Below W.heap.size W w' := by
  go_enter Tryd.func50, Tryd.ntmps50
  go_wp2_with fail
  exact bodyPost_ret (v := .agg #[.int .i64 op, .int .i64 n, .string t, .slice none 0 0]) (by simp [results, Tryd.results50, go_sem]) rfl
    ⟨rfl, by repeat (first | exact Below.refl _ _ | refine Below.setCell ?_ (by first | (simp; done) | (simp; omega)) _ | refine Below.alloc ?_ (by first | (simp; done) | (simp; omega)) _)⟩
end Go.Proofs.YtjeiiljdhnmofaaDoor
