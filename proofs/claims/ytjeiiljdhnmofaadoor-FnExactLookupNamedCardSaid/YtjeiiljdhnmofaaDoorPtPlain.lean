/- Plain: the forms of the kinds of patterns, when a node has the fields of its kind, the number of nodes, valid patterns; the table of the forms. No condition. -/
import Derived.Test.YtjeiiljdhnmofaaDoorLaid
import Derived.Test.YtjeiiljdhnmofaaDoorPtsSz
import Derived.Test.YtjeiiljdhnmofaaDoorName
import Derived.Test.YtjeiiljdhnmofaaDoorRows
namespace Go.Proofs.YtjeiiljdhnmofaaDoor
open Go Go.RowKit

/-- The words of the kinds, and the parts of their text forms. -/
def wordsL : List (List UInt8) := [[], [], [97, 110, 121], [110, 111, 116, 97, 110, 121], [115, 112, 97, 110], [98, 114, 101, 97, 107], [108, 101, 110], [112, 111, 115], [114, 112, 111, 115], [116, 97, 98], [114, 116, 97, 98], [114, 101, 109], [97, 114, 98], [98, 97, 108], [102, 101, 110, 99, 101], [97, 98, 111, 114, 116], [102, 97, 105, 108], [115, 117, 99, 99, 101, 101, 100], [97, 108, 116], [99, 97, 116], [97, 114, 98, 110, 111], [99, 111, 110, 100], [110, 111, 119], [99, 117, 114, 115, 111, 114], [100, 101, 102, 101, 114]]
def partsL : List (List UInt8) := [[], [76], [76], [76], [76], [76], [78], [78], [78], [78], [78], [], [], [], [], [], [], [], [80, 80], [80, 80], [80], [80, 88], [80, 88], [88], [88]]
def wordK (j : Nat) : ByteArray := ⟨((wordsL[j]?).getD []).toArray⟩
def partsK (j : Nat) : ByteArray := ⟨((partsL[j]?).getD []).toArray⟩
/-- How many Kids a kind has. -/
def kidsK (k : Int) : Int := if k = 18 ∨ k = 19 then 2 else if k = 20 ∨ k = 21 ∨ k = 22 then 1 else 0
/-- Its Num can differ from 0. -/
def hasNum (k : Int) : Bool := decide (6 ≤ k ∧ k ≤ 10)
/-- Its Text is a name; a literal. -/
def hasName (k : Int) : Bool := decide (21 ≤ k ∧ k ≤ 24)
def hasLit (k : Int) : Bool := decide (1 ≤ k ∧ k ≤ 5)
theorem parts_facts : ∀ j, j < 25 → (Lib.countByte (partsK j).data.toList 80 : Int) = kidsK j ∧ decide (0 ≤ Lib.indexByte (partsK j).data.toList 78) = hasNum j ∧ decide (0 ≤ Lib.indexByte (partsK j).data.toList 88) = hasName j ∧ decide (0 ≤ Lib.indexByte (partsK j).data.toList 76) = hasLit j := by decide
/-- The text fits the kind. -/
def textFits (k : Int) (t : ByteArray) : Bool :=
  if hasName k = true then isNameB t else if hasLit k = true then decide (t.size ≤ 200) && (!(t.size == 0) || (k == 1)) else t.size == 0
/-- The node has the fields of its kind and no others. -/
def Pt.proper (x : Pt) : Bool :=
  decide (1 ≤ x.k ∧ x.k ≤ 24) && (((x.kids.length : Int) == kidsK x.k) && (textFits x.k x.t && ((x.n == 0) || (hasNum x.k && decide (0 ≤ x.n ∧ x.n ≤ 200)))))
mutual
/-- The number of nodes. -/
def ptCnt : Pt → Nat
  | .node _ _ _ ks => 1 + ptCnts ks
def ptCnts : List Pt → Nat
  | [] => 0
  | x :: xs => ptCnt x + ptCnts xs
end
mutual
/-- All nodes are proper. -/
def ptAll : Pt → Prop
  | .node k n t ks => (Pt.node k n t ks).proper = true ∧ ptAlls ks
def ptAlls : List Pt → Prop
  | [] => True
  | x :: xs => ptAll x ∧ ptAlls xs
end
theorem ptCnt_eq (x : Pt) : ptCnt x = 1 + ptCnts x.kids := by cases x; rw [ptCnt]; rfl
theorem ptAll_eq (x : Pt) : ptAll x ↔ x.proper = true ∧ ptAlls x.kids := by cases x; rw [ptAll]; rfl
theorem ptCnt_pos (x : Pt) : 0 < ptCnt x := by rw [ptCnt_eq]; omega
/-- The nodes of the first k. -/
def pcntK (xs : List Pt) : Nat → Nat
  | 0 => 0
  | k + 1 => pcntK xs k + ((xs[k]?.map ptCnt).getD 0)
theorem pcntK_next {xs : List Pt} {k : Nat} {x : Pt} (h : xs[k]? = some x) : pcntK xs (k + 1) = pcntK xs k + ptCnt x := by
  rw [pcntK, h]
  rfl
theorem pcntK_cons (x : Pt) (xs : List Pt) : ∀ k, pcntK (x :: xs) (k + 1) = ptCnt x + pcntK xs k
  | 0 => by simp [pcntK]
  | k + 1 => by
    have ih := pcntK_cons x xs k
    rw [pcntK, ih, pcntK]
    simp only [List.getElem?_cons_succ]
    omega
theorem ptCnts_eq : ∀ (xs : List Pt), ptCnts xs = pcntK xs xs.length
  | [] => by rw [ptCnts]; rfl
  | x :: xs => by rw [ptCnts, ptCnts_eq xs, List.length_cons, pcntK_cons]
theorem pcntK_mono {xs : List Pt} {j : Nat} : ∀ {k : Nat}, j ≤ k → pcntK xs j ≤ pcntK xs k
  | 0, h => by obtain rfl : j = 0 := by omega
               exact Nat.le_refl _
  | k + 1, h => by
    by_cases e : j = k + 1
    · rw [e]; exact Nat.le_refl _
    · have := pcntK_mono (xs := xs) (show j ≤ k by omega)
      rw [pcntK]
      omega
theorem ptAlls_iff : ∀ (xs : List Pt), ptAlls xs ↔ ∀ (j : Nat) (x : Pt), xs[j]? = some x → ptAll x
  | [] => by rw [ptAlls]; simp
  | y :: ys => by
    rw [ptAlls, ptAlls_iff ys]
    constructor
    · rintro ⟨h1, h2⟩ j x hx
      cases j with
      | zero => simp at hx; rw [← hx]; exact h1
      | succ j => exact h2 j x (by simpa using hx)
    · intro h
      exact ⟨h 0 y rfl, fun j x hx => h (j + 1) x (by simpa using hx)⟩
mutual
theorem pcnt_le_sz : ∀ (x : Pt), ptCnt x ≤ 1 + ptSz x
  | .node k n t ks => by
    have := pcnts_le_szs ks
    rw [ptCnt, ptSz]
    omega
theorem pcnts_le_szs : ∀ (xs : List Pt), ptCnts xs ≤ ptSzs xs
  | [] => by rw [ptCnts, ptSzs]; exact Nat.le_refl _
  | x :: xs => by
    have h1 := pcnt_le_sz x
    have h2 := pcnts_le_szs xs
    rw [ptCnts, ptSzs]
    omega
end
/-- A valid pattern. -/
def ValidP (x : Pt) : Prop := ptCnt x ≤ 60 ∧ ptAll x

/-- The cells of the table of the forms. -/
def formFacts : List (Nat × Value) := (List.range 25).flatMap fun j => [(j * 2, .string (wordK j)), (j * 2 + 1, .string (partsK j))]
theorem gForms : Tryd.prog.globalNamed "loop.example/g00873/impl.patternForms" = some 0 := by kernel_rfl
theorem tForms : (Tryd.prog.globals[0]?).map (·.type) = some 89 := by kernel_rfl
theorem facts_forms : facts (H := Unit) Tryd.prog 8 89 Rows.laid_loop_example_g00873_impl_patternForms = formFacts := by kernel_rfl
/-- The table of the forms stands as the text lays it. -/
def Forms (W : World) : Prop := ∀ (i : Nat) (v : Value), (i, v) ∈ formFacts → W.cell? ⟨0, i, none⟩ = some v
theorem forms_of {W : World} {rest : List (String × DataW Unit)} (h : laidMet Tryd.prog (("loop.example/g00873/impl.patternForms", Rows.laid_loop_example_g00873_impl_patternForms) :: rest) W) : Forms W := fun i v hm =>
  laid_cells 8 gForms tForms h i v (by rw [facts_forms]; exact hm)
theorem Forms.at_ {W : World} (h : Forms W) {j : Nat} (hj : j < 25) : W.cell? ⟨0, j * 2, none⟩ = some (.string (wordK j)) ∧ W.cell? ⟨0, j * 2 + 1, none⟩ = some (.string (partsK j)) :=
  ⟨h _ _ (List.mem_flatMap.2 ⟨j, List.mem_range.2 hj, .head _⟩), h _ _ (List.mem_flatMap.2 ⟨j, List.mem_range.2 hj, .tail _ (.head _)⟩)⟩
theorem Forms.lt {W : World} (h : Forms W) : 0 < W.heap.size := heap_pos (h.at_ (j := 0) (by decide)).1
theorem Forms.below {B : Nat} {W W' : World} (h : Forms W) (hb : Below B W W') (hB : 0 < B) : Forms W' := fun i v hm => (hb.cell (p := ⟨0, i, none⟩) hB).trans (h i v hm)
theorem Forms.go {W W' : World} (h : Forms W) (hb : Below W.heap.size W W') : Forms W' := h.below hb h.lt
end Go.Proofs.YtjeiiljdhnmofaaDoor
