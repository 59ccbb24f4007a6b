/- A listed table of integers, strings, booleans, structs and arrays of these: what its cells hold. No condition. -/
import Derived.OpenShut
import Derived.Lib.LaidTab
import Derived.Lib.Strings
import Derived.FnData
namespace Go.Proofs.YtjhemdgeafglhaaDoor
open Go Go.RowKit
section
variable {H : Type} {enc : TypeId × Value → H} {P : Program} {w : World} {base : Nat} {sp : Nat → Bool} {held : Bool}

/-- What a datum of a type without pointers says of the cells: positions and values. -/
def facts (P : Program) : Nat → TypeId → DataW H → List (Nat × Value)
  | 0, _, _ => []
  | n + 1, t, d =>
    match P.underlying t, d with
    | some (.int k), .lit (.int _ z) => [(0, .int k z)]
    | some .string, .lit (.string l) => [(0, .string ⟨l.toArray⟩)]
    | some .bool, .lit (.bool b) => [(0, .bool b)]
    | some (.array m e), .agg ds => (ds.take m).zipIdx.flatMap fun x => (facts P n e x.1).map fun y => (x.2 * P.cellsOf e + y.1, y.2)
    | some (.struct fs), .agg ds => (fs.toList.zip ds).flatMap fun x => (facts P n x.1.type x.2).map fun y => (x.1.offset + y.1, y.2)
    | _, _ => []

theorem get_part {α : Type} {cs : List α} {o m i : Nat} {v : α} (h : ((cs.drop o).take m)[i]? = some v) : cs[o + i]? = some v := by
  rw [List.getElem?_take] at h
  split at h
  · rwa [List.getElem?_drop] at h
  · cases h

theorem facts_hold : ∀ (n : Nat) (t : TypeId) (d : DataW H) (cs : List Value) (fuel : Nat) (ps : List MemPlace), DataW.trod enc P w base sp held fuel t cs = some (d, ps) →
    ∀ (i : Nat) (v : Value), (i, v) ∈ facts P n t d → cs[i]? = some v
  | 0, _, _, _, _, _, _, _, _, hm => by simp [facts] at hm
  | n + 1, t, d, cs, fuel, ps, h, i, v, hm => by
    unfold facts at hm
    split at hm
    · next k _ z ht =>
      obtain ⟨z', rfl, hx, _⟩ := DataW.trod_int ht h
      simp only [Prod.mk.injEq, DataW.lit.injEq, Lit.int.injEq] at hx
      simp only [List.mem_singleton, Prod.mk.injEq] at hm
      obtain ⟨rfl, rfl⟩ := hm
      simp [hx.1.2]
    · next l ht =>
      obtain ⟨s, rfl, hx, _⟩ := DataW.trod_string ht h
      simp only [Prod.mk.injEq, DataW.lit.injEq, Lit.string.injEq] at hx
      simp only [List.mem_singleton, Prod.mk.injEq] at hm
      obtain ⟨rfl, rfl⟩ := hm
      rw [hx.1, Lib.mk_data]
      rfl
    · next b ht =>
      obtain ⟨s, rfl, hx⟩ := DataW.trod_bool ht h
      simp only [Prod.mk.injEq, DataW.lit.injEq, Lit.bool.injEq] at hx
      simp only [List.mem_singleton, Prod.mk.injEq] at hm
      obtain ⟨rfl, rfl⟩ := hm
      rw [hx.1]
      rfl
    · next m e ds ht =>
      obtain ⟨xs, k, rfl, hx, _, hlen, hf⟩ := DataW.trod_array ht h
      simp only [Prod.mk.injEq, DataW.agg.injEq] at hx
      simp only [List.mem_flatMap, List.mem_map, Prod.mk.injEq] at hm
      obtain ⟨⟨d1, j⟩, hj, ⟨i1, v1⟩, hi1, rfl, rfl⟩ := hm
      rw [List.mem_zipIdx_iff_getElem?] at hj
      simp only at hj hi1 ⊢
      rw [List.getElem?_take] at hj
      split at hj
      · next hjm =>
        rw [hx.1, List.getElem?_map, Option.map_eq_some_iff] at hj
        obtain ⟨⟨d2, p2⟩, hx2, rfl⟩ := hj
        have h1 := hf j hjm
        rw [hx2] at h1
        exact get_part (facts_hold n e d2 _ k p2 h1 i1 v1 hi1)
      · cases hj
    · next fs ds ht =>
      obtain ⟨xs, k, rfl, hx, _, hlen, hf⟩ := DataW.trod_struct ht h
      simp only [Prod.mk.injEq, DataW.agg.injEq] at hx
      simp only [List.mem_flatMap, List.mem_map, Prod.mk.injEq] at hm
      obtain ⟨⟨f, d1⟩, hj, ⟨i1, v1⟩, hi1, rfl, rfl⟩ := hm
      obtain ⟨j, hj⟩ := List.getElem?_of_mem hj
      rw [List.getElem?_zip_eq_some] at hj
      simp only at hj hi1 ⊢
      obtain ⟨hj1, hj2⟩ := hj
      rw [hx.1, List.getElem?_map, Option.map_eq_some_iff] at hj2
      obtain ⟨⟨d2, p2⟩, hx2, rfl⟩ := hj2
      have h1 := hf j f (by simpa using hj1)
      rw [hx2] at h1
      exact get_part (facts_hold n f.type d2 _ k p2 h1 i1 v1 hi1)
    · simp at hm
end

/-- The head of the list of laid tables: its cells. -/
theorem laid_cells {P : Program} {W : World} {name : String} {d : DataW Unit} {rest : List (String × DataW Unit)} {g : Nat} {t : TypeId} (n : Nat)
    (hg : P.globalNamed name = some g) (hty : (P.globals[g]?).map (·.type) = some t) (h : laidMet P ((name, d) :: rest) W) (i : Nat) (v : Value) (hm : (i, v) ∈ facts P n t d) : W.cell? ⟨g, i, none⟩ = some v := by
  obtain ⟨ps, ⟨g', t', cs, fuel, p, q, hg', ht', hvar, hd, _, _⟩, _⟩ := h
  obtain rfl := Option.some.inj (hg.symm.trans hg')
  obtain rfl := Option.some.inj (hty.symm.trans ht')
  have := facts_hold n t d _ fuel p hd i v hm
  rw [World.var?_cell hg hvar i, ← Array.getElem?_toList]
  exact this
end Go.Proofs.YtjhemdgeafglhaaDoor
