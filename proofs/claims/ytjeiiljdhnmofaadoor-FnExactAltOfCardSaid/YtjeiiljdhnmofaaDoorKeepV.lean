/- What the body of a range over the nodes keeps, where it grows a row of strings of its own behind one captured cell. No condition. -/
import Derived.Test.YtjeiiljdhnmofaaDoorPtIterG
import Derived.Test.YtjeiiljdhnmofaaDoorDefNames
namespace Go.Proofs.YtjeiiljdhnmofaaDoor
open Go Go.RowKit Go.Shelf

/-- A row's block lies from lo on and within the heap. -/
def GoodV (lo : Nat) (W : World) (v : Value) : Prop := ∀ g, v.ownBlock = some g → lo ≤ g ∧ g < W.heap.size
/-- Whatever is cells, but for the captured cell and the row that it holds, lies as it lay. -/
def KV (nb lo : Nat) (W W' : World) : Prop := W.heap.size ≤ W'.heap.size ∧ ∀ v, W.cell? ⟨nb, 0, none⟩ = some v → GoodV lo W v →
  ∃ v', W'.cell? ⟨nb, 0, none⟩ = some v' ∧ GoodV lo W' v' ∧ (v'.ownBlock = v.ownBlock ∨ ∀ g, v'.ownBlock = some g → W.heap.size ≤ g) ∧ ∀ (i : Nat) (o : Obj), i ≠ nb → v.ownBlock ≠ some i → W.heap[i]? = some o → o.isCells = true → W'.heap[i]? = some o
def GV (nb lo : Nat) (W : World) : Prop := ∃ v, W.cell? ⟨nb, 0, none⟩ = some v ∧ GoodV lo W v
theorem cell_same {W W' : World} {p : Addr} {v : Value} (h : W.cell? p = some v) (k : ∀ o, W.heap[p.block]? = some o → o.isCells = true → W'.heap[p.block]? = some o) : W'.cell? p = some v := by
  obtain ⟨o, ho, hc⟩ := cells_of_cell h
  have h2 := k o ho hc
  unfold World.cell? at h ⊢
  rw [h2]
  rw [ho] at h
  exact h
theorem KV.tr {nb lo : Nat} {X Y Z : World} (h : KV nb lo X Y) (k : KV nb lo Y Z) : KV nb lo X Z := by
  refine ⟨Nat.le_trans h.1 k.1, fun v hv hg => ?_⟩
  obtain ⟨v1, c1, g1, o1, b1⟩ := h.2 v hv hg
  obtain ⟨v2, c2, g2, o2, b2⟩ := k.2 v1 c1 g1
  refine ⟨v2, c2, g2, ?_, fun i o hi ho hx hc => b2 i o hi ?_ (b1 i o hi ho hx hc) hc⟩
  · rcases o2 with e | e
    · rw [e]; exact o1
    · exact .inr fun g hg => Nat.le_trans h.1 (e g hg)
  · rcases o1 with e | e
    · rw [e]; exact ho
    · intro e2
      have h1 := e i e2
      have h2 := (Array.getElem?_eq_some_iff.1 hx).1
      omega
theorem KV.of_below {nb lo : Nat} {W W' : World} (h : Below W.heap.size W W') : KV nb lo W W' := by
  refine ⟨h.size, fun v hv hg => ⟨v, ?_, fun g e => ⟨(hg g e).1, Nat.lt_of_lt_of_le (hg g e).2 h.size⟩, .inl rfl, fun i o _ _ hx _ => (h.block i (Array.getElem?_eq_some_iff.1 hx).1).trans hx⟩⟩
  exact cell_same hv fun o ho _ => (h.block _ (Array.getElem?_eq_some_iff.1 ho).1).trans ho
theorem KV.walk {nb lo : Nat} (W : World) (l : Nat) (o o' : Obj) (h : W.heap[l]? = some o) (hc : o.isCells = false) : KV nb lo W (W.putObj l o') := by
  have key : ∀ (i : Nat) (x : Obj), W.heap[i]? = some x → x.isCells = true → (W.putObj l o').heap[i]? = some x := by
    intro i x hi hx
    by_cases e : i = l
    · subst e
      rw [h, Option.some.injEq] at hi
      rw [hi] at hc
      rw [hc] at hx
      cases hx
    · exact (World.putObj_heap_other e).trans hi
  have hs : (W.putObj l o').heap.size = W.heap.size := by simp [World.putObj]
  refine ⟨Nat.le_of_eq hs.symm, fun v hv hg => ⟨v, cell_same hv fun x hx hcx => key _ x hx hcx, fun g e => ?_, .inl rfl, fun i x _ _ hi hx => key i x hi hx⟩⟩
  rw [hs]
  exact hg g e
theorem kp_KV {nb lo n₀ : Nat} (h1 : n₀ ≤ nb) (h2 : n₀ ≤ lo) : Kp (KV nb lo) (GV nb lo) n₀ where
  tr := KV.tr
  al := fun W o => KV.of_below (below_alloc W o)
  g := fun ⟨v, hv, hg⟩ h => by
    obtain ⟨v', c, g', _⟩ := h.2 v hv hg
    exact ⟨v', c, g'⟩
  sz := fun h => h.1
  low := fun ⟨v, hv, hg⟩ h p u hp hu => by
    obtain ⟨v', _, _, _, b⟩ := h.2 v hv hg
    exact cell_same hu fun o ho hc => b _ o (by omega) (fun e => by have := (hg _ e).1; omega) ho hc
  box := fun {W X o} ⟨v, hv, hg⟩ h i u hu => by
    have hnb := World.block_lt_of_cell? W ⟨nb, 0, none⟩ hv
    have hv' : (W.alloc o).cell? ⟨nb, 0, none⟩ = some v := ((below_alloc W o).cell (p := ⟨nb, 0, none⟩) hnb).trans hv
    obtain ⟨v', _, _, _, b⟩ := h.2 v hv' (fun g e => ⟨(hg g e).1, by have := (hg g e).2; simp; omega⟩)
    exact cell_same hu fun x hx hc => b _ x (by dsimp only at hnb ⊢; omega) (fun e => by have := (hg _ e).2; dsimp only at this; omega) hx hc
/-- The row has grown, and the captured cell holds the new one. -/
theorem KV.grow {nb lo : Nat} {W w1 : World} {v v' : Value} {T : TypeId} (hv : Boxed W nb T v) (h : GrowS W v w1 v') (hn : v.ownBlock ≠ some nb) (hg : GoodV lo w1 v') : KV nb lo W (w1.setCell ⟨nb, 0, none⟩ v') := by
  have hb1 : Boxed w1 nb T v := (h.block nb hv.lt hn).trans hv
  have hs : (w1.setCell ⟨nb, 0, none⟩ v').heap.size = w1.heap.size := size_set _ _ _
  refine ⟨by rw [hs]; exact h.size, fun u hu hgu => ⟨v', (hb1.set v').cell, fun g e => by rw [hs]; exact hg g e, ?_, fun i o hi ho hx _ => ?_⟩⟩
  · have e : u = v := by have := hv.cell; rw [hu, Option.some.injEq] at this; exact this
    rw [e]
    exact h.own
  · have e : u = v := by have := hv.cell; rw [hu, Option.some.injEq] at this; exact this
    rw [e] at ho
    exact (Below.heap_setCell w1 ⟨nb, 0, none⟩ v' i (fun e => hi e)).trans ((h.block i (Array.getElem?_eq_some_iff.1 hx).1 ho).trans hx)
end Go.Proofs.YtjeiiljdhnmofaaDoor
