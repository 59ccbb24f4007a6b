/- An argument that is a slice of bytes, opened. No condition. -/
import Derived.Test.YtpjjpfjnjhahcaaGreatDoorDraw
import Derived.ChangeSlices
import Derived.OpenShut
namespace Go.Proofs.YtpjjpfjnjhahcaaGreatDoor
open Go Go.ChangeShapes Go.WideShapes Go.RowKit

theorem byteCells : Tryz.prog.cellsOf 5 = 1 := by kernel_rfl
theorem open_code {H : Type} {enc : TypeId × Value → H} {W : World} {A : Option Addr} {n c : Nat} {d : DataW H} {p : List MemPlace} (h : DataW.Trod enc Tryz.prog W 0 (fun _ => true) true 22 (.slice A n c) d p) : n ≤ maxLen ∧ Code W W.heap.size A n := by
  obtain ⟨fuel, hf⟩ := h
  rcases open_ints Tryz.underlying22 Tryz.underlying5 byteCells hf with ⟨hcs, _⟩ | ⟨a, len, cap, zs, hcs, _, hl, hm, hz, _, hcell, hwz⟩
  · simp [Value.cells] at hcs
    obtain ⟨rfl, rfl, rfl⟩ := hcs
    exact ⟨Nat.zero_le _, fun h => absurd h (by omega)⟩
  · simp [Value.cells] at hcs
    obtain ⟨rfl, rfl, rfl⟩ := hcs
    simp only [if_true] at hz
    refine ⟨Nat.le_trans hl hm, fun hn => ?_⟩
    obtain ⟨ab, ao, spot⟩ := a
    have h0 := hcell 0 (by omega)
    have hspot : spot = none := by simpa [Addr.add] using World.cell?_spot h0
    subst hspot
    rw [Addr.add_lit] at h0
    refine ⟨ab, ao, rfl, World.block_lt_of_cell? W ⟨ab, ao + 0, none⟩ h0, fun j hj => ?_⟩
    have hj' := hcell j (by omega)
    rw [Addr.add_lit] at hj'
    have hb := range_u8 hwz j
    rw [List.getD_eq_getElem?_getD] at hj'
    exact ⟨zs[j]?.getD 0, hj', hb.1, hb.2⟩
end Go.Proofs.YtpjjpfjnjhahcaaGreatDoor
