/- Strings made bytes, and bytes made strings. No condition. -/
import Derived.Test.YtpjjpfjnjhahcaaGreatDoorBase
import Derived.Laws.IdiomStrings
namespace Go.Proofs.YtpjjpfjnjhahcaaGreatDoor
open Go Go.RowKit

/-- A string is its size and its bytes. -/
theorem bt_ext {a b : ByteArray} (hs : a.size = b.size) (h : ∀ j, j < a.size → PlainAid.bt a j = PlainAid.bt b j) : a = b := by
  apply WideShapes.bytes_inj
  rw [Lib.size_eq, Lib.size_eq] at hs
  refine List.ext_getElem hs fun j h1 h2 => ?_
  have := h j (by rw [Lib.size_eq]; exact h1)
  rw [bt_data a j h1, bt_data b j h2] at this
  exact UInt8.toNat_inj.mp (by omega)
theorem conv_sb (s : ByteArray) (w : World) : ∃ C w1, (convert 9 22 (.string s)).run Tryz.prog w = .ok (.slice (some ⟨w.heap.size, 0, none⟩) s.size C) w1 ∧
    (∀ j, j < s.size → w1.cell? ⟨w.heap.size, j, none⟩ = some (.int .u8 (PlainAid.bt s j)) ∧ w1.frozen? ⟨w.heap.size, j, none⟩ = false) ∧ Below w.heap.size w w1 ∧ w.heap.size < w1.heap.size := by
  refine ⟨_, _, run_bytes_of_string w 9 22 5 s Tryz.underlying9 Tryz.underlying22 Tryz.underlying5, fun j hj => ?_, ?_, ?_⟩
  · have hl : j < s.data.toList.length := by rw [← Lib.size_eq]; exact hj
    have hd : j < s.data.size := by simpa using hl
    have hr : (bytesRow s (grownCap w s.size 0 5))[j]? = some (.int .u8 (PlainAid.bt s j)) := by
      unfold bytesRow
      rw [Array.getElem?_append_left (by simpa using hd), bt_data s j hl]
      simp only [Array.getElem?_map, Array.getElem?_eq_getElem hd, Option.map_some, Array.getElem_toList]
    have hz : j < (bytesRow s (grownCap w s.size 0 5)).size := by
      rcases Nat.lt_or_ge j (bytesRow s (grownCap w s.size 0 5)).size with h | h
      · exact h
      · rw [Array.getElem?_eq_none h] at hr; cases hr
    generalize bytesRow s (grownCap w s.size 0 5) = R at hr hz
    constructor
    · simp [World.cell?, World.alloc, World.drew, -World.alloc_eq, -World.drew_eq, hr]
    · simp [World.frozen?, World.alloc, World.drew, -World.alloc_eq, -World.drew_eq]
      omega
  · exact ((Below.refl _ _).drew).alloc (Nat.le_refl _) _
  · simp
theorem conv_bs (w : World) (g n C : Nat) (y : ByteArray) (hy : y.size = n) (h : ∀ j, j < n → w.cell? ⟨g, j, none⟩ = some (.int .u8 (PlainAid.bt y j))) :
    (convert 22 9 (.slice (some ⟨g, 0, none⟩) n C)).run Tryz.prog w = .ok (.string y) w := by
  have hl : y.data.toList.length = n := by rw [← Lib.size_eq]; exact hy
  have h1 := run_convert_bytes_back (P := Tryz.prog) w 22 9 5 ⟨g, 0, none⟩ C y.data.toList Tryz.underlying22 Tryz.underlying5 Tryz.underlying9 (fun j hj => by
    rw [show (⟨g, 0, none⟩ : Addr).add j = ⟨g, j, none⟩ from by unfold Addr.add; split <;> simp_all]
    rw [h j (by omega), bt_data y j hj])
  rw [hl] at h1
  exact h1
end Go.Proofs.YtpjjpfjnjhahcaaGreatDoor
