/- The source of the draws, kept; bytes made a string. No condition. -/
import Derived.Test.YtpjjpfjnjhahcaaGreatDoorDraw
import Derived.Laws.BytesString
namespace Go.Proofs.YtpjjpfjnjhahcaaGreatDoor
open Go Go.RowKit

theorem byteInfo : (Tryz.prog.info? 5).map (fun i => (i.zero, i.size, i.bytes)) = some (some (Value.int .u8 0), 1, 1) := by kernel_rfl
theorem conv_bytes (w : World) (g n c : Nat) (xs : List Int) (hn : xs.length = n) (h : ∀ j v, (xs.map (Value.int .u8))[j]? = some v → w.cell? ⟨g, j, none⟩ = some v) :
    ∃ y : ByteArray, y.size = n ∧ (convert 22 9 (.slice (some ⟨g, 0, none⟩) n c)).run Tryz.prog w = .ok (.string y) w := by
  refine ⟨xs.foldl (fun r n => r.push (UInt8.ofNat n.toNat)) ByteArray.empty, ?_, ?_⟩
  · have : ∀ (l : List Int) (r : ByteArray), (l.foldl (fun r n => r.push (UInt8.ofNat n.toNat)) r).size = r.size + l.length := by
      intro l
      induction l with
      | nil => intro r; rfl
      | cons a l ih => intro r; rw [List.foldl_cons, ih, ByteArray.size_push, List.length_cons]; omega
    rw [this, hn]
    simp
  · rw [run_convert_bytes_string _ _ _ 5 _ _ _ Tryz.underlying22 Tryz.underlying5 Tryz.underlying9]
    refine run_bytesToString (P := Tryz.prog) w ⟨g, 0, none⟩ n c xs ?_
    have hl := run_loadCells_list (P := Tryz.prog) (w := w) ⟨g, 0, none⟩ (xs.map (Value.int .u8)) fun j v hv => ?_
    · rwa [List.length_map, hn] at hl
    · rw [show (⟨g, 0, none⟩ : Addr).add j = ⟨g, j, none⟩ from by unfold Addr.add; split <;> simp_all]
      exact h j v hv

theorem Src.alloc {w : World} {g k : Nat} (h : Src w g k) (o : Obj) : Src (w.alloc o) g k := by
  obtain ⟨A, n, c, sd, hn, hh, hc⟩ := h
  have hg : g < w.heap.size := by
    rcases Nat.lt_or_ge g w.heap.size with h | h
    · exact h
    · rw [Array.getElem?_eq_none h] at hh; cases hh
  exact ⟨A, n, c, sd, hn, ((World.grownBy_alloc w o none).block g hg (by simp)).trans hh, hc.below ((Below.refl g w).alloc (Nat.le_of_lt hg) _)⟩
theorem Src.lt {w : World} {g k : Nat} (h : Src w g k) : g < w.heap.size := by
  obtain ⟨A, n, c, sd, hn, hh, hc⟩ := h
  rcases Nat.lt_or_ge g w.heap.size with h | h
  · exact h
  · rw [Array.getElem?_eq_none h] at hh; cases hh
theorem Src.grown {w w' : World} {g k : Nat} {row : Option Nat} (h : Src w g k) (hg : w.grownBy w' row) (hr : ∀ b, row = some b → g < b) : Src w' g k := by
  have hl := h.lt
  obtain ⟨A, n, c, sd, hn, hh, hc⟩ := h
  refine ⟨A, n, c, sd, hn, (hg.block g hl (fun e => by have := hr g e.symm; omega)).trans hh, fun hn => ?_⟩
  obtain ⟨b, off, e, hb, hcc⟩ := hc hn
  refine ⟨b, off, e, hb, fun j hj => ?_⟩
  obtain ⟨x, hx, r⟩ := hcc j hj
  exact ⟨x, hg.cell hx (fun e => by have := hr b e.symm; simp at *; omega), r⟩
end Go.Proofs.YtpjjpfjnjhahcaaGreatDoor
