/- The model's draw of a source text: some string. Condition: the code's bytes. -/
import Derived.Test.YtfobjedobojbnabDoorDrawMore
namespace Go.Proofs.YtfobjedobojbnabDoor
open Go Go.RowKit

theorem draw_trans {a b c : World} {g : Nat} (h : a.grownBy b (some g)) (h' : b.grownBy c (some g)) : a.grownBy c (some g) :=
  ⟨h'.os.trans h.os, h'.tape.trans h.tape, h'.output.trans h.output, Nat.le_trans h.size h'.size, fun j hj hne => (h'.block j (Nat.lt_of_lt_of_le hj h.size) hne).trans (h.block j hj hne)⟩
/-- The lines that are drawn from. -/
def drawnLines : List ByteArray := [⟨#[32, 65, 32, 61, 32, 49]⟩, ⟨#[76, 32, 66, 32, 67]⟩, ⟨#[]⟩, ⟨#[32, 32, 32]⟩, ⟨#[42, 32, 110, 111, 116, 101]⟩, ⟨#[43, 32, 109, 111, 114, 101]⟩, ⟨#[32, 88, 32, 61, 32, 39, 97, 59, 98, 39, 59, 89, 32, 90]⟩, ⟨#[59, 59]⟩, ⟨#[32, 39, 32, 111, 112, 101, 110]⟩, ⟨#[65, 59, 66, 59, 67]⟩, ⟨#[32, 80, 32, 61, 32, 34, 105, 116, 39, 115, 34]⟩, ⟨#[69, 78, 68]⟩]
theorem drawn_size : ∀ x ∈ drawnLines, x.size ≤ 14 := by decide
theorem drawn_cells (W : World) : ∀ (j : Nat) (x : ByteArray), drawnLines[j]? = some x → (W.alloc (.cells #[Value.string ⟨#[32, 65, 32, 61, 32, 49]⟩, Value.string ⟨#[76, 32, 66, 32, 67]⟩, Value.string ⟨#[]⟩, Value.string ⟨#[32, 32, 32]⟩, Value.string ⟨#[42, 32, 110, 111, 116, 101]⟩, Value.string ⟨#[43, 32, 109, 111, 114, 101]⟩, Value.string ⟨#[32, 88, 32, 61, 32, 39, 97, 59, 98, 39, 59, 89, 32, 90]⟩, Value.string ⟨#[59, 59]⟩, Value.string ⟨#[32, 39, 32, 111, 112, 101, 110]⟩, Value.string ⟨#[65, 59, 66, 59, 67]⟩, Value.string ⟨#[32, 80, 32, 61, 32, 34, 105, 116, 39, 115, 34]⟩, Value.string ⟨#[69, 78, 68]⟩] 9)).cell? ⟨W.heap.size, j, none⟩ = some (.string x) := fun j x h => by
  rw [cell_of_row (W.alloc (.cells #[Value.string ⟨#[32, 65, 32, 61, 32, 49]⟩, Value.string ⟨#[76, 32, 66, 32, 67]⟩, Value.string ⟨#[]⟩, Value.string ⟨#[32, 32, 32]⟩, Value.string ⟨#[42, 32, 110, 111, 116, 101]⟩, Value.string ⟨#[43, 32, 109, 111, 114, 101]⟩, Value.string ⟨#[32, 88, 32, 61, 32, 39, 97, 59, 98, 39, 59, 89, 32, 90]⟩, Value.string ⟨#[59, 59]⟩, Value.string ⟨#[32, 39, 32, 111, 112, 101, 110]⟩, Value.string ⟨#[65, 59, 66, 59, 67]⟩, Value.string ⟨#[32, 80, 32, 61, 32, 34, 105, 116, 39, 115, 34]⟩, Value.string ⟨#[69, 78, 68]⟩] 9)) W.heap.size j _ 9 (0, 0) (heap_alloc_new W _)]
  have e : (#[Value.string ⟨#[32, 65, 32, 61, 32, 49]⟩, Value.string ⟨#[76, 32, 66, 32, 67]⟩, Value.string ⟨#[]⟩, Value.string ⟨#[32, 32, 32]⟩, Value.string ⟨#[42, 32, 110, 111, 116, 101]⟩, Value.string ⟨#[43, 32, 109, 111, 114, 101]⟩, Value.string ⟨#[32, 88, 32, 61, 32, 39, 97, 59, 98, 39, 59, 89, 32, 90]⟩, Value.string ⟨#[59, 59]⟩, Value.string ⟨#[32, 39, 32, 111, 112, 101, 110]⟩, Value.string ⟨#[65, 59, 66, 59, 67]⟩, Value.string ⟨#[32, 80, 32, 61, 32, 34, 105, 116, 39, 115, 34]⟩, Value.string ⟨#[69, 78, 68]⟩] : Array Value) = (drawnLines.map Value.string).toArray := rfl
  rw [e, List.getElem?_toArray, List.getElem?_map, h]
  rfl
theorem l01DrawLine_any (g k : Nat) (W : World) (hs : Src W g k) (hk : k ≤ 1000000) :
    Calls Tryd.prog 72 #[.pointer (some ⟨g, 0, none⟩)] W fun e w' => ∃ (x : ByteArray) (k' : Nat), e = .returned (.string x) ∧ Hid (x.size ≤ 14 ∧ k' ≤ k + 2 ∧ Src w' g k' ∧ W.grownBy w' (some g)) := by
  have hg := hs.lt
  have HT := Lib.hid (text_any g k W.heap.size 12 drawnLines _ (hs.alloc _) hk (by decide) (by decide) (by omega) (drawn_cells W))
  clear hs hk hg
  go_enter Tryd.func72, Tryd.ntmps72
  go_wp2_with (go_at_call 74; refine HT.out.mono ?_; rintro e w1 ⟨x, k', rfl, hp⟩)
  go_ret
  obtain ⟨hx, h1, h2, h3⟩ := hp.out
  exact ⟨x, k', rfl, Lib.hid ⟨drawn_size x hx, h1, h2, draw_trans (World.grownBy_alloc W _ _) h3⟩⟩
end Go.Proofs.YtfobjedobojbnabDoor
