/- The table of the kinds of values; contracts: rowOf, DataType of the program and of the model. Condition: the tables hold what the program's text lays. -/
import Derived.Test.YtjhemdgeafglhaaDoorValImpl
import Derived.Test.YtjhemdgeafglhaaDoorLaid
import Derived.Test.YtjhemdgeafglhaaDoorRows
import Derived.Laws.ResultCell
namespace Go.Proofs.YtjhemdgeafglhaaDoor
open Go Go.RowKit

/-- The cells of the table of the kinds. -/
def rowFacts : List (Nat × Value) := [(0, .string ⟨#[115, 116, 114, 105, 110, 103]⟩), (1, .string ⟨#[34]⟩), (2, .string ⟨#[34]⟩), (3, .string ⟨#[105, 110, 116, 101, 103, 101, 114]⟩), (4, .string ⟨#[]⟩), (5, .string ⟨#[]⟩), (6, .string ⟨#[112, 97, 116, 116, 101, 114, 110]⟩), (7, .string ⟨#[60]⟩), (8, .string ⟨#[62]⟩), (9, .string ⟨#[97, 114, 114, 97, 121]⟩), (10, .string ⟨#[97, 114, 114, 97, 121, 35]⟩), (11, .string ⟨#[]⟩), (12, .string ⟨#[116, 97, 98, 108, 101]⟩), (13, .string ⟨#[116, 97, 98, 108, 101, 35]⟩), (14, .string ⟨#[]⟩), (15, .string ⟨#[114, 101, 99, 111, 114, 100]⟩), (16, .string ⟨#[114, 101, 99, 111, 114, 100, 35]⟩), (17, .string ⟨#[]⟩), (18, .string ⟨#[110, 97, 109, 101]⟩), (19, .string ⟨#[46]⟩), (20, .string ⟨#[]⟩), (21, .string ⟨#[101, 120, 112, 114, 101, 115, 115, 105, 111, 110]⟩), (22, .string ⟨#[42]⟩), (23, .string ⟨#[]⟩)]
theorem gRows : Tryd.prog.globalNamed "loop.example/g00873/impl.valueRows" = some 2 := by kernel_rfl
theorem tRows : (Tryd.prog.globals[2]?).map (·.type) = some 102 := by kernel_rfl
theorem facts_rows : facts (H := Unit) Tryd.prog 8 102 Rows.laid_loop_example_g00873_impl_valueRows = rowFacts := by kernel_rfl
/-- The table of the kinds stands as the text lays it. -/
def RowsTab (W : World) : Prop := ∀ (i : Nat) (v : Value), (i, v) ∈ rowFacts → W.cell? ⟨2, i, none⟩ = some v
theorem rowsTab_of {W : World} {rest : List (String × DataW Unit)} (h : laidMet Tryd.prog (("loop.example/g00873/impl.valueRows", Rows.laid_loop_example_g00873_impl_valueRows) :: rest) W) : RowsTab W := fun i v hm =>
  laid_cells 8 gRows tRows h i v (by rw [facts_rows]; exact hm)
theorem RowsTab.lt {W : World} (h : RowsTab W) : 2 < W.heap.size := heap_pos (h 0 _ (.head _))
theorem RowsTab.below {B : Nat} {W W' : World} (h : RowsTab W) (hb : Below B W W') (hB : 2 < B) : RowsTab W' := fun i v hm => (hb.cell (p := ⟨2, i, none⟩) hB).trans (h i v hm)

/-- The name of a kind, and what stands before and behind the content of a text form. -/
def nameV (k : Int) : ByteArray := if k = 1 then ⟨#[115, 116, 114, 105, 110, 103]⟩ else if k = 2 then ⟨#[105, 110, 116, 101, 103, 101, 114]⟩ else if k = 3 then ⟨#[112, 97, 116, 116, 101, 114, 110]⟩ else if k = 4 then ⟨#[97, 114, 114, 97, 121]⟩ else if k = 5 then ⟨#[116, 97, 98, 108, 101]⟩ else if k = 6 then ⟨#[114, 101, 99, 111, 114, 100]⟩ else if k = 7 then ⟨#[110, 97, 109, 101]⟩ else if k = 8 then ⟨#[101, 120, 112, 114, 101, 115, 115, 105, 111, 110]⟩ else ⟨#[]⟩
def befV (k : Int) : ByteArray := if k = 1 then ⟨#[34]⟩ else if k = 2 then ⟨#[]⟩ else if k = 3 then ⟨#[60]⟩ else if k = 4 then ⟨#[97, 114, 114, 97, 121, 35]⟩ else if k = 5 then ⟨#[116, 97, 98, 108, 101, 35]⟩ else if k = 6 then ⟨#[114, 101, 99, 111, 114, 100, 35]⟩ else if k = 7 then ⟨#[46]⟩ else if k = 8 then ⟨#[42]⟩ else ⟨#[]⟩
def behV (k : Int) : ByteArray := if k = 1 then ⟨#[34]⟩ else if k = 2 then ⟨#[]⟩ else if k = 3 then ⟨#[62]⟩ else if k = 4 then ⟨#[]⟩ else if k = 5 then ⟨#[]⟩ else if k = 6 then ⟨#[]⟩ else if k = 7 then ⟨#[]⟩ else if k = 8 then ⟨#[]⟩ else ⟨#[]⟩
theorem validV_kind {k n : Int} {t : ByteArray} {r : Int} (h : validV k n t r = true) : k = 1 ∨ k = 2 ∨ k = 3 ∨ k = 4 ∨ k = 5 ∨ k = 6 ∨ k = 7 ∨ k = 8 := by
  unfold validV at h
  split at h
  · omega
  split at h
  · omega
  split at h
  · omega
  split at h
  · omega
  split at h
  · omega
  · cases h
/-- What DataType answers. -/
def typeV (k n : Int) (t : ByteArray) (r : Int) : ByteArray := if validV k n t r = true then nameV k else ⟨#[]⟩

set_option maxHeartbeats 1000000 in
theorem rowOf_any (k n : Int) (t : ByteArray) (r : Int) (W : World) (hk : k = 1 ∨ k = 2 ∨ k = 3 ∨ k = 4 ∨ k = 5 ∨ k = 6 ∨ k = 7 ∨ k = 8) (hR : RowsTab W) :
    Calls Tryd.prog 61 #[.agg #[.int .i64 k, .int .i64 n, .string t, .int .i64 r]] W fun e w' => e = .returned (.agg #[.string (nameV k), .string (befV k), .string (behV k)]) ∧ Below W.heap.size W w' := by
  have HL : Hid (2 < W.heap.size) := hR.lt
  have hlt : 2 < W.heap.size := HL.out
  rcases hk with rfl | rfl | rfl | rfl | rfl | rfl | rfl | rfl
  · have c0 := hR 0 _ (by unfold rowFacts; repeat (first | exact .head _ | apply List.Mem.tail))
    have c1 := hR 1 _ (by unfold rowFacts; repeat (first | exact .head _ | apply List.Mem.tail))
    have c2 := hR 2 _ (by unfold rowFacts; repeat (first | exact .head _ | apply List.Mem.tail))
    clear hR
    show Calls _ _ _ _ fun e w' => e = .returned (.agg #[.string ⟨#[115, 116, 114, 105, 110, 103]⟩, .string ⟨#[34]⟩, .string ⟨#[34]⟩]) ∧ _
    go_enter Tryd.func61, Tryd.ntmps61
    go_wp2_with fail
    exact bodyPost_ret (v := .agg #[.string ⟨#[115, 116, 114, 105, 110, 103]⟩, .string ⟨#[34]⟩, .string ⟨#[34]⟩]) (by simp [results, Tryd.results61, go_sem]) rfl ⟨rfl, by repeat (first | exact Below.refl _ _ | refine Below.setCell ?_ (by first | (simp; done) | (simp; omega)) _ | refine Below.alloc ?_ (by first | (simp; done) | (simp; omega)) _)⟩
  · have c0 := hR 3 _ (by unfold rowFacts; repeat (first | exact .head _ | apply List.Mem.tail))
    have c1 := hR 4 _ (by unfold rowFacts; repeat (first | exact .head _ | apply List.Mem.tail))
    have c2 := hR 5 _ (by unfold rowFacts; repeat (first | exact .head _ | apply List.Mem.tail))
    clear hR
    show Calls _ _ _ _ fun e w' => e = .returned (.agg #[.string ⟨#[105, 110, 116, 101, 103, 101, 114]⟩, .string ⟨#[]⟩, .string ⟨#[]⟩]) ∧ _
    go_enter Tryd.func61, Tryd.ntmps61
    go_wp2_with fail
    exact bodyPost_ret (v := .agg #[.string ⟨#[105, 110, 116, 101, 103, 101, 114]⟩, .string ⟨#[]⟩, .string ⟨#[]⟩]) (by simp [results, Tryd.results61, go_sem]) rfl ⟨rfl, by repeat (first | exact Below.refl _ _ | refine Below.setCell ?_ (by first | (simp; done) | (simp; omega)) _ | refine Below.alloc ?_ (by first | (simp; done) | (simp; omega)) _)⟩
  · have c0 := hR 6 _ (by unfold rowFacts; repeat (first | exact .head _ | apply List.Mem.tail))
    have c1 := hR 7 _ (by unfold rowFacts; repeat (first | exact .head _ | apply List.Mem.tail))
    have c2 := hR 8 _ (by unfold rowFacts; repeat (first | exact .head _ | apply List.Mem.tail))
    clear hR
    show Calls _ _ _ _ fun e w' => e = .returned (.agg #[.string ⟨#[112, 97, 116, 116, 101, 114, 110]⟩, .string ⟨#[60]⟩, .string ⟨#[62]⟩]) ∧ _
    go_enter Tryd.func61, Tryd.ntmps61
    go_wp2_with fail
    exact bodyPost_ret (v := .agg #[.string ⟨#[112, 97, 116, 116, 101, 114, 110]⟩, .string ⟨#[60]⟩, .string ⟨#[62]⟩]) (by simp [results, Tryd.results61, go_sem]) rfl ⟨rfl, by repeat (first | exact Below.refl _ _ | refine Below.setCell ?_ (by first | (simp; done) | (simp; omega)) _ | refine Below.alloc ?_ (by first | (simp; done) | (simp; omega)) _)⟩
  · have c0 := hR 9 _ (by unfold rowFacts; repeat (first | exact .head _ | apply List.Mem.tail))
    have c1 := hR 10 _ (by unfold rowFacts; repeat (first | exact .head _ | apply List.Mem.tail))
    have c2 := hR 11 _ (by unfold rowFacts; repeat (first | exact .head _ | apply List.Mem.tail))
    clear hR
    show Calls _ _ _ _ fun e w' => e = .returned (.agg #[.string ⟨#[97, 114, 114, 97, 121]⟩, .string ⟨#[97, 114, 114, 97, 121, 35]⟩, .string ⟨#[]⟩]) ∧ _
    go_enter Tryd.func61, Tryd.ntmps61
    go_wp2_with fail
    exact bodyPost_ret (v := .agg #[.string ⟨#[97, 114, 114, 97, 121]⟩, .string ⟨#[97, 114, 114, 97, 121, 35]⟩, .string ⟨#[]⟩]) (by simp [results, Tryd.results61, go_sem]) rfl ⟨rfl, by repeat (first | exact Below.refl _ _ | refine Below.setCell ?_ (by first | (simp; done) | (simp; omega)) _ | refine Below.alloc ?_ (by first | (simp; done) | (simp; omega)) _)⟩
  · have c0 := hR 12 _ (by unfold rowFacts; repeat (first | exact .head _ | apply List.Mem.tail))
    have c1 := hR 13 _ (by unfold rowFacts; repeat (first | exact .head _ | apply List.Mem.tail))
    have c2 := hR 14 _ (by unfold rowFacts; repeat (first | exact .head _ | apply List.Mem.tail))
    clear hR
    show Calls _ _ _ _ fun e w' => e = .returned (.agg #[.string ⟨#[116, 97, 98, 108, 101]⟩, .string ⟨#[116, 97, 98, 108, 101, 35]⟩, .string ⟨#[]⟩]) ∧ _
    go_enter Tryd.func61, Tryd.ntmps61
    go_wp2_with fail
    exact bodyPost_ret (v := .agg #[.string ⟨#[116, 97, 98, 108, 101]⟩, .string ⟨#[116, 97, 98, 108, 101, 35]⟩, .string ⟨#[]⟩]) (by simp [results, Tryd.results61, go_sem]) rfl ⟨rfl, by repeat (first | exact Below.refl _ _ | refine Below.setCell ?_ (by first | (simp; done) | (simp; omega)) _ | refine Below.alloc ?_ (by first | (simp; done) | (simp; omega)) _)⟩
  · have c0 := hR 15 _ (by unfold rowFacts; repeat (first | exact .head _ | apply List.Mem.tail))
    have c1 := hR 16 _ (by unfold rowFacts; repeat (first | exact .head _ | apply List.Mem.tail))
    have c2 := hR 17 _ (by unfold rowFacts; repeat (first | exact .head _ | apply List.Mem.tail))
    clear hR
    show Calls _ _ _ _ fun e w' => e = .returned (.agg #[.string ⟨#[114, 101, 99, 111, 114, 100]⟩, .string ⟨#[114, 101, 99, 111, 114, 100, 35]⟩, .string ⟨#[]⟩]) ∧ _
    go_enter Tryd.func61, Tryd.ntmps61
    go_wp2_with fail
    exact bodyPost_ret (v := .agg #[.string ⟨#[114, 101, 99, 111, 114, 100]⟩, .string ⟨#[114, 101, 99, 111, 114, 100, 35]⟩, .string ⟨#[]⟩]) (by simp [results, Tryd.results61, go_sem]) rfl ⟨rfl, by repeat (first | exact Below.refl _ _ | refine Below.setCell ?_ (by first | (simp; done) | (simp; omega)) _ | refine Below.alloc ?_ (by first | (simp; done) | (simp; omega)) _)⟩
  · have c0 := hR 18 _ (by unfold rowFacts; repeat (first | exact .head _ | apply List.Mem.tail))
    have c1 := hR 19 _ (by unfold rowFacts; repeat (first | exact .head _ | apply List.Mem.tail))
    have c2 := hR 20 _ (by unfold rowFacts; repeat (first | exact .head _ | apply List.Mem.tail))
    clear hR
    show Calls _ _ _ _ fun e w' => e = .returned (.agg #[.string ⟨#[110, 97, 109, 101]⟩, .string ⟨#[46]⟩, .string ⟨#[]⟩]) ∧ _
    go_enter Tryd.func61, Tryd.ntmps61
    go_wp2_with fail
    exact bodyPost_ret (v := .agg #[.string ⟨#[110, 97, 109, 101]⟩, .string ⟨#[46]⟩, .string ⟨#[]⟩]) (by simp [results, Tryd.results61, go_sem]) rfl ⟨rfl, by repeat (first | exact Below.refl _ _ | refine Below.setCell ?_ (by first | (simp; done) | (simp; omega)) _ | refine Below.alloc ?_ (by first | (simp; done) | (simp; omega)) _)⟩
  · have c0 := hR 21 _ (by unfold rowFacts; repeat (first | exact .head _ | apply List.Mem.tail))
    have c1 := hR 22 _ (by unfold rowFacts; repeat (first | exact .head _ | apply List.Mem.tail))
    have c2 := hR 23 _ (by unfold rowFacts; repeat (first | exact .head _ | apply List.Mem.tail))
    clear hR
    show Calls _ _ _ _ fun e w' => e = .returned (.agg #[.string ⟨#[101, 120, 112, 114, 101, 115, 115, 105, 111, 110]⟩, .string ⟨#[42]⟩, .string ⟨#[]⟩]) ∧ _
    go_enter Tryd.func61, Tryd.ntmps61
    go_wp2_with fail
    exact bodyPost_ret (v := .agg #[.string ⟨#[101, 120, 112, 114, 101, 115, 115, 105, 111, 110]⟩, .string ⟨#[42]⟩, .string ⟨#[]⟩]) (by simp [results, Tryd.results61, go_sem]) rfl ⟨rfl, by repeat (first | exact Below.refl _ _ | refine Below.setCell ?_ (by first | (simp; done) | (simp; omega)) _ | refine Below.alloc ?_ (by first | (simp; done) | (simp; omega)) _)⟩

theorem field_name (a b c : ByteArray) (w : World) : (Instr.field 82 (.agg #[.string a, .string b, .string c]) 0).run Tryd.prog w = .ok (.string a) w := by kernel_rfl

set_option maxHeartbeats 2000000 in
theorem spec_DataType_any (k n : Int) (t : ByteArray) (r : Int) (W : World) (hs : t.size ≤ maxLen) :
    Calls Tryd.prog 59 #[.agg #[.int .i64 k, .int .i64 n, .string t, .int .i64 r]] W fun e w' => e = .returned (.string (typeV k n t r)) ∧ Below W.heap.size W w' := by
  have HS := Lib.hid hs
  clear hs
  unfold typeV
  obtain ⟨x, hx⟩ : ∃ x, validV k n t r = x := ⟨_, rfl⟩
  have HX := Lib.hid hx
  rw [hx]
  cases x
  · clear hx
    rw [if_neg (by decide)]
    go_enter Tryd.func59, Tryd.ntmps59
    go_wp2_with (go_at_call 25; refine (spec_ValidValue_any _ _ _ _ _ HS.out).mono ?_; rintro e w1 ⟨rfl, hb⟩; rw [HX.out]; have HB := Lib.hid (((Below.refl _ _).alloc (Nat.le_refl _) _).trans (hb.mono (B' := W.heap.size) (by simp))); clear hb)
    go_ret
    exact ⟨rfl, HB.out⟩
  · have hk := validV_kind hx
    clear hx
    rw [if_pos rfl]
    rcases hk with rfl | rfl | rfl | rfl | rfl | rfl | rfl | rfl
    all_goals
      go_enter Tryd.func59, Tryd.ntmps59
      go_wp2_with (go_at_call 25; refine (spec_ValidValue_any _ _ _ _ _ HS.out).mono ?_; rintro e w1 ⟨rfl, hb⟩; rw [HX.out]; have HB := Lib.hid (((Below.refl _ _).alloc (Nat.le_refl _) _).trans (hb.mono (B' := W.heap.size) (by simp))); obtain ⟨hc, hf⟩ := bcell hb; have hz : W.heap.size < w1.heap.size := Nat.lt_of_lt_of_le (by simp) hb.size; clear hb)
      go_ret
      exact ⟨rfl, HB.out.alloc HB.out.size _⟩
end Go.Proofs.YtjhemdgeafglhaaDoor
