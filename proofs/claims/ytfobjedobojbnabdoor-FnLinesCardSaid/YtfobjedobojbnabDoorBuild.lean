/- Contracts: strings.Builder: copyCheck, WriteString, over this Go's text. No condition but Go's own limit. -/
import Derived.Test.YtfobjedobojbnabDoorBase
import Derived.OwnWalk
import Derived.Laws.OwnMore
import Derived.Test.YtfobjedobojbnabDoorShelf
import Derived.Lib.Builder
import Derived.Lib.AppendStr
namespace Go.Proofs.YtfobjedobojbnabDoor
open Go Go.RowKit

theorem u8Info : (Tryd.prog.info? 5).map (fun i => (i.zero, i.size, i.bytes)) = some (some (Value.int .u8 0), 1, 1) := by kernel_rfl
theorem builderInfo : (Tryd.prog.info? 59).map (fun i => (i.zero, i.size, i.bytes)) = some (some (Value.agg #[.pointer none, .slice none 0 0]), 2, 32) := by kernel_rfl
theorem builderCells : Tryd.prog.cellsOf 59 = 2 := by kernel_rfl
theorem builderLies : liesAt Tryd.prog Tryd.prog.depth 59 1 0 59 1 = true := by kernel_rfl
theorem to_unsafe {B b : Nat} {p : Value} {bs : List Value} {w : World} (h : Lib.BuilderAt 59 5 B b p bs w) :
    (convert 57 158 (.pointer (some ⟨b, 0, none⟩))).run Tryd.prog w = .ok (.pointer (some ⟨b, 0, none⟩)) w := by
  obtain ⟨i0, hi, hz0, hz1, hz2⟩ := info_parts builderInfo
  exact Lib.run_to_unsafe w ⟨b, 0, none⟩ Tryd.underlying57 Tryd.underlying158 hi (by rw [hz1]; decide) h.shape (Nat.zero_lt_succ 1)
theorem from_unsafe {B b : Nat} {p : Value} {bs : List Value} {w : World} (h : Lib.BuilderAt 59 5 B b p bs w) :
    (convert 158 57 (.pointer (some ⟨b, 0, none⟩))).run Tryd.prog w = .ok (.pointer (some ⟨b, 0, none⟩)) w := by
  obtain ⟨i0, hi, hz0, hz1, hz2⟩ := info_parts builderInfo
  exact Lib.run_from_unsafe w ⟨b, 0, none⟩ Tryd.underlying158 Tryd.underlying57 hi h.shape (by rw [builderCells]; exact builderLies)

set_option maxHeartbeats 1000000 in
set_option maxRecDepth 100000 in
theorem copyCheck_any (B b : Nat) (bs : List Value) (w : World) (h : Lib.IsBuilder 59 5 B b bs w) :
    Calls Tryd.prog 154 #[.pointer (some ⟨b, 0, none⟩)] w fun e w' => e = .returned (.tuple #[]) ∧ (Lib.BuilderAt 59 5 B b (.pointer (some ⟨b, 0, none⟩)) bs w' ∧ Below B w w') := by
  rcases h with h | h
  · have c0 := h.cell0
    have f0 := h.frozen0
    have u0 := to_unsafe h
    have u1 := from_unsafe h
    have H := Lib.hid h
    clear h
    go_enter Tryd.func154, Tryd.ntmps154
    go_wp2
    rw [run_callFunc_extern Tryd.func155 (by kernel_rfl) (by kernel_rfl) (by kernel_rfl) (e := Extern.AbiNoEscape.same) (by kernel_rfl)]
    rw [Lib.run_noEscape]
    simp only [Result.andThen]
    rw [Oper.upon_value]
    go_wp2
    go_end0
    exact ⟨rfl, H.out.used _, (Below.refl B w).setCell (p := ⟨b, 0, none⟩) H.out.1 _⟩
  · have c0 := h.cell0
    obtain ⟨i0, hi, hz0, hz1, hz2⟩ := info_parts builderInfo
    have n0 := Lib.run_neq_ptr_same (P := Tryd.prog) w ⟨b, 0, none⟩ Tryd.underlying57 hi
    have H := Lib.hid h
    clear h
    go_enter Tryd.func154, Tryd.ntmps154
    go_wp2
    go_end0
    exact ⟨rfl, H.out, Below.refl B _⟩

theorem neBuilder : 59 ≠ 5 := by decide
set_option maxHeartbeats 2000000 in
set_option maxRecDepth 100000 in
theorem WriteString_any (B b : Nat) (bs : List Value) (s : ByteArray) (w : World) (h : Lib.IsBuilder 59 5 B b bs w) (hlen : bs.length + s.size ≤ 140737488355328) (hBw : B ≤ w.heap.size) :
    Calls Tryd.prog 153 #[.pointer (some ⟨b, 0, none⟩), .string s] w fun e w' => e = .returned (.tuple #[.int .i64 s.size, .nilIface]) ∧ (Lib.BuilderAt 59 5 B b (.pointer (some ⟨b, 0, none⟩)) (bs ++ Lib.strCells s) w' ∧ Below B w w') := by
  obtain ⟨i0, hi, hz0, hz1, hz2⟩ := info_parts u8Info
  go_enter Tryd.func153, Tryd.ntmps153
  go_wp2_with (go_at_call 154; refine (copyCheck_any B b bs _ h).mono ?_)
  rintro e w1 ⟨rfl, h1, hb1⟩
  obtain ⟨hB, v, hbk, hown, hne⟩ := h1
  have c0 : w1.cell? ⟨b, 0, none⟩ = some (.pointer (some ⟨b, 0, none⟩)) := by rw [Lib.cell_of_heap hbk]; rfl
  have c1 : w1.cell? ⟨b, 1, none⟩ = some v := by rw [Lib.cell_of_heap hbk]; rfl
  go_wp2_with (at_builtin; refine Lib.wpList_append_own_string _ rfl _ _ 35 9 rfl B 5 i0 Tryd.underlying35 Tryd.underlying9 hi hz0 hz1 hz2 _ _ _ rfl hown s rfl ?c3 ?c4 ?c5 ?_)
  case c3 => unfold maxLen; omega
  case c4 => omega
  case c5 => have := hb1.size; omega
  intro v' w2 hown' hgrow _
  have hlt : b < w1.heap.size := by
    rcases Nat.lt_or_ge b w1.heap.size with h' | h'
    · exact h'
    · simp [Array.getElem?_eq_none h'] at hbk
  have hb2 : w2.heap[b]? = some (.cells #[.pointer (some ⟨b, 0, none⟩), v] 59 (0, 0)) := by
    rw [hgrow.block b hlt (fun e => hne e.symm)]
    exact hbk
  have d0 : w2.cell? ⟨b, 0, none⟩ = some (.pointer (some ⟨b, 0, none⟩)) := by rw [Lib.cell_of_heap hb2]; rfl
  have d1 : w2.cell? ⟨b, 1, none⟩ = some v := by rw [Lib.cell_of_heap hb2]; rfl
  have f1 : w2.frozen? ⟨b, 1, none⟩ = false := Lib.frozen_of_heap hb2 1
  obtain ⟨ao, n', cap, rfl⟩ : ∃ ao n' cap, v' = .slice ao n' cap := by
    rcases hown'.2 with ⟨hv, _⟩ | ⟨g, cap, cur, hv, _⟩
    · exact ⟨_, _, _, hv⟩
    · exact ⟨_, _, _, hv⟩
  go_wp2
  go_ret2
  refine ⟨rfl, ?_, ?_⟩
  · exact Lib.BuilderAt.put (T := 59) (e := 5) hB hb2 (bs' := bs ++ Lib.strCells s) (by simpa [Lib.strCells_length] using hown') neBuilder
  · exact (hb1.grown hgrow (by have := hb1.size; omega) (fun k hk => (hown.lt k hk).1)).setCell (p := ⟨b, 1, none⟩) hB _

/-- A builder in block b whose buffer is v. -/
def BuildV (w : World) (B b : Nat) (v : Value) (bs : List Value) : Prop :=
  B ≤ b ∧ (∃ p, (p = .pointer none ∨ p = .pointer (some ⟨b, 0, none⟩)) ∧ w.heap[b]? = some (.cells #[p, v] 59 (0, 0))) ∧ w.ownsRow B 5 1 v bs.length bs ∧ v.ownBlock ≠ some b
theorem buildV_of {w : World} {B b : Nat} {bs : List Value} (h : Lib.IsBuilder 59 5 B b bs w) : ∃ v, BuildV w B b v bs := by
  rcases h with ⟨h1, v, h2, h3, h4⟩ | ⟨h1, v, h2, h3, h4⟩
  · exact ⟨v, h1, ⟨_, .inl rfl, h2⟩, h3, h4⟩
  · exact ⟨v, h1, ⟨_, .inr rfl, h2⟩, h3, h4⟩
theorem BuildV.is {w : World} {B b : Nat} {v : Value} {bs : List Value} (h : BuildV w B b v bs) : Lib.IsBuilder 59 5 B b bs w := by
  obtain ⟨h1, ⟨p, hp, h2⟩, h3, h4⟩ := h
  rcases hp with rfl | rfl
  · exact .inl ⟨h1, v, h2, h3, h4⟩
  · exact .inr ⟨h1, v, h2, h3, h4⟩
theorem BuildV.lt {w : World} {B b : Nat} {v : Value} {bs : List Value} (h : BuildV w B b v bs) : b < w.heap.size := by
  obtain ⟨h1, ⟨p, hp, h2⟩, h3, h4⟩ := h
  rcases Nat.lt_or_ge b w.heap.size with h' | h'
  · exact h'
  · rw [Array.getElem?_eq_none h'] at h2; cases h2
theorem BuildV.alloc {w : World} {B b : Nat} {v : Value} {bs : List Value} (h : BuildV w B b v bs) (o : Obj) : BuildV (w.alloc o) B b v bs := by
  have hl := h.lt
  obtain ⟨h1, ⟨p, hp, h2⟩, h3, h4⟩ := h
  exact ⟨h1, ⟨p, hp, ((World.grownBy_alloc w o none).block b hl (by simp)).trans h2⟩, h3.alloc o, h4⟩

set_option maxHeartbeats 1000000 in
set_option maxRecDepth 100000 in
theorem copyCheck_v (B b : Nat) (v : Value) (bs : List Value) (w : World) (h : BuildV w B b v bs) :
    Calls Tryd.prog 154 #[.pointer (some ⟨b, 0, none⟩)] w fun e w' => e = .returned (.tuple #[]) ∧ w'.heap[b]? = some (.cells #[.pointer (some ⟨b, 0, none⟩), v] 59 (0, 0)) ∧ w.grownBy w' (some b) := by
  obtain ⟨h1, ⟨p, hp, h2⟩, h3, h4⟩ := h
  rcases hp with rfl | rfl
  · have h : Lib.BuilderAt 59 5 B b (.pointer none) bs w := ⟨h1, v, h2, h3, h4⟩
    have c0 := h.cell0
    have f0 := h.frozen0
    have u0 := to_unsafe h
    have u1 := from_unsafe h
    have H2 := Lib.hid h2
    clear h h1 h2 h3 h4
    go_enter Tryd.func154, Tryd.ntmps154
    go_wp2
    rw [run_callFunc_extern Tryd.func155 (by kernel_rfl) (by kernel_rfl) (by kernel_rfl) (e := Extern.AbiNoEscape.same) (by kernel_rfl)]
    rw [Lib.run_noEscape]
    simp only [Result.andThen]
    rw [Oper.upon_value]
    go_wp2
    go_end0
    refine ⟨rfl, ?_, rfl, rfl, rfl, by show w.heap.size ≤ _; simp [World.setCell], fun j hj hne => ?_⟩
    · have := H2.out
      simp [World.setCell, Array.getElem?_modify, this]
    · exact Below.heap_setCell w ⟨b, 0, none⟩ _ j (fun e => hne (by rw [e]))
  · have h : Lib.BuilderAt 59 5 B b (.pointer (some ⟨b, 0, none⟩)) bs w := ⟨h1, v, h2, h3, h4⟩
    have c0 := h.cell0
    obtain ⟨i0, hi, hz0, hz1, hz2⟩ := info_parts builderInfo
    have n0 := Lib.run_neq_ptr_same (P := Tryd.prog) w ⟨b, 0, none⟩ Tryd.underlying57 hi
    have H2 := Lib.hid h2
    clear h h1 h2 h3 h4
    go_enter Tryd.func154, Tryd.ntmps154
    go_wp2
    go_end0
    exact ⟨rfl, H2.out, rfl, rfl, rfl, Nat.le_refl _, fun _ _ _ => rfl⟩

set_option maxHeartbeats 2000000 in
set_option maxRecDepth 100000 in
theorem WriteString_v (B b : Nat) (v : Value) (bs : List Value) (s : ByteArray) (w : World) (h : BuildV w B b v bs) (hlen : bs.length + s.size ≤ 140737488355328) (hBw : B ≤ w.heap.size) :
    Calls Tryd.prog 153 #[.pointer (some ⟨b, 0, none⟩), .string s] w fun e w' => e = .returned (.tuple #[.int .i64 s.size, .nilIface]) ∧ Hid ((∃ v', BuildV w' B b v' (bs ++ Lib.strCells s)) ∧ Below B w w' ∧ ∀ j, j < w.heap.size → j ≠ b → v.ownBlock ≠ some j → w'.heap[j]? = w.heap[j]?) := by
  obtain ⟨i0, hi, hz0, hz1, hz2⟩ := info_parts u8Info
  have hl := h.lt
  go_enter Tryd.func153, Tryd.ntmps153
  go_wp2_with (go_at_call 154; refine (copyCheck_v B b v bs _ h).mono ?_)
  rintro e w1 ⟨rfl, hbk, hg1⟩
  obtain ⟨hB, _, hown0, hne⟩ := h
  have hown : w1.ownsRow B 5 1 v bs.length bs := hown0.kept hg1 (.inr hne)
  have c0 : w1.cell? ⟨b, 0, none⟩ = some (.pointer (some ⟨b, 0, none⟩)) := by rw [Lib.cell_of_heap hbk]; rfl
  have c1 : w1.cell? ⟨b, 1, none⟩ = some v := by rw [Lib.cell_of_heap hbk]; rfl
  go_wp2_with (at_builtin; refine Lib.wpList_append_own_string _ rfl _ _ 35 9 rfl B 5 i0 Tryd.underlying35 Tryd.underlying9 hi hz0 hz1 hz2 _ _ _ rfl hown s rfl ?c3 ?c4 ?c5 ?_)
  case c3 => unfold maxLen; omega
  case c4 => omega
  case c5 => have := hg1.size; omega
  intro v' w2 hown' hgrow _
  have hlt : b < w1.heap.size := Nat.lt_of_lt_of_le hl hg1.size
  have hb2 : w2.heap[b]? = some (.cells #[.pointer (some ⟨b, 0, none⟩), v] 59 (0, 0)) := by
    rw [hgrow.block b hlt (fun e => hne e.symm)]
    exact hbk
  have d0 : w2.cell? ⟨b, 0, none⟩ = some (.pointer (some ⟨b, 0, none⟩)) := by rw [Lib.cell_of_heap hb2]; rfl
  have d1 : w2.cell? ⟨b, 1, none⟩ = some v := by rw [Lib.cell_of_heap hb2]; rfl
  have f1 : w2.frozen? ⟨b, 1, none⟩ = false := Lib.frozen_of_heap hb2 1
  obtain ⟨ao, n', cap, rfl⟩ : ∃ ao n' cap, v' = .slice ao n' cap := by
    rcases hown'.2 with ⟨hv, _⟩ | ⟨g, cap, cur, hv, _⟩
    · exact ⟨_, _, _, hv⟩
    · exact ⟨_, _, _, hv⟩
  go_wp2
  go_ret2
  refine ⟨rfl, Lib.hid ⟨?_, ?_, ?_⟩⟩
  · exact (buildV_of (.inr (Lib.BuilderAt.put (T := 59) (e := 5) hB hb2 (bs' := bs ++ Lib.strCells s) (by simpa [Lib.strCells_length] using hown') neBuilder)))
  · exact ((Below.grown (Below.refl B w) hg1 hBw (fun k hk => by cases hk; exact hB)).grown hgrow (by have := hg1.size; omega) (fun k hk => (hown.lt k hk).1)).setCell (p := ⟨b, 1, none⟩) hB _
  · intro j hj hjb hjv
    rw [Below.heap_setCell w2 ⟨b, 1, none⟩ _ j hjb, hgrow.block j (Nat.lt_of_lt_of_le hj hg1.size) (fun e => hjv e.symm), hg1.block j hj (fun e => hjb (by cases e; rfl))]
end Go.Proofs.YtfobjedobojbnabDoor
