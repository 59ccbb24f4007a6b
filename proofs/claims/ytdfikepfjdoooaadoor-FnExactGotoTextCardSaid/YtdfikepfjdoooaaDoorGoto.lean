/- Contracts: szGoto, toGoto, ValidGoto of the model and of the program. Condition: the table holds what the program's text lays. -/
import Derived.Test.YtdfikepfjdoooaaDoorIsLabelWalk
import Derived.Test.YtdfikepfjdoooaaDoorToken
namespace Go.Proofs.YtdfikepfjdoooaaDoor
open Go Go.RowKit

/-- Empty or a name. -/
def nmB (s : ByteArray) : Bool := s.size == 0 || isNameB s
/-- What ValidGoto answers. -/
def gotoB (a s f : ByteArray) : Bool := !(a.size != 0 && (s.size != 0 || f.size != 0)) && nmB a && nmB s && nmB f

theorem szGoto_fits (a s f : ByteArray) (W : World) (ht : (a.size : Int) + s.size + f.size ≤ 1048576) :
    Calls Tryd.prog 38 #[.agg #[.string a, .string s, .string f], .int .i64 1048576] W fun e w' => e = .returned (.int .i64 (1048576 - a.size - s.size - f.size)) ∧ Below W.heap.size W w' := by
  have a0 : (0 : Int) ≤ a.size := by omega
  have s0 : (0 : Int) ≤ s.size := by omega
  have f0 : (0 : Int) ≤ f.size := by omega
  go_enter Tryd.func38, Tryd.ntmps38
  go_wp2
  all_goals go_ret
  all_goals exact ⟨rfl, (Below.refl _ _).alloc (Nat.le_refl _) _⟩
theorem szGoto_long (a s f : ByteArray) (W : World) (ht : ¬ (a.size : Int) + s.size + f.size ≤ 1048576) (ha : a.size ≤ maxLen) (hs : s.size ≤ maxLen) (hf : f.size ≤ maxLen) :
    Calls Tryd.prog 38 #[.agg #[.string a, .string s, .string f], .int .i64 1048576] W fun e w' => e = .returned (.int .i64 (-1)) ∧ Below W.heap.size W w' := by
  unfold maxLen at ha hs hf
  have a0 : (0 : Int) ≤ a.size := by omega
  have s0 : (0 : Int) ≤ s.size := by omega
  have f0 : (0 : Int) ≤ f.size := by omega
  by_cases h1 : (a.size : Int) ≤ 1048576
  · by_cases h2 : (a.size : Int) + s.size ≤ 1048576
    · go_enter Tryd.func38, Tryd.ntmps38
      go_wp2
      all_goals go_ret
      all_goals exact ⟨rfl, (Below.refl _ _).alloc (Nat.le_refl _) _⟩
    · go_enter Tryd.func38, Tryd.ntmps38
      go_wp2
      all_goals go_ret
      all_goals exact ⟨rfl, (Below.refl _ _).alloc (Nat.le_refl _) _⟩
  · go_enter Tryd.func38, Tryd.ntmps38
    go_wp2
    all_goals go_ret
    all_goals exact ⟨rfl, (Below.refl _ _).alloc (Nat.le_refl _) _⟩
theorem toGoto_any (a s f : ByteArray) (W : World) :
    Calls Tryd.prog 40 #[.agg #[.string a, .string s, .string f]] W fun e w' => e = .returned (.agg #[.string a, .string s, .string f]) ∧ Below W.heap.size W w' := by
  go_enter Tryd.func40, Tryd.ntmps40
  go_wp2
  exact bodyPost_ret (v := .agg #[.string a, .string s, .string f]) (by simp [results, Tryd.results40, go_sem]) rfl
    ⟨rfl, by repeat (first | exact Below.refl _ _ | refine Below.setCell ?_ (by first | (simp; done) | (simp; omega)) _ | refine Below.alloc ?_ (by first | (simp; done) | (simp; omega)) _)⟩

theorem l04Name_any (s : ByteArray) (W : World) (hs : s.size ≤ maxLen) :
    Calls Tryd.prog 86 #[.string s] W fun e w' => e = .returned (.bool (nmB s)) ∧ W = w' := by
  have HS := Lib.hid hs
  clear hs
  unfold nmB
  obtain ⟨x, hx⟩ : ∃ x, isNameB s = x := ⟨_, rfl⟩
  have HX := Lib.hid hx
  rw [hx]
  clear hx
  by_cases h0 : s.size = 0
  · have e1 := nil_of_size h0
    have e2 := isEmpty_of_size h0
    have e3 : (s.size == 0) = true := by simp [h0]
    rw [e3]
    clear e3 h0
    go_enter Tryd.func86, Tryd.ntmps86
    go_wp2_with fail
    go_ret
    exact ⟨rfl, rfl⟩
  · have hp : 0 < s.size := by omega
    have e1 := ne_nil_of_size hp
    have e2 := not_isEmpty_of_size hp
    have e3 : (s.size == 0) = false := by simp [h0]
    rw [e3]
    clear e3 h0
    go_enter Tryd.func86, Tryd.ntmps86
    go_wp2_with (go_at_call 85; refine (spec_IsName_any _ _ HS.out).mono ?_; rintro e w' ⟨rfl, rfl⟩; rw [HX.out])
    go_ret
    exact ⟨rfl, rfl⟩
theorem labelOrEmpty_any (s : ByteArray) (W : World) (hs : s.size ≤ maxLen) (hT : Classes W) :
    Calls Tryd.prog 87 #[.string s] W fun e w' => e = .returned (.bool (nmB s)) ∧ Below W.heap.size W w' := by
  have HS := Lib.hid hs
  have HT := Lib.hid hT
  clear hs hT
  unfold nmB
  obtain ⟨x, hx⟩ : ∃ x, isNameB s = x := ⟨_, rfl⟩
  have HX := Lib.hid hx
  rw [hx]
  clear hx
  by_cases h0 : s.size = 0
  · have e1 := nil_of_size h0
    have e2 := isEmpty_of_size h0
    have e3 : (s.size == 0) = true := by simp [h0]
    rw [e3]
    clear e3 h0
    go_enter Tryd.func87, Tryd.ntmps87
    go_wp2_with fail
    go_ret
    exact ⟨rfl, Below.refl _ _⟩
  · have hp : 0 < s.size := by omega
    have e1 := ne_nil_of_size hp
    have e2 := not_isEmpty_of_size hp
    have e3 : (s.size == 0) = false := by simp [h0]
    rw [e3]
    clear e3 h0
    go_enter Tryd.func87, Tryd.ntmps87
    go_wp2_with (go_at_call 37; refine (impl_IsLabel_any _ _ HS.out HT.out).mono ?_; rintro e w' ⟨rfl, hb⟩; rw [HX.out]; have HB := Lib.hid hb; clear hb)
    go_ret
    exact ⟨rfl, HB.out⟩

/-- What decides ValidGoto. -/
theorem gotoB_cases (a s f : ByteArray) : (a.size ≠ 0 ∧ s.size ≠ 0 ∧ gotoB a s f = false) ∨ (a.size ≠ 0 ∧ s.size = 0 ∧ f.size ≠ 0 ∧ gotoB a s f = false) ∨
    ((a.size = 0 ∨ (a.size ≠ 0 ∧ s.size = 0 ∧ f.size = 0)) ∧ gotoB a s f = (nmB a && nmB s && nmB f)) := by
  unfold gotoB
  by_cases ha : a.size = 0
  · exact .inr (.inr ⟨.inl ha, by simp [ha]⟩)
  · by_cases hs : s.size = 0
    · by_cases hf : f.size = 0
      · exact .inr (.inr ⟨.inr ⟨ha, hs, hf⟩, by simp [hs, hf]⟩)
      · exact .inr (.inl ⟨ha, hs, hf, by simp [ha, hs, hf]⟩)
    · exact .inl ⟨ha, hs, by simp [ha, hs]⟩

set_option maxHeartbeats 2000000 in
set_option maxRecDepth 100000 in
theorem spec_ValidGoto_any (a s f : ByteArray) (W : World) (ha : a.size ≤ maxLen) (hs : s.size ≤ maxLen) (hf : f.size ≤ maxLen) :
    Calls Tryd.prog 39 #[.agg #[.string a, .string s, .string f]] W fun e w' => e = .returned (.bool (gotoB a s f)) ∧ Below W.heap.size W w' := by
  have HA : Hid (∀ w, Calls Tryd.prog 86 #[.string a] w fun e w' => e = .returned (.bool (nmB a)) ∧ w = w') := fun w => l04Name_any a w ha
  have HS : Hid (∀ w, Calls Tryd.prog 86 #[.string s] w fun e w' => e = .returned (.bool (nmB s)) ∧ w = w') := fun w => l04Name_any s w hs
  have HF : Hid (∀ w, Calls Tryd.prog 86 #[.string f] w fun e w' => e = .returned (.bool (nmB f)) ∧ w = w') := fun w => l04Name_any f w hf
  clear ha hs hf
  rcases gotoB_cases a s f with ⟨h1, h2, h3⟩ | ⟨h1, h2, h3, h4⟩ | ⟨h, h4⟩
  · rw [h3]
    have e1 := ne_nil_of_size (s := a) (by omega)
    have e2 := not_isEmpty_of_size (s := a) (by omega)
    have e3 := ne_nil_of_size (s := s) (by omega)
    have e4 := not_isEmpty_of_size (s := s) (by omega)
    clear h1 h2 h3
    go_enter Tryd.func39, Tryd.ntmps39
    go_wp2_with fail
    go_ret
    exact ⟨rfl, (Below.refl _ _).alloc (Nat.le_refl _) _⟩
  · rw [h4]
    have e1 := ne_nil_of_size (s := a) (by omega)
    have e2 := not_isEmpty_of_size (s := a) (by omega)
    have e3 := nil_of_size h2
    have e4 := isEmpty_of_size h2
    have e5 := ne_nil_of_size (s := f) (by omega)
    have e6 := not_isEmpty_of_size (s := f) (by omega)
    clear h1 h2 h3 h4
    go_enter Tryd.func39, Tryd.ntmps39
    go_wp2_with fail
    go_ret
    exact ⟨rfl, (Below.refl _ _).alloc (Nat.le_refl _) _⟩
  · rw [h4]
    generalize nmB a = x at HA ⊢
    generalize nmB s = y at HS ⊢
    generalize nmB f = z at HF ⊢
    clear h4
    rcases h with h | ⟨h1, h2, h3⟩
    · have e1 := nil_of_size h
      have e2 := isEmpty_of_size h
      clear h
      cases x <;> cases y <;> cases z
      all_goals
        go_enter Tryd.func39, Tryd.ntmps39
        go_wp2_with (go_at_call 86; first | (refine (HA.out _).mono ?_; rintro e w' ⟨rfl, rfl⟩; clear HA) | (refine (HS.out _).mono ?_; rintro e w' ⟨rfl, rfl⟩; clear HS) | (refine (HF.out _).mono ?_; rintro e w' ⟨rfl, rfl⟩))
        go_ret
        exact ⟨rfl, (Below.refl _ _).alloc (Nat.le_refl _) _⟩
    · have e1 := ne_nil_of_size (s := a) (by omega)
      have e2 := not_isEmpty_of_size (s := a) (by omega)
      have e3 := nil_of_size h2
      have e4 := isEmpty_of_size h2
      have e5 := nil_of_size h3
      have e6 := isEmpty_of_size h3
      clear h1 h2 h3
      cases x <;> cases y <;> cases z
      all_goals
        go_enter Tryd.func39, Tryd.ntmps39
        go_wp2_with (go_at_call 86; first | (refine (HA.out _).mono ?_; rintro e w' ⟨rfl, rfl⟩; clear HA) | (refine (HS.out _).mono ?_; rintro e w' ⟨rfl, rfl⟩; clear HS) | (refine (HF.out _).mono ?_; rintro e w' ⟨rfl, rfl⟩))
        go_ret
        exact ⟨rfl, (Below.refl _ _).alloc (Nat.le_refl _) _⟩

set_option maxHeartbeats 4000000 in
set_option maxRecDepth 100000 in
theorem impl_ValidGoto_any (a s f : ByteArray) (W : World) (ha : a.size ≤ maxLen) (hs : s.size ≤ maxLen) (hf : f.size ≤ maxLen) (hT : Classes W) :
    Calls Tryd.prog 41 #[.agg #[.string a, .string s, .string f]] W fun e w' => e = .returned (.bool (gotoB a s f)) ∧ Below W.heap.size W w' := by
  have HT : Hid (Classes W) := hT
  have HG : Hid (0 < W.heap.size) := heap_pos (hT.at_ 0 (by decide))
  have HA : Hid (∀ w, Classes w → Calls Tryd.prog 87 #[.string a] w fun e w' => e = .returned (.bool (nmB a)) ∧ Below w.heap.size w w') := fun w h => labelOrEmpty_any a w ha h
  have HS : Hid (∀ w, Classes w → Calls Tryd.prog 87 #[.string s] w fun e w' => e = .returned (.bool (nmB s)) ∧ Below w.heap.size w w') := fun w h => labelOrEmpty_any s w hs h
  have HF : Hid (∀ w, Classes w → Calls Tryd.prog 87 #[.string f] w fun e w' => e = .returned (.bool (nmB f)) ∧ Below w.heap.size w w') := fun w h => labelOrEmpty_any f w hf h
  clear ha hs hf hT
  rcases gotoB_cases a s f with ⟨h1, h2, h3⟩ | ⟨h1, h2, h3, h4⟩ | ⟨h, h4⟩
  · rw [h3]
    have e1 := ne_nil_of_size (s := a) (by omega)
    have e2 := not_isEmpty_of_size (s := a) (by omega)
    have e3 := ne_nil_of_size (s := s) (by omega)
    have e4 := not_isEmpty_of_size (s := s) (by omega)
    clear h1 h2 h3
    go_enter Tryd.func41, Tryd.ntmps41
    go_wp2_with fail
    go_ret
    exact ⟨rfl, (Below.refl _ _).alloc (Nat.le_refl _) _⟩
  · rw [h4]
    have e1 := ne_nil_of_size (s := a) (by omega)
    have e2 := not_isEmpty_of_size (s := a) (by omega)
    have e3 := nil_of_size h2
    have e4 := isEmpty_of_size h2
    have e5 := ne_nil_of_size (s := f) (by omega)
    have e6 := not_isEmpty_of_size (s := f) (by omega)
    clear h1 h2 h3 h4
    go_enter Tryd.func41, Tryd.ntmps41
    go_wp2_with fail
    go_ret
    exact ⟨rfl, (Below.refl _ _).alloc (Nat.le_refl _) _⟩
  · rw [h4]
    generalize nmB a = x at HA ⊢
    generalize nmB s = y at HS ⊢
    generalize nmB f = z at HF ⊢
    clear h4
    rcases h with h | ⟨h1, h2, h3⟩
    · have e1 := nil_of_size h
      have e2 := isEmpty_of_size h
      clear h
      cases x <;> cases y <;> cases z
      all_goals
        go_enter Tryd.func41, Tryd.ntmps41
        go_wp2_with (first
          | (go_at_call 87; refine (HA.out _ (HT.out.below ((Below.refl _ _).alloc (Nat.le_refl _) _) HG.out)).mono ?_; rintro e w1 ⟨rfl, hb⟩; have B1 : Hid (Below W.heap.size W w1) := ((Below.refl _ _).alloc (Nat.le_refl _) _).trans (hb.mono (by simp)); have l1 : W.heap.size < w1.heap.size := Nat.lt_of_lt_of_le (by simp) hb.size; obtain ⟨k1, f1⟩ := bcell hb; clear hb HA)
          | (go_at_call 87; refine (HS.out _ (HT.out.below B1.out HG.out)).mono ?_; rintro e w2 ⟨rfl, hb⟩; have B2 : Hid (Below W.heap.size W w2) := B1.out.trans (hb.mono B1.out.size); have l2 : W.heap.size < w2.heap.size := Nat.lt_of_lt_of_le l1 hb.size; obtain ⟨k2, f2⟩ := bcell hb; clear hb HS)
          | (go_at_call 87; refine (HF.out _ (HT.out.below B2.out HG.out)).mono ?_; rintro e w3 ⟨rfl, hb⟩; have B3 : Hid (Below W.heap.size W w3) := B2.out.trans (hb.mono B2.out.size); clear hb))
        go_ret
        first | exact ⟨rfl, B3.out⟩ | exact ⟨rfl, B2.out⟩ | exact ⟨rfl, B1.out⟩
    · have e1 := ne_nil_of_size (s := a) (by omega)
      have e2 := not_isEmpty_of_size (s := a) (by omega)
      have e3 := nil_of_size h2
      have e4 := isEmpty_of_size h2
      have e5 := nil_of_size h3
      have e6 := isEmpty_of_size h3
      clear h1 h2 h3
      cases x <;> cases y <;> cases z
      all_goals
        go_enter Tryd.func41, Tryd.ntmps41
        go_wp2_with (first
          | (go_at_call 87; refine (HA.out _ (HT.out.below ((Below.refl _ _).alloc (Nat.le_refl _) _) HG.out)).mono ?_; rintro e w1 ⟨rfl, hb⟩; have B1 : Hid (Below W.heap.size W w1) := ((Below.refl _ _).alloc (Nat.le_refl _) _).trans (hb.mono (by simp)); have l1 : W.heap.size < w1.heap.size := Nat.lt_of_lt_of_le (by simp) hb.size; obtain ⟨k1, f1⟩ := bcell hb; clear hb HA)
          | (go_at_call 87; refine (HS.out _ (HT.out.below B1.out HG.out)).mono ?_; rintro e w2 ⟨rfl, hb⟩; have B2 : Hid (Below W.heap.size W w2) := B1.out.trans (hb.mono B1.out.size); have l2 : W.heap.size < w2.heap.size := Nat.lt_of_lt_of_le l1 hb.size; obtain ⟨k2, f2⟩ := bcell hb; clear hb HS)
          | (go_at_call 87; refine (HF.out _ (HT.out.below B2.out HG.out)).mono ?_; rintro e w3 ⟨rfl, hb⟩; have B3 : Hid (Below W.heap.size W w3) := B2.out.trans (hb.mono B2.out.size); clear hb))
        go_ret
        first | exact ⟨rfl, B3.out⟩ | exact ⟨rfl, B2.out⟩ | exact ⟨rfl, B1.out⟩
end Go.Proofs.YtdfikepfjdoooaaDoor
