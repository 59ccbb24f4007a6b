/- Contracts: GotoText of the model and of the program. Condition: the table holds what the program's text lays. -/
import Derived.Test.YtdfikepfjdoooaaDoorGoto
import Derived.Test.YtdfikepfjdoooaaDoorMark
import Derived.Deep.QuietTactic
import Derived.BigQuiet
namespace Go.Proofs.YtdfikepfjdoooaaDoor
open Go Go.RowKit

/-- A target with the word ahead of it; nothing without a label. -/
def targT (w l : ByteArray) : ByteArray := if l.size = 0 then ⟨#[]⟩ else w ++ ⟨#[40]⟩ ++ l ++ ⟨#[41]⟩
theorem targ_any (w l : ByteArray) (W : World) (hw : w.size ≤ 1) (hl : l.size ≤ 1048576) :
    Calls Tryd.prog 88 #[.string w, .string l] W fun e w' => e = .returned (.string (targT w l)) ∧ w' = W := by
  unfold targT
  by_cases h0 : l.size = 0
  · rw [if_pos h0]
    have e1 := nil_of_size h0
    have e2 := isEmpty_of_size h0
    clear h0
    go_enter Tryd.func88, Tryd.ntmps88
    go_wp2_with fail
    go_ret
    exact ⟨rfl, rfl⟩
  · rw [if_neg h0]
    have e1 := ne_nil_of_size (s := l) (by omega)
    have e2 := not_isEmpty_of_size (s := l) (by omega)
    clear h0
    go_enter Tryd.func88, Tryd.ntmps88
    go_wp2_with fail
    go_ret
    exact ⟨rfl, rfl⟩
/-- What GotoText answers. -/
def gotoT (a s f : ByteArray) : ByteArray :=
  if gotoB a s f = true then (if a.size = 0 ∧ s.size = 0 ∧ f.size = 0 then ⟨#[]⟩ else ⟨#[58]⟩ ++ targT ⟨#[]⟩ a ++ targT ⟨#[83]⟩ s ++ targT ⟨#[70]⟩ f) else ⟨#[]⟩

theorem targ_size (w l : ByteArray) (hw : w.size ≤ 1) : (targT w l).size ≤ l.size + 3 := by
  unfold targT
  split
  · exact Nat.zero_le _
  · simp only [ByteArray.size_append]
    show w.size + 1 + l.size + 1 ≤ _
    omega
set_option maxHeartbeats 4000000 in
set_option maxRecDepth 100000 in
theorem spec_GotoText_any (a s f : ByteArray) (W : World) (ha : a.size ≤ 1048576) (hs : s.size ≤ 1048576) (hf : f.size ≤ 1048576) :
    Calls Tryd.prog 42 #[.agg #[.string a, .string s, .string f]] W fun e w' => e = .returned (.string (gotoT a s f)) ∧ Below W.heap.size W w' := by
  have HA : Hid (a.size ≤ maxLen) := by show _ ≤ _; unfold maxLen; omega
  have HS : Hid (s.size ≤ maxLen) := by show _ ≤ _; unfold maxLen; omega
  have HF : Hid (f.size ≤ maxLen) := by show _ ≤ _; unfold maxLen; omega
  unfold gotoT
  obtain ⟨x, hx⟩ : ∃ x, gotoB a s f = x := ⟨_, rfl⟩
  have HX := Lib.hid hx
  have hcs := gotoB_cases a s f
  rw [hx] at hcs ⊢
  clear hx
  cases x
  · clear hcs
    rw [if_neg (by simp)]
    go_enter Tryd.func42, Tryd.ntmps42
    go_wp2_with (go_at_call 39; refine (spec_ValidGoto_any _ _ _ _ HA.out HS.out HF.out).mono ?_; rintro e w1 ⟨rfl, hb⟩; rw [HX.out]; have HB := Lib.hid (((Below.refl _ _).alloc (Nat.le_refl _) _).trans (hb.mono (B' := W.heap.size) (by simp))); clear hb)
    go_ret
    exact ⟨rfl, HB.out⟩
  · rw [if_pos rfl]
    by_cases h0 : a.size = 0
    · by_cases h1 : s.size = 0
      · by_cases h2 : f.size = 0
        · rw [if_pos ⟨h0, h1, h2⟩]
          have e1 := nil_of_size h0
          have e1' := isEmpty_of_size h0
          have e2 := nil_of_size h1
          have e2' := isEmpty_of_size h1
          have e3 := nil_of_size h2
          have e3' := isEmpty_of_size h2
          have H0 := Lib.hid h0
          have H1 := Lib.hid h1
          have H2 := Lib.hid h2
          clear h0 h1 h2 hcs
          go_enter Tryd.func42, Tryd.ntmps42
          go_wp2_with (go_at_call 39; refine (spec_ValidGoto_any _ _ _ _ HA.out HS.out HF.out).mono ?_; rintro e w1 ⟨rfl, hb⟩; rw [HX.out]; obtain ⟨k1, f1⟩ := bcell hb; have HB := Lib.hid (((Below.refl _ _).alloc (Nat.le_refl _) _).trans (hb.mono (B' := W.heap.size) (by simp))); clear hb)
          go_ret
          exact ⟨rfl, HB.out⟩
        · rw [if_neg (fun h => h2 h.2.2)]
          have e1 := nil_of_size h0
          have e1' := isEmpty_of_size h0
          have e2 := nil_of_size h1
          have e2' := isEmpty_of_size h1
          have e3 := ne_nil_of_size (s := f) (by omega)
          have e3' := not_isEmpty_of_size (s := f) (by omega)
          have H0 := Lib.hid h0
          have H1 := Lib.hid h1
          have H2 := Lib.hid h2
          clear h0 h1 h2 hcs
          go_enter Tryd.func42, Tryd.ntmps42
          go_wp2_with (go_at_call 39; refine (spec_ValidGoto_any _ _ _ _ HA.out HS.out HF.out).mono ?_; rintro e w1 ⟨rfl, hb⟩; rw [HX.out]; obtain ⟨k1, f1⟩ := bcell hb; have HB := Lib.hid (((Below.refl _ _).alloc (Nat.le_refl _) _).trans (hb.mono (B' := W.heap.size) (by simp))); clear hb)
          go_ret
          exact ⟨str_ret (by unfold targT; rw [if_pos H0.out, if_pos H1.out, if_neg H2.out]; apply ByteArray.ext; simp), HB.out⟩
      · rw [if_neg (fun h => h1 h.2.1)]
        by_cases h2 : f.size = 0
        · have e0 := h2
          have e1 := nil_of_size h0
          have e1' := isEmpty_of_size h0
          have e2 := ne_nil_of_size (s := s) (by omega)
          have e2' := not_isEmpty_of_size (s := s) (by omega)
          have e3 := nil_of_size h2
          have e3' := isEmpty_of_size h2
          have H0 := Lib.hid h0
          have H1 := Lib.hid h1
          have H2 := Lib.hid h2
          clear e0
          clear h0 h1 h2 hcs
          go_enter Tryd.func42, Tryd.ntmps42
          go_wp2_with (go_at_call 39; refine (spec_ValidGoto_any _ _ _ _ HA.out HS.out HF.out).mono ?_; rintro e w1 ⟨rfl, hb⟩; rw [HX.out]; obtain ⟨k1, f1⟩ := bcell hb; have HB := Lib.hid (((Below.refl _ _).alloc (Nat.le_refl _) _).trans (hb.mono (B' := W.heap.size) (by simp))); clear hb)
          go_ret
          exact ⟨str_ret (by unfold targT; rw [if_pos H0.out, if_neg H1.out, if_pos H2.out]; apply ByteArray.ext; simp), HB.out⟩
        · have e0 := h2
          have e1 := nil_of_size h0
          have e1' := isEmpty_of_size h0
          have e2 := ne_nil_of_size (s := s) (by omega)
          have e2' := not_isEmpty_of_size (s := s) (by omega)
          have e3 := ne_nil_of_size (s := f) (by omega)
          have e3' := not_isEmpty_of_size (s := f) (by omega)
          have H0 := Lib.hid h0
          have H1 := Lib.hid h1
          have H2 := Lib.hid h2
          clear e0
          clear h0 h1 h2 hcs
          go_enter Tryd.func42, Tryd.ntmps42
          go_wp2_with (go_at_call 39; refine (spec_ValidGoto_any _ _ _ _ HA.out HS.out HF.out).mono ?_; rintro e w1 ⟨rfl, hb⟩; rw [HX.out]; obtain ⟨k1, f1⟩ := bcell hb; have HB := Lib.hid (((Below.refl _ _).alloc (Nat.le_refl _) _).trans (hb.mono (B' := W.heap.size) (by simp))); clear hb)
          go_ret
          exact ⟨str_ret (by unfold targT; rw [if_pos H0.out, if_neg H1.out, if_neg H2.out]; apply ByteArray.ext; simp), HB.out⟩
    · rw [if_neg (fun h => h0 h.1)]
      obtain ⟨h1, h2⟩ : s.size = 0 ∧ f.size = 0 := by
        rcases hcs with ⟨_, _, h⟩ | ⟨_, _, _, h⟩ | ⟨h | ⟨_, h⟩, _⟩
        · cases h
        · cases h
        · exact absurd h h0
        · exact h
      have e1 := ne_nil_of_size (s := a) (by omega)
      have e1' := not_isEmpty_of_size (s := a) (by omega)
      have e2 := nil_of_size h1
      have e2' := isEmpty_of_size h1
      have e3 := nil_of_size h2
      have e3' := isEmpty_of_size h2
      have H0 := Lib.hid h0
      have H1 := Lib.hid h1
      have H2 := Lib.hid h2
      clear h0 h1 h2 hcs
      go_enter Tryd.func42, Tryd.ntmps42
      go_wp2_with (go_at_call 39; refine (spec_ValidGoto_any _ _ _ _ HA.out HS.out HF.out).mono ?_; rintro e w1 ⟨rfl, hb⟩; rw [HX.out]; obtain ⟨k1, f1⟩ := bcell hb; have HB := Lib.hid (((Below.refl _ _).alloc (Nat.le_refl _) _).trans (hb.mono (B' := W.heap.size) (by simp))); clear hb)
      go_ret
      exact ⟨str_ret (by unfold targT; rw [if_neg H0.out, if_pos H1.out, if_pos H2.out]; apply ByteArray.ext; simp), HB.out⟩
set_option maxHeartbeats 4000000 in
set_option maxRecDepth 100000 in
theorem impl_GotoText_any (a s f : ByteArray) (W : World) (ha : a.size ≤ 1048576) (hs : s.size ≤ 1048576) (hf : f.size ≤ 1048576) (hT : Classes W) :
    Calls Tryd.prog 43 #[.agg #[.string a, .string s, .string f]] W fun e w' => e = .returned (.string (gotoT a s f)) ∧ Below W.heap.size W w' := by
  have HA : Hid (a.size ≤ maxLen) := by show _ ≤ _; unfold maxLen; omega
  have HS : Hid (s.size ≤ maxLen) := by show _ ≤ _; unfold maxLen; omega
  have HF : Hid (f.size ≤ maxLen) := by show _ ≤ _; unfold maxLen; omega
  have HT : Hid (Classes W) := hT
  have HG : Hid (0 < W.heap.size) := heap_pos (hT.at_ 0 (by decide))
  have ZA := Lib.hid ha
  have ZS := Lib.hid hs
  have ZF := Lib.hid hf
  clear hT
  unfold gotoT
  obtain ⟨x, hx⟩ : ∃ x, gotoB a s f = x := ⟨_, rfl⟩
  have HX := Lib.hid hx
  have hcs := gotoB_cases a s f
  rw [hx] at hcs ⊢
  clear hx
  cases x
  · clear hcs
    rw [if_neg (by simp)]
    go_enter Tryd.func43, Tryd.ntmps43
    go_wp2_with ((go_at_call 41; refine (impl_ValidGoto_any _ _ _ _ HA.out HS.out HF.out (HT.out.below ((Below.refl _ _).alloc (Nat.le_refl _) _) HG.out)).mono ?_; rintro e w1 ⟨rfl, hb⟩; rw [HX.out]; have HB := Lib.hid (((Below.refl _ _).alloc (Nat.le_refl _) _).trans (hb.mono (B' := W.heap.size) (by simp))); clear hb))
    go_ret
    first | exact ⟨rfl, HB.out⟩ | exact ⟨rfl, below_drewN HB.out _⟩
  · rw [if_pos rfl]
    by_cases h0 : a.size = 0
    · by_cases h1 : s.size = 0
      · by_cases h2 : f.size = 0
        · rw [if_pos ⟨h0, h1, h2⟩]
          have e1 := nil_of_size h0
          have e1' := isEmpty_of_size h0
          have e2 := nil_of_size h1
          have e2' := isEmpty_of_size h1
          have e3 := nil_of_size h2
          have e3' := isEmpty_of_size h2
          have H0 := Lib.hid h0
          have H1 := Lib.hid h1
          have H2 := Lib.hid h2
          clear h0 h1 h2
          have la := targ_size ⟨#[]⟩ a (by decide)
          have ls := targ_size ⟨#[83]⟩ s (by decide)
          have lf := targ_size ⟨#[70]⟩ f (by decide)
          clear hcs
          go_enter Tryd.func43, Tryd.ntmps43
          go_wp2_with ((go_at_call 41; refine (impl_ValidGoto_any _ _ _ _ HA.out HS.out HF.out (HT.out.below ((Below.refl _ _).alloc (Nat.le_refl _) _) HG.out)).mono ?_; rintro e w1 ⟨rfl, hb⟩; rw [HX.out]; obtain ⟨k1, f1⟩ := bcell hb; have HB := Lib.hid (((Below.refl _ _).alloc (Nat.le_refl _) _).trans (hb.mono (B' := W.heap.size) (by simp))); clear hb))
          go_ret
          first | exact ⟨rfl, HB.out⟩ | exact ⟨rfl, below_drewN HB.out _⟩
        · rw [if_neg (fun h => h2 h.2.2)]
          have e1 := nil_of_size h0
          have e1' := isEmpty_of_size h0
          have e2 := nil_of_size h1
          have e2' := isEmpty_of_size h1
          have e3 := ne_nil_of_size (s := f) (by omega)
          have e3' := not_isEmpty_of_size (s := f) (by omega)
          have H0 := Lib.hid h0
          have H1 := Lib.hid h1
          have H2 := Lib.hid h2
          clear h0 h1 h2
          have la := targ_size ⟨#[]⟩ a (by decide)
          have ls := targ_size ⟨#[83]⟩ s (by decide)
          have lf := targ_size ⟨#[70]⟩ f (by decide)
          clear hcs
          go_enter Tryd.func43, Tryd.ntmps43
          go_wp2_with ((go_at_call 41; refine (impl_ValidGoto_any _ _ _ _ HA.out HS.out HF.out (HT.out.below ((Below.refl _ _).alloc (Nat.le_refl _) _) HG.out)).mono ?_; rintro e w1 ⟨rfl, hb⟩; rw [HX.out]; obtain ⟨k1, f1⟩ := bcell hb; have HB := Lib.hid (((Below.refl _ _).alloc (Nat.le_refl _) _).trans (hb.mono (B' := W.heap.size) (by simp))); clear hb))
          go_quiet ((go_at_call 88; exact Calls.quiet_of_same (targ_any _ _ _ (by decide) (by first | exact ZA.out | exact ZS.out | exact ZF.out))))
          go_wp2_with fail
          go_ret
          first | exact ⟨rfl, HB.out⟩ | exact ⟨rfl, below_drewN HB.out _⟩
      · rw [if_neg (fun h => h1 h.2.1)]
        by_cases h2 : f.size = 0
        · have e0 := h2
          have e1 := nil_of_size h0
          have e1' := isEmpty_of_size h0
          have e2 := ne_nil_of_size (s := s) (by omega)
          have e2' := not_isEmpty_of_size (s := s) (by omega)
          have e3 := nil_of_size h2
          have e3' := isEmpty_of_size h2
          have H0 := Lib.hid h0
          have H1 := Lib.hid h1
          have H2 := Lib.hid h2
          clear e0
          clear h0 h1 h2
          have la := targ_size ⟨#[]⟩ a (by decide)
          have ls := targ_size ⟨#[83]⟩ s (by decide)
          have lf := targ_size ⟨#[70]⟩ f (by decide)
          clear hcs
          go_enter Tryd.func43, Tryd.ntmps43
          go_wp2_with ((go_at_call 41; refine (impl_ValidGoto_any _ _ _ _ HA.out HS.out HF.out (HT.out.below ((Below.refl _ _).alloc (Nat.le_refl _) _) HG.out)).mono ?_; rintro e w1 ⟨rfl, hb⟩; rw [HX.out]; obtain ⟨k1, f1⟩ := bcell hb; have HB := Lib.hid (((Below.refl _ _).alloc (Nat.le_refl _) _).trans (hb.mono (B' := W.heap.size) (by simp))); clear hb))
          go_quiet ((go_at_call 88; exact Calls.quiet_of_same (targ_any _ _ _ (by decide) (by first | exact ZA.out | exact ZS.out | exact ZF.out))))
          go_wp2_with fail
          go_ret
          first | exact ⟨rfl, HB.out⟩ | exact ⟨rfl, below_drewN HB.out _⟩
        · have e0 := h2
          have e1 := nil_of_size h0
          have e1' := isEmpty_of_size h0
          have e2 := ne_nil_of_size (s := s) (by omega)
          have e2' := not_isEmpty_of_size (s := s) (by omega)
          have e3 := ne_nil_of_size (s := f) (by omega)
          have e3' := not_isEmpty_of_size (s := f) (by omega)
          have H0 := Lib.hid h0
          have H1 := Lib.hid h1
          have H2 := Lib.hid h2
          clear e0
          clear h0 h1 h2
          have la := targ_size ⟨#[]⟩ a (by decide)
          have ls := targ_size ⟨#[83]⟩ s (by decide)
          have lf := targ_size ⟨#[70]⟩ f (by decide)
          clear hcs
          go_enter Tryd.func43, Tryd.ntmps43
          go_wp2_with ((go_at_call 41; refine (impl_ValidGoto_any _ _ _ _ HA.out HS.out HF.out (HT.out.below ((Below.refl _ _).alloc (Nat.le_refl _) _) HG.out)).mono ?_; rintro e w1 ⟨rfl, hb⟩; rw [HX.out]; obtain ⟨k1, f1⟩ := bcell hb; have HB := Lib.hid (((Below.refl _ _).alloc (Nat.le_refl _) _).trans (hb.mono (B' := W.heap.size) (by simp))); clear hb))
          go_quiet ((go_at_call 88; exact Calls.quiet_of_same (targ_any _ _ _ (by decide) (by first | exact ZA.out | exact ZS.out | exact ZF.out))))
          go_wp2_with fail
          go_ret
          first | exact ⟨rfl, HB.out⟩ | exact ⟨rfl, below_drewN HB.out _⟩
    · rw [if_neg (fun h => h0 h.1)]
      obtain ⟨h1, h2⟩ : s.size = 0 ∧ f.size = 0 := by
        rcases hcs with ⟨_, _, h⟩ | ⟨_, _, _, h⟩ | ⟨h | ⟨_, h⟩, _⟩
        · cases h
        · cases h
        · exact absurd h h0
        · exact h
      have e1 := ne_nil_of_size (s := a) (by omega)
      have e1' := not_isEmpty_of_size (s := a) (by omega)
      have e2 := nil_of_size h1
      have e2' := isEmpty_of_size h1
      have e3 := nil_of_size h2
      have e3' := isEmpty_of_size h2
      have H0 := Lib.hid h0
      have H1 := Lib.hid h1
      have H2 := Lib.hid h2
      clear h0 h1 h2
      have la := targ_size ⟨#[]⟩ a (by decide)
      have ls := targ_size ⟨#[83]⟩ s (by decide)
      have lf := targ_size ⟨#[70]⟩ f (by decide)
      clear hcs
      go_enter Tryd.func43, Tryd.ntmps43
      go_wp2_with ((go_at_call 41; refine (impl_ValidGoto_any _ _ _ _ HA.out HS.out HF.out (HT.out.below ((Below.refl _ _).alloc (Nat.le_refl _) _) HG.out)).mono ?_; rintro e w1 ⟨rfl, hb⟩; rw [HX.out]; obtain ⟨k1, f1⟩ := bcell hb; have HB := Lib.hid (((Below.refl _ _).alloc (Nat.le_refl _) _).trans (hb.mono (B' := W.heap.size) (by simp))); clear hb))
      go_quiet ((go_at_call 88; exact Calls.quiet_of_same (targ_any _ _ _ (by decide) (by first | exact ZA.out | exact ZS.out | exact ZF.out))))
      go_wp2_with fail
      go_ret
      first | exact ⟨rfl, HB.out⟩ | exact ⟨rfl, below_drewN HB.out _⟩
end Go.Proofs.YtdfikepfjdoooaaDoor
