/- The law's walk: FnExactFinalOf. No condition. -/
import Derived.Test.YtdlhoakcpdaboaaFinM
namespace Go.Proofs.Ytdlhoakcpdaboaa
open Go Go.RowKit

/-- What lies where: the model's answer A0 below X, the copy of the argument in block X, the program's answer A1 behind C4. -/
def F1 (W : World) (X n C4 C5 : Nat) (A0 A1 : Option Addr) (xs ys : List As) (w : World) : Prop :=
  Below W.heap.size W w ∧ RowAs w W.heap.size X A0 ys ∧ FilledAs w X n n xs ∧ RowAs w C4 C5 A1 ys ∧ W.heap.size ≤ X ∧ X < C4 ∧ C5 ≤ w.heap.size
theorem F1.grow {W w w' : World} {X n C4 C5 : Nat} {A0 A1 : Option Addr} {xs ys : List As} (h : F1 W X n C4 C5 A0 A1 xs ys w) (hb : Below w.heap.size w w') (hc : C4 ≤ C5) : F1 W X n C4 C5 A0 A1 xs ys w' := by
  obtain ⟨h1, h2, h3, h4, h5, h6, h7⟩ := h
  exact ⟨h1.trans (hb.mono h1.size), h2.below hb (by omega), h3.below hb (by omega), h4.below hb h7, h5, h6, Nat.le_trans h7 hb.size⟩
/-- .. behind the marks on the argument. -/
def F2 (W : World) (X C4 C5 : Nat) (A0 A1 : Option Addr) (ys : List As) (w : World) : Prop :=
  Below W.heap.size W w ∧ RowAs w W.heap.size X A0 ys ∧ RowAs w C4 C5 A1 ys ∧ W.heap.size ≤ X ∧ X < C4 ∧ C4 ≤ C5 ∧ C5 ≤ w.heap.size
theorem F2.grow {W w w' : World} {X C4 C5 : Nat} {A0 A1 : Option Addr} {ys : List As} (h : F2 W X C4 C5 A0 A1 ys w) (hb : Below w.heap.size w w') : F2 W X C4 C5 A0 A1 ys w' := by
  obtain ⟨h1, h2, h3, h4, h5, h6, h7⟩ := h
  exact ⟨h1.trans (hb.mono h1.size), h2.below hb (by omega), h3.below hb h7, h4, h5, h6, Nat.le_trans h7 hb.size⟩
theorem F1.mark {W w w' : World} {X n C4 C5 : Nat} {A0 A1 : Option Addr} {xs ys : List As} (h : F1 W X n C4 C5 A0 A1 xs ys w) (hg : w.grownBy w' (some X)) (hc : C4 ≤ C5) : F2 W X C4 C5 A0 A1 ys w' := by
  obtain ⟨h1, h2, h3, h4, h5, h6, h7⟩ := h
  exact ⟨h1.trans (gb_base hg h5 h1.size), h2.grown hg (fun g h8 h9 e => by have := Option.some.inj e; omega), h4.grown hg (fun g h8 h9 e => by have := Option.some.inj e; omega), h5, h6, hc, Nat.le_trans h7 hg.size⟩
/-- .. behind the marks on the answer. -/
def F3 (W : World) (X : Nat) (A0 A1 : Option Addr) (ys : List As) (w : World) : Prop :=
  Below W.heap.size W w ∧ RowAs w W.heap.size X A0 ys ∧ AsI w w.heap.size A1 ys.length (markAss 1 ys.length) ∧ X ≤ w.heap.size
theorem F3.grow {W w w' : World} {X : Nat} {A0 A1 : Option Addr} {ys : List As} (h : F3 W X A0 A1 ys w) (hb : Below w.heap.size w w') : F3 W X A0 A1 ys w' := by
  obtain ⟨h1, h2, h3, h4⟩ := h
  exact ⟨h1.trans (hb.mono h1.size), h2.below hb h4, (h3.below hb).more hb.size, Nat.le_trans h4 hb.size⟩
theorem F2.mark {W w w' : World} {X C4 C5 : Nat} {A0 A1 : Option Addr} {ys : List As} (h : F2 W X C4 C5 A0 A1 ys w) (hm : AsI w' w'.heap.size A1 ys.length (markAss 1 ys.length)) (hg : ∃ r, w.grownBy w' r ∧ ∀ g, r = some g → C4 ≤ g ∧ g < C5) : F3 W X A0 A1 ys w' := by
  obtain ⟨h1, h2, h3, h4, h5, h6, h7⟩ := h
  obtain ⟨r, hg, hr⟩ := hg
  refine ⟨h1.trans ⟨hg.os, hg.tape, hg.output, hg.size, fun j hj => hg.block j (Nat.lt_of_lt_of_le hj h1.size) (fun e => by have := (hr j e.symm).1; omega)⟩, h2.grown hg (fun g h8 h9 e => by have := (hr g e.symm).1; omega), hm, by have := hg.size; omega⟩
theorem hpy {w : World} {p : Nat} {A : Option Addr} {ys : List As} (hp : ys.length = p) (h : AsI w w.heap.size A ys.length ys) : AsI w w.heap.size A p ys := by
  subst hp
  exact h
theorem hpy2 {w : World} {p : Nat} {A : Option Addr} {ys : List As} (hp : ys.length = p) (h : AsI w w.heap.size A p (markAss 1 p)) : AsI w w.heap.size A ys.length (markAss 1 ys.length) := by
  subst hp
  exact h
theorem hpy3 {w : World} {p : Nat} {A : Option Addr} {ys : List As} (hp : ys.length = p) (h : AsI w w.heap.size A ys.length (markAss 1 ys.length)) : AsI w w.heap.size A p (markAss 1 p) := by
  subst hp
  exact h

set_option maxHeartbeats 4000000 in
set_option maxRecDepth 100000 in
theorem walk_FnExactFinalOf (A : Option Addr) (n c : Nat) (xs : List As) (W : World) (ha : AsI W W.heap.size A n xs) :
    Calls Try.prog 6 #[.slice A n c] W fun e w' => e = .returned (.bool true) ∧ Below W.heap.size W w' := by
  have HA := Lib.hid ha
  by_cases c1 : (szAs xs : Int) ≤ 1048576
  · have C1 := Lib.hid c1
    have hn : n ≤ 1048576 := by have := ha.1; unfold szAs at c1; omega
    have HLN := Lib.hid ha.1
    have HNM := Lib.hid ha.2.1
    have HSZ := Lib.hid ha.sizes
    have HN := Lib.hid hn
    obtain ⟨ys, hys⟩ : ∃ ys, finT xs = ys := ⟨_, rfl⟩
    have hl : ys.length ≤ 1048576 := by rw [← hys]; have := finK_len xs xs.length; have := ha.1; unfold finT; omega
    have HL := Lib.hid hl
    have HYS : Hid ((∀ x ∈ ys, x.name_.size ≤ maxLen) ∧ (∀ x ∈ ys, x.text_.size ≤ maxLen) ∧ ys.length ≤ maxLen) := by
      refine Lib.hid ⟨fun x hx => ?_, fun x hx => ?_, by unfold maxLen; omega⟩
      all_goals
        rw [← hys] at hx
        obtain ⟨j, hj⟩ := List.mem_iff_getElem?.1 (finK_mem xs _ x hx)
        have := ha.sizes j x hj
      · exact this.1
      · exact this.2
    have HSP : Hid (∀ (w : World) (A' : Option Addr) (c' : Nat), AsI w w.heap.size A' n xs → Calls Try.prog 20 #[.slice A' n c'] w (RetAs w ys)) := by
      show ∀ _, _
      intro w A' c' h
      rw [← hys]
      exact spec_FinalOf_any A' n c' xs w h HN.out
    have HIM : Hid (∀ (w : World) (A' : Option Addr) (c' : Nat), AsI w w.heap.size A' n xs → Calls Try.prog 22 #[.slice A' n c'] w (RetAs w ys)) := by
      show ∀ _, _
      intro w A' c' h
      rw [← hys]
      exact impl_FinalOf_any A' n c' xs w h HN.out
    have hq0 : (((1 + ys.length * 4 : Nat) : Int) < 0) = False := by simp; omega
    have hq1 : (((1 + n * 4 : Nat) : Int) < 0) = False := by simp; omega
    clear hys hl c1 ha
    obtain ⟨p, hp⟩ : ∃ p, ys.length = p := ⟨_, rfl⟩
    have HP := Lib.hid hp
    rw [hp] at hq0
    clear hp
    have tk1 : True := trivial
    have tk2 : True := trivial
    have tk3 : True := trivial
    go_enter Try.func6, Try.ntmps6
    go_wp2_with (go_at_call 19; have HQ := szAssignmentS_any A n c xs 1048576 W HA.out (by decide) (by decide); refine Calls.mono HQ ?_; clear HQ; intro e w1 h; obtain ⟨z1, rfl, hz1, l1, u1, hb⟩ := h.fits C1.out (by decide); have d1 : decide (z1 < 0) = false := (by simp; omega); have B1 := Lib.hid hb; clear h hb hz1)
    go_wp2_with (first
      | (go_at_call 21; have tk := tk1; have HQ := toAssignmentS_any A n c xs _ (HA.out.go B1.out) HN.out; refine Calls.mono HQ ?_; clear HQ; rintro e w2 ⟨rfl, h⟩; have I2 := Lib.hid h.out.1; have B2 := Lib.hid (B1.out.trans (h.out.2.mono B1.out.size)); clear h tk tk1)
      | (go_at_call 20; refine Calls.mono (HSP.out _ _ _ I2.out) ?_; rintro e w3 ⟨A0, q0, rfl, h⟩; have R0 := Lib.hid h.out.1; have B3 := Lib.hid (B2.out.trans (h.out.2.mono B2.out.size)); have S2 := Lib.hid B2.out.size; clear h I2))
    rw [HP.out]
    go_wp2_with (first
      | (go_at_call 21; have HQ := toAssignmentS_row A n c xs _ (HA.out.go B3.out) HN.out; refine Calls.mono HQ ?_; clear HQ; rintro e w4 ⟨rfl, h⟩; have I4 := Lib.hid h.out.1; have B4 := Lib.hid (B3.out.trans (h.out.2.2.mono B3.out.size)); have R04 := Lib.hid (R0.out.below h.out.2.2 (Nat.le_refl _)); have S4 := Lib.hid h.out.2.1; clear h R0))
    have HI4 := Lib.hid (I4.out.toI S4.out HLN.out HNM.out HSZ.out)
    go_wp2_with (first
      | (go_at_call 22; refine Calls.mono (HIM.out _ _ _ HI4.out) ?_; rintro e w5 ⟨A1, q1, rfl, h⟩; have H5 : Hid (F1 W w3.heap.size n w4.heap.size w5.heap.size A0 A1 xs ys w5) := ⟨B4.out.trans (h.out.2.mono B4.out.size), fun hn => (by obtain ⟨g, cs, e1, e2, e3⟩ := (R04.out.below h.out.2 (Nat.le_of_lt S4.out)) hn; exact ⟨g, cs, e1, Nat.le_trans S2.out e2, e3⟩), I4.out.below h.out.2 S4.out, h.out.1, B3.out.size, S4.out, Nat.le_refl _⟩; have S5 := Lib.hid h.out.2.size; clear h I4 HI4 R04))
    rw [HP.out]
    have HC45 := S5
    go_wp2_with (first
      | (go_at_call 23; have HQ := eqAssignmentS_same A1 A0 p q1 q0 ys w5 (hpy HP.out ((RowAs.toI (H5.out.2.2.2.1) HYS.out.2.2 HYS.out.1 HYS.out.2.1).more (H5.out.2.2.2.2.2.2))) (hpy HP.out ((RowAs.toI (H5.out.2.1) HYS.out.2.2 HYS.out.1 HYS.out.2.1).more (Nat.le_trans (Nat.le_of_lt (Nat.lt_of_lt_of_le H5.out.2.2.2.2.2.1 HC45.out)) H5.out.2.2.2.2.2.2))); refine Calls.mono HQ ?_; clear HQ; rintro e w6 ⟨rfl, hb⟩; have H6 := Lib.hid (H5.out.grow hb HC45.out); clear hb))
    go_wp2_with (first
      | (go_at_call 21; have HQ := toAssignmentS_any A n c xs _ (HA.out.go H6.out.1) HN.out; refine Calls.mono HQ ?_; clear HQ; rintro e w7 ⟨rfl, h⟩; have I7 := Lib.hid h.out.1; have H7 := Lib.hid (H6.out.grow h.out.2 HC45.out); clear h H6)
      | (go_at_call 23; have HQ := eqAssignmentS_same _ _ n n n xs w7 (FilledAs.toI H7.out.2.2.1 (Nat.lt_of_lt_of_le H7.out.2.2.2.2.2.1 (Nat.le_trans HC45.out H7.out.2.2.2.2.2.2)) HLN.out HNM.out HSZ.out) (I7.out); refine Calls.mono HQ ?_; clear HQ; rintro e w8 ⟨rfl, hb⟩; have H8 := Lib.hid (H7.out.grow hb HC45.out); clear hb))
    go_wp2_with (first
      | (go_at_call 24; have HQ := mark_filledAs n H8.out.2.2.1 HN.out; refine Calls.mono HQ ?_; clear HQ; rintro e w9 ⟨rfl, hg⟩; have H9 := Lib.hid (H8.out.mark hg HC45.out); clear hg H8)
      | (go_at_call 23; have HQ := eqAssignmentS_same A1 A0 p q1 q0 ys w9 (hpy HP.out ((RowAs.toI (H9.out.2.2.1) HYS.out.2.2 HYS.out.1 HYS.out.2.1).more (H9.out.2.2.2.2.2.2))) (hpy HP.out ((RowAs.toI (H9.out.2.1) HYS.out.2.2 HYS.out.1 HYS.out.2.1).more (Nat.le_trans (Nat.le_of_lt (Nat.lt_of_lt_of_le H9.out.2.2.2.2.1 HC45.out)) H9.out.2.2.2.2.2.2))); refine Calls.mono HQ ?_; clear HQ; rintro e w10 ⟨rfl, hb⟩; have H10 := Lib.hid (H9.out.grow hb); clear hb))
    go_wp2_with (first
      | (go_at_call 24; have HQ := mark_rowAs q1 H10.out.2.2.1 H10.out.2.2.2.2.2.2 HL.out; rw [HP.out] at HQ; refine Calls.mono HQ ?_; clear HQ; rintro e w11 ⟨rfl, hm, hg⟩; have H11 := Lib.hid (F2.mark H10.out (hpy2 HP.out hm) hg); clear hm hg H10)
      | (go_at_call 25; have tk := tk2; have HQ := held_oneAs q1 (hpy3 HP.out H11.out.2.2.1) (by have := HL.out; have := HP.out; omega); refine Calls.mono HQ ?_; clear HQ; rintro e w12 ⟨rfl, hb⟩; have H12 := Lib.hid (H11.out.grow hb); clear hb tk tk2))
    go_wp2_with (first
      | (go_at_call 21; have HQ := toAssignmentS_any A n c xs _ (HA.out.go H12.out.1) HN.out; refine Calls.mono HQ ?_; clear HQ; rintro e w13 ⟨rfl, h⟩; have I13 := Lib.hid h.out.1; have H13 := Lib.hid (H12.out.grow h.out.2); clear h)
      | (go_at_call 22; refine Calls.mono (HIM.out _ _ _ I13.out) ?_; rintro e w14 ⟨A2, q2, rfl, h⟩; have R2 := Lib.hid h.out.1; have H14 := Lib.hid (H13.out.grow h.out.2); clear h I13))
    rw [HP.out]
    go_wp2_with (first
      | (go_at_call 23; have HQ := eqAssignmentS_same A2 A0 p q2 q0 ys w14 (hpy HP.out ((RowAs.toI (R2.out) HYS.out.2.2 HYS.out.1 HYS.out.2.1).more (Nat.le_refl _))) (hpy HP.out ((RowAs.toI (H14.out.2.1) HYS.out.2.2 HYS.out.1 HYS.out.2.1).more (H14.out.2.2.2))); refine Calls.mono HQ ?_; clear HQ; rintro e w15 ⟨rfl, hb⟩; have H15 := Lib.hid (H14.out.grow hb); clear hb)
      | (go_at_call 25; have HQ := held_oneAs q1 (hpy3 HP.out H15.out.2.2.1) (by have := HL.out; have := HP.out; omega); refine Calls.mono HQ ?_; clear HQ; rintro e w16 ⟨rfl, hb⟩; have H16 := Lib.hid (H15.out.grow hb); clear hb))
    go_ret
    exact ⟨rfl, H16.out.1⟩
  · have C1 := Lib.hid c1
    clear c1
    go_enter Try.func6, Try.ntmps6
    go_wp2_with (go_at_call 19; have HQ := szAssignmentS_any A n c xs 1048576 W HA.out (by decide) (by decide); refine Calls.mono HQ ?_; clear HQ; intro e w1 h; obtain ⟨rfl, hb⟩ := h.long C1.out; have HB1 := Lib.hid hb; clear h hb)
    go_ret
    exact ⟨rfl, HB1.out⟩
end Go.Proofs.Ytdlhoakcpdaboaa
