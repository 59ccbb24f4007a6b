/- The law's walk: FnTextOps. No condition. -/
import Derived.Test.YtgagijddbokfhabDoorFnToPlain
namespace Go.Proofs.YtgagijddbokfhabDoor
open Go Go.RowKit

theorem padOk_no {n : Int} {f : ByteArray} (h : padOk n f = false) : n < 0 ∨ (¬ n < 0 ∧ 200 < n) ∨ (¬ n < 0 ∧ ¬ 200 < n ∧ ¬ f.size = 1) := by
  by_cases h0 : n < 0
  · exact .inl h0
  by_cases h1 : 200 < n
  · exact .inr (.inl ⟨h0, h1⟩)
  refine .inr (.inr ⟨h0, h1, fun e => ?_⟩)
  unfold padOk at h
  rw [e, show decide (0 ≤ n ∧ n ≤ 200) = true by simp; omega] at h
  simp at h

theorem pad_cases {m : Int} {f y z : ByteArray} {left ok : Bool} (hok : padOk m f = ok) (hz : padS y m f left = z) :
    (ok = false ∧ m < 0) ∨ (ok = false ∧ ¬ m < 0 ∧ 200 < m) ∨ (ok = false ∧ ¬ m < 0 ∧ ¬ 200 < m ∧ ((f.size : Int) != 1) = true) ∨
    (ok = true ∧ left = true ∧ ∃ d : Nat, ((z.size : Int) != max m (y.size : Int)) = false ∧ ¬ (z.size : Int) < (y.size : Int) ∧ (z.size : Int) - (y.size : Int) = (d : Int) ∧ (d : Int) ≤ (z.size : Int) ∧ wrap64 (d : Int) = (d : Int) ∧ z.extract d z.size = y) ∨
    (ok = true ∧ left = false ∧ ((z.size : Int) != max m (y.size : Int)) = false ∧ ¬ (z.size : Int) < (y.size : Int) ∧ (y.size : Int) ≤ (z.size : Int) ∧ z.extract 0 y.size = y) := by
  cases ok
  · rcases padOk_no hok with h | ⟨h, h'⟩ | ⟨h, h', h''⟩
    · exact .inl ⟨rfl, h⟩
    · exact .inr (.inl ⟨rfl, h, h'⟩)
    · exact .inr (.inr (.inl ⟨rfl, h, h', by simp; omega⟩))
  · obtain ⟨h0, h1, h2⟩ := padOk_yes hok
    have hzz : padE y f (m - y.size).toNat left = z := by rw [← hz]; simp [padS, hok]
    have hs := padE_size y f (m - y.size).toNat left h2
    rw [hzz] at hs
    have e1 : ((z.size : Int) != max m (y.size : Int)) = false := by simp; omega
    cases left
    · refine .inr (.inr (.inr (.inr ⟨rfl, rfl, e1, by omega, by omega, ?_⟩)))
      rw [← hzz]; exact pad_right y f _
    · refine .inr (.inr (.inr (.inl ⟨rfl, rfl, z.size - y.size, e1, by omega, by omega, by omega, IntWalk.wrap64_in _ (by omega), ?_⟩)))
      rw [← hzz]; exact pad_left y f _
theorem code_up {W w : World} {A : Option Addr} {n : Nat} (h : Code W W.heap.size A n) (hb : Below W.heap.size W w) : Code w w.heap.size A n := fun hn => by
  obtain ⟨b, off, e, hbl, hcc⟩ := (h.below hb) hn
  exact ⟨b, off, e, Nat.lt_of_lt_of_le hbl hb.size, hcc⟩

set_option maxHeartbeats 8000000 in
set_option maxRecDepth 100000 in
theorem walk_FnTextOps (A : Option Addr) (n c : Nat) (w0 : n ≤ maxLen) (W : World) (hcode : Code W W.heap.size A n) (_hL : laidMetH Tryd.prog Rows.fnTextOpsRow.laid W) :
    Calls Tryd.prog 4 #[.slice A n c] W fun e w' => e = .returned (.bool true) ∧ Below W.heap.size W w' := by
  clear _hL
  unfold maxLen at w0
  have HCL : Hid (Calls Tryd.prog 7 #[.slice A n c] W fun e w' => e = .returned (.bool (decide (1048576 < (n : Int)))) ∧ W = w') := c2Long_any A n c W (by omega)
  by_cases hlong : 1048576 < (n : Int)
  · have d0 : decide (1048576 < (n : Int)) = true := by simpa using hlong
    have HD := Lib.hid d0
    clear d0 hcode
    go_enter Tryd.func4, Tryd.ntmps4
    go_wp2_with (go_at_call 7; refine HCL.out.mono ?_; rintro e w' ⟨rfl, rfl⟩; rw [HD.out])
    go_ret
    exact ⟨rfl, Below.refl _ _⟩
  have d0 : decide (1048576 < (n : Int)) = false := by simpa using hlong
  have HD := Lib.hid d0
  have HN : Hid (n ≤ 1048576) := by show _ ≤ _; omega
  have HC := Lib.hid hcode
  have T1 : True := trivial
  have T2 : True := trivial
  clear d0 hcode hlong
  go_enter Tryd.func4, Tryd.ntmps4
  go_wp2_with (first
    | (go_at_call 7; refine HCL.out.mono ?_; rintro e w' ⟨rfl, rfl⟩; rw [HD.out])
    | (go_at_call 8; refine (DrawTrimText_any A n c W HN.out HC.out).mono ?_; rintro e w1 ⟨s, rfl, hp⟩; have HS : Hid (s.size ≤ 15) := hp.out.1; have HB1 := Lib.hid hp.out.2; clear hp)
    | (go_at_call 9; have tk := T1; refine (impl_ReverseText_any s w1 (by have := HS.out; omega)).mono ?_; clear T1 tk; rintro e w2 ⟨rfl, hb⟩; obtain ⟨x, hx⟩ : ∃ x, revE s = x := ⟨_, rfl⟩; rw [hx]; have HX := Lib.hid hx; have HB2 := Lib.hid (HB1.out.trans (hb.mono HB1.out.size)); clear hb hx)
    | (go_at_call 9; have HQ := impl_ReverseText_any x w2 (by rw [← HX.out, revE_size]; have := HS.out; omega); rw [show revE x = s by rw [← HX.out, revE_revE]] at HQ; refine HQ.mono ?_; clear HQ; rintro e w3 ⟨rfl, hb⟩; have HB3 := Lib.hid (HB2.out.trans (hb.mono HB2.out.size)); clear hb)
    | (go_at_call 6; have tk := T2; refine (impl_TrimText_any s w3 (by have := HS.out; omega)).mono ?_; clear T2 tk; rintro e w4 ⟨rfl, rfl⟩; obtain ⟨t, ht⟩ : ∃ t, trimE s = t := ⟨_, rfl⟩; rw [ht]; have HF := Lib.hid (trim_facts s); rw [ht] at HF; have hts : t.size ≤ s.size := HF.out.1; have hss : s.size ≤ 15 := HS.out; have hext : s.extract 0 t.size = t := HF.out.2.2; clear ht)
    | (go_at_call 6; have HQ := impl_TrimText_any t w3 (by omega); rw [HF.out.2.1] at HQ; refine HQ.mono ?_; clear HQ; rintro e w5 ⟨rfl, rfl⟩)
    | (go_at_call 10; refine (DrawPadText_any A n c w3 HN.out (code_up HC.out HB3.out)).mono ?_; rintro e w6 ⟨y, m, f, left, rfl, hp⟩; have hy12 : y.size ≤ 12 := hp.out.1; have HM : Hid (-1 ≤ m ∧ m ≤ 201) := ⟨hp.out.2.1, hp.out.2.2.1⟩; have hf3 : f.size ≤ 3 := hp.out.2.2.2.1; have HB6 := Lib.hid (HB3.out.trans (hp.out.2.2.2.2.mono HB3.out.size)); clear hp hext hts)
    | (go_at_call 11; obtain ⟨ok, hok⟩ : ∃ ok, padOk m f = ok := ⟨_, rfl⟩; have HQ := impl_PadText_any y m f left w6 (by omega) (by omega); rw [hok] at HQ; have HOK := Lib.hid hok; clear hok; refine HQ.mono ?_; clear HQ; rintro e w7 ⟨rfl, hb⟩; have HB7 := Lib.hid (HB6.out.trans (hb.mono HB6.out.size)); clear hb; obtain ⟨z, hz⟩ : ∃ z, padS y m f left = z := ⟨_, rfl⟩; rw [hz]; rcases pad_cases HOK.out hz with ⟨rfl, q1⟩ | ⟨rfl, q1, q2⟩ | ⟨rfl, q1, q2, q3⟩ | ⟨rfl, rfl, d, q1, q2, q3, q4, q5, q6⟩ | ⟨rfl, rfl, q1, q2, q3, q4⟩ <;> clear hz))
  all_goals go_ret
  all_goals exact ⟨rfl, HB7.out⟩
end Go.Proofs.YtgagijddbokfhabDoor
