/- Contract: PadText of the program. Condition: the strings are not longer than the law lets them be. -/
import Derived.Test.YtgagijddbokfhabDoorWithin
import Derived.Test.YtgagijddbokfhabDoorMark0
import Derived.Test.YtgagijddbokfhabDoorShelf
import Derived.Lib.Repeat
namespace Go.Proofs.YtgagijddbokfhabDoor
open Go Go.RowKit

/-- k copies. -/
def repE (f : ByteArray) (k : Nat) : ByteArray := ⟨(Lib.repeatL f.data.toList k).toArray⟩
theorem repE_zero (f : ByteArray) : repE f 0 = ⟨#[]⟩ := rfl
theorem repE_succ (f : ByteArray) (k : Nat) : repE f (k + 1) = f ++ repE f k := by
  apply WideShapes.bytes_inj
  simp [repE, Lib.repeatL]
theorem repE_snoc (f : ByteArray) (k : Nat) : repE f (k + 1) = repE f k ++ f := by
  apply WideShapes.bytes_inj
  simp [repE, Lib.repeatL_add, Lib.repeatL_one]
theorem repE_size (f : ByteArray) (k : Nat) : (repE f k).size = k * f.size := by
  rw [repE, size_mk, Lib.repeatL_length, Lib.size_eq]
def padE (s f : ByteArray) (k : Nat) (left : Bool) : ByteArray := if left = true then repE f k ++ s else s ++ repE f k
/-- What PadText answers. -/
def padOk (n : Int) (f : ByteArray) : Bool := decide (0 ≤ n ∧ n ≤ 200) && (f.size == 1)
def padS (s : ByteArray) (n : Int) (f : ByteArray) (left : Bool) : ByteArray := if padOk n f = true then padE s f (n - s.size).toNat left else ⟨#[]⟩
theorem padE_size (s f : ByteArray) (k : Nat) (left : Bool) (hf : f.size = 1) : (padE s f k left).size = s.size + k := by
  unfold padE
  split <;> rw [ByteArray.size_append, repE_size, hf] <;> omega
theorem app_nilP (a : ByteArray) : a ++ ⟨#[]⟩ = a := by apply WideShapes.bytes_inj; simp
theorem nil_appP (a : ByteArray) : ⟨#[]⟩ ++ a = a := by apply WideShapes.bytes_inj; simp
theorem padE_zero (s f : ByteArray) (left : Bool) : padE s f 0 left = s := by
  unfold padE
  rw [repE_zero, app_nilP, nil_appP]
  split <;> rfl
theorem padE_left (s f : ByteArray) (k : Nat) : f ++ padE s f k true = padE s f (k + 1) true := by
  show f ++ (repE f k ++ s) = repE f (k + 1) ++ s
  rw [repE_succ, ByteArray.append_assoc]
theorem padE_right (s f : ByteArray) (k : Nat) : padE s f k false ++ f = padE s f (k + 1) false := by
  show s ++ repE f k ++ f = s ++ repE f (k + 1)
  rw [repE_snoc, ByteArray.append_assoc]

set_option maxHeartbeats 2000000 in
theorem impl_PadText_no (s : ByteArray) (n : Int) (f : ByteArray) (left : Bool) (W : World) (hs : s.size ≤ 1048576) (hf : f.size ≤ 1048576) (h : padOk n f = false) :
    Calls Tryd.prog 11 #[.string s, .int .i64 n, .string f, .bool left] W fun e w' => e = .returned (.tuple #[.string ⟨#[]⟩, .bool false]) ∧ W = w' := by
  unfold padOk at h
  obtain ⟨x, hx⟩ : ∃ x, decide (0 ≤ n ∧ n ≤ 200) = x := ⟨_, rfl⟩
  have HX := Lib.hid hx
  rw [hx] at h
  clear hx
  cases x
  · go_enter Tryd.func11, Tryd.ntmps11
    go_wp2_with (go_at_call 20; refine (withinB_i64 _ _ _ _).mono ?_; rintro e w' ⟨rfl, rfl⟩; rw [HX.out])
    go_ret2
    exact ⟨rfl, rfl⟩
  · have h1 : ((f.size : Int) == 1) = false := by
      simp at h
      simp
      omega
    have h2 : ¬ (f.size : Int) = 1 := by simpa using h1
    have h3 : ((f.size : Int) != 1) = true := by simpa using h2
    clear h
    go_enter Tryd.func11, Tryd.ntmps11
    go_wp2_with (go_at_call 20; refine (withinB_i64 _ _ _ _).mono ?_; rintro e w' ⟨rfl, rfl⟩; rw [HX.out])
    go_ret2
    exact ⟨rfl, rfl⟩

set_option maxHeartbeats 2000000 in
set_option maxRecDepth 100000 in
theorem impl_PadText_yes (s : ByteArray) (n : Int) (f : ByteArray) (left : Bool) (W : World) (hs : s.size ≤ 1048576) (h0 : 0 ≤ n) (h1 : n ≤ 200) (hf : f.size = 1) :
    Calls Tryd.prog 11 #[.string s, .int .i64 n, .string f, .bool left] W fun e w' => e = .returned (.tuple #[.string (padE s f (n - s.size).toNat left), .bool true]) ∧ Below W.heap.size W w' := by
  have HX : Hid (decide (0 ≤ n ∧ n ≤ 200) = true) := by show _ = _; simp [h0, h1]
  have f1 : (f.size : Int) = 1 := by omega
  have f2 : ((f.size : Int) != 1) = false := by simp [f1]
  obtain ⟨c, hc⟩ : ∃ c, (n - s.size).toNat = c := ⟨_, rfl⟩
  have hc2 : c ≤ 200 := by omega
  have hR : (repE f c).size ≤ 200 := by rw [repE_size, hf]; omega
  have HR : Hid (∀ w, Calls Tryd.prog 21 #[.string f, .int .i64 c] w fun e w' => e = .returned (.string (repE f c)) ∧ Below w.heap.size w w') := fun w => Tryd.strings_Repeat f c w (by omega) (by rw [hf]; omega)
  have HR0 : Hid (c = 0 → ∀ w, Calls Tryd.prog 21 #[.string f, .int .i64 0] w fun e w' => e = .returned (.string (repE f c)) ∧ Below w.heap.size w w') := fun h w => (Tryd.strings_Repeat_zero f w).mono fun e w' ⟨h1, h2⟩ => ⟨by rw [h1, h, repE_zero], h2 ▸ Below.refl _ _⟩
  rw [hc]
  unfold padE
  generalize repE f c = R at hR HR HR0 ⊢
  clear hf
  by_cases hge : (s.size : Int) ≤ n
  · have e1 : n - (s.size : Int) = (c : Int) := by omega
    have e2 : ¬ (c : Int) < 0 := by omega
    clear hc hge
    cases left
    all_goals
      go_enter Tryd.func11, Tryd.ntmps11
      go_wp2_with (first
        | (go_at_call 20; refine (withinB_i64 _ _ _ _).mono ?_; rintro e w' ⟨rfl, rfl⟩; rw [HX.out])
        | (go_at_call 21; refine (HR.out _).mono ?_; rintro e w1 ⟨rfl, hb⟩; have HB := Lib.hid hb; clear hb))
      go_ret2
      exact ⟨rfl, HB.out⟩
  · have e1 : max (n - (s.size : Int)) 0 = 0 := by omega
    have HZ := Lib.hid (HR0.out (by omega))
    clear hc hge HR HR0
    cases left
    all_goals
      go_enter Tryd.func11, Tryd.ntmps11
      go_wp2_with (first
        | (go_at_call 20; refine (withinB_i64 _ _ _ _).mono ?_; rintro e w' ⟨rfl, rfl⟩; rw [HX.out])
        | (go_at_call 21; refine (HZ.out _).mono ?_; rintro e w1 ⟨rfl, hb⟩; have HB := Lib.hid hb; clear hb))
      go_ret2
      exact ⟨rfl, HB.out⟩

theorem padS_no {s : ByteArray} {n : Int} {f : ByteArray} {left : Bool} (h : padOk n f = false) : padS s n f left = ⟨#[]⟩ := by simp [padS, h]
theorem padOk_yes {n : Int} {f : ByteArray} (h : padOk n f = true) : 0 ≤ n ∧ n ≤ 200 ∧ f.size = 1 := by
  unfold padOk at h
  simp only [Bool.and_eq_true, decide_eq_true_eq, beq_iff_eq] at h
  exact ⟨h.1.1, h.1.2, h.2⟩
theorem impl_PadText_any (s : ByteArray) (n : Int) (f : ByteArray) (left : Bool) (W : World) (hs : s.size ≤ 1048576) (hf : f.size ≤ 1048576) :
    Calls Tryd.prog 11 #[.string s, .int .i64 n, .string f, .bool left] W fun e w' => e = .returned (.tuple #[.string (padS s n f left), .bool (padOk n f)]) ∧ Below W.heap.size W w' := by
  cases h : padOk n f
  · rw [padS_no h]; exact (impl_PadText_no s n f left W hs hf h).mono fun e w' ⟨h1, h2⟩ => ⟨h1, h2 ▸ Below.refl _ _⟩
  · obtain ⟨h0, h1, h2⟩ := padOk_yes h
    rw [show padS s n f left = padE s f (n - s.size).toNat left by simp [padS, h]]
    exact impl_PadText_yes s n f left W hs h0 h1 h2
end Go.Proofs.YtgagijddbokfhabDoor
