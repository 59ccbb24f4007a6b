/- Contracts: l21Lines of the model, areLines of the program. No condition. -/
import Derived.Test.YtjhemdgeafglhaaDoorStsEq
import Derived.Test.YtjhemdgeafglhaaDoorLimP
import Derived.Lib.QuietBelow
import Derived.BigQuiet
import Derived.Deep.QuietTactic
namespace Go.Proofs.YtjhemdgeafglhaaDoor
open Go Go.RowKit

theorem one_new1 (W : World) (T : TypeId) (c : Array Value) (X : World) (e : X = W.alloc (.cells c T)) : RW T X W.heap.size c ∧ Below W.heap.size W X ∧ W.heap.size < X.heap.size := by
  subst e
  exact ⟨RW.new _ _ _, below_alloc _ _, lt_alloc _ _⟩
/-- At most m lines of at most k bytes. -/
def linesB (xs : List St) (m k : Nat) : Bool := decide (xs.length ≤ m) && xs.all fun s => decide (s.size ≤ k)
theorem lines_long {xs : List St} {m k : Nat} (h : m < xs.length) : linesB xs m k = false := by
  unfold linesB
  rw [show decide (xs.length ≤ m) = false by simp; omega]
  rfl
theorem lines_all {xs : List St} {m k : Nat} (h : xs.length ≤ m) (ha : ∀ (j : Nat) (s : St), j < xs.length → xs[j]? = some s → s.size ≤ k) : linesB xs m k = true := by
  unfold linesB
  rw [show decide (xs.length ≤ m) = true by simp; omega, Bool.true_and, List.all_eq_true]
  intro s hs
  obtain ⟨j, hj⟩ := List.getElem?_of_mem hs
  exact decide_eq_true (ha j s (List.getElem?_eq_some_iff.1 hj).1 hj)
theorem lines_not {xs : List St} {m k j : Nat} {s : St} (hx : xs[j]? = some s) (h : k < s.size) : linesB xs m k = false := by
  unfold linesB
  rw [show (xs.all fun s => decide (s.size ≤ k)) = false from ?_, Bool.and_false]
  rw [Bool.eq_false_iff]
  intro ha
  have := of_decide_eq_true (List.all_eq_true.1 ha s (List.mem_of_getElem? hx))
  omega

set_option maxHeartbeats 1000000 in
set_option maxRecDepth 100000 in
theorem l21Lines_any (A : Option Addr) (n c m k : Nat) (xs : List St) (W : World) (hr : StI W W.heap.size A n xs) (hm : m ≤ 100000) (hk : k ≤ 100000) :
    Calls Tryd.prog 64 #[.slice A n c, .int .i64 m, .int .i64 k] W fun e w' => e = .returned (.bool (linesB xs m k)) ∧ W = w' := by
  have HR := Lib.hid hr
  have hl := hr.1
  have hnm := hr.2.1
  unfold maxLen at hnm
  clear hr
  by_cases hl1 : n ≤ m
  case neg =>
    rw [lines_long (by omega)]
    have d0 : decide ((n : Int) > (m : Int)) = true := by simp; omega
    have d1 : (m : Int) < (n : Int) := by omega
    go_enter Tryd.func64, Tryd.ntmps64
    go_wp2_with fail
    go_ret
    exact ⟨rfl, rfl⟩
  have HLL := Lib.hid hl
  have HLM := Lib.hid hl1
  obtain ⟨P, hP⟩ : ∃ P, linesB xs m k = P := ⟨_, rfl⟩
  have HP := Lib.hid hP
  rw [hP]
  clear hP hl
  have d1 : ¬ (m : Int) < (n : Int) := by omega
  clear hl1
  go_enter Tryd.func64, Tryd.ntmps64
  go_wp2_with fail
  go_loopw [7] (fun i wr => ∃ j : Nat, j ≤ n ∧ i = .int .i64 j ∧ Hid (wr = W) ∧ Hid (∀ (i : Nat) (y : St), i < j → xs[i]? = some y → y.size ≤ k)) (fun i _ => n - (intOf i).toNat)
  case atStart => exact ⟨0, Nat.zero_le _, rfl, rfl, Lib.hid (fun i y hi => absurd hi (by omega))⟩
  case round =>
    obtain ⟨j, hj, rfl, HW, HV⟩ := hrel
    by_cases hlt : j < n
    · have b0 : (0 : Int) ≤ (j : Int) := by omega
      have b1 : (j : Int) < (n : Int) := by omega
      obtain ⟨b, off, s, rfl, hg, hx, p0, hsz⟩ := HR.out.at_ hlt
      rw [← HW.out] at p0
      have HX := Lib.hid hx
      unfold maxLen at hsz
      clear hx hg
      by_cases hz : s.size ≤ k
      · have HZ := Lib.hid hz
        have e1 : ¬ (k : Int) < (s.size : Int) := by omega
        clear hz
        go_wp2_with fail
        go_roundw
        case rel =>
          refine ⟨j + 1, by omega, by go_num, HW, Lib.hid (fun i y hi hy => ?_)⟩
          by_cases e : i = j
          · subst e
            rw [HX.out, Option.some.injEq] at hy
            subst hy
            exact HZ.out
          · exact HV.out i y (by omega) hy
        case measure => simp [intOf]; omega
      · have HF : Hid (P = false) := by show _ = _; rw [← HP.out]; exact lines_not HX.out (by omega)
        have e1 : (k : Int) < (s.size : Int) := by omega
        clear hz
        go_wp2_with fail
        go_ret
        exact ⟨by rw [HF.out]; rfl, HW.out.symm⟩
    · have hjn : j = n := by omega
      have HT : Hid (P = true) := by
        show _ = _
        rw [← HP.out]
        exact lines_all (by rw [HLL.out]; exact HLM.out) fun i y hi hy => HV.out i y (by have := HLL.out; omega) hy
      clear hjn
      go_wp2_with fail
      go_ret
      exact ⟨by rw [HT.out]; rfl, HW.out.symm⟩

set_option maxHeartbeats 1000000 in
theorem tooLong_any (s : ByteArray) (g k : Nat) (W : World) (hg : W.cell? ⟨g, 0, none⟩ = some (.int .i64 k)) (hs : s.size ≤ maxLen) (hk : k ≤ 100000) :
    Calls Tryd.prog 82 #[.string s, .pointer (some ⟨g, 0, none⟩)] W fun e w' => e = .returned (.bool (decide (k < s.size))) ∧ W = w' := by
  unfold maxLen at hs
  by_cases h : k < s.size
  · rw [show decide (k < s.size) = true from decide_eq_true h]
    have h1 : (k : Int) < (s.size : Int) := by omega
    clear h
    go_enter Tryd.func82, Tryd.ntmps82
    go_wp2_with fail
    go_ret
    exact ⟨rfl, rfl⟩
  · rw [show decide (k < s.size) = false from decide_eq_false h]
    have h1 : ¬ (k : Int) < (s.size : Int) := by omega
    clear h
    go_enter Tryd.func82, Tryd.ntmps82
    go_wp2_with fail
    go_ret
    exact ⟨rfl, rfl⟩

set_option maxHeartbeats 1000000 in
set_option maxRecDepth 100000 in
/-- The first line that is too long. -/
theorem firstLong_any (A : Option Addr) (n c g k : Nat) (xs : List St) (W : World) (hr : StI W W.heap.size A n xs) (hg : W.cell? ⟨g, 0, none⟩ = some (.int .i64 k)) (hk : k ≤ 100000) :
    Calls Tryd.prog 81 #[.slice A n c, .func (.func 82) #[] #[.pointer (some ⟨g, 0, none⟩)]] W fun e w' => ∃ i : Int, e = .returned (.int .i64 i) ∧ Hid (((0 ≤ i ∧ ∃ (j : Nat) (s : St), xs[j]? = some s ∧ k < s.size) ∨ (i = -1 ∧ ∀ (j : Nat) (s : St), j < n → xs[j]? = some s → s.size ≤ k)) ∧ W = w') := by
  have HR := Lib.hid hr
  have hl := hr.1
  have hnm := hr.2.1
  unfold maxLen at hnm
  have HC := Lib.hid hg
  clear hr hg hl
  go_enter Tryd.func81, Tryd.ntmps81
  go_wp2_with fail
  go_loopw [9] (fun i wr => ∃ j : Nat, j ≤ n ∧ i = .int .i64 j ∧ Hid (wr = W) ∧ Hid (∀ (i : Nat) (y : St), i < j → xs[i]? = some y → y.size ≤ k)) (fun i _ => n - (intOf i).toNat)
  case atStart => exact ⟨0, Nat.zero_le _, rfl, rfl, Lib.hid (fun i y hi => absurd hi (by omega))⟩
  case round =>
    obtain ⟨j, hj, rfl, HW, HV⟩ := hrel
    by_cases hlt : j < n
    · have b0 : (0 : Int) ≤ (j : Int) := by omega
      have b1 : (j : Int) < (n : Int) := by omega
      obtain ⟨b, off, s, rfl, hg, hx, p0, hsz⟩ := HR.out.at_ hlt
      rw [← HW.out] at p0
      have HX := Lib.hid hx
      have HQ := Lib.hid (tooLong_any s g k wr (by rw [HW.out]; exact HC.out) hsz hk)
      obtain ⟨z, hz⟩ : ∃ z, decide (k < s.size) = z := ⟨_, rfl⟩
      rw [hz] at HQ
      have HZ := Lib.hid hz
      clear hx hg hz hsz
      cases z
      · go_wp2_with (go_at_call 82; refine Calls.mono HQ.out ?_; rintro e w2 ⟨rfl, rfl⟩)
        go_roundw
        case rel =>
          refine ⟨j + 1, by omega, by go_num, HW, Lib.hid (fun i y hi hy => ?_)⟩
          by_cases e : i = j
          · subst e
            rw [HX.out, Option.some.injEq] at hy
            subst hy
            have := of_decide_eq_false HZ.out
            omega
          · exact HV.out i y (by omega) hy
        case measure => simp [intOf]; omega
      · go_wp2_with (go_at_call 82; refine Calls.mono HQ.out ?_; rintro e w2 ⟨rfl, rfl⟩)
        go_ret
        exact ⟨_, rfl, Lib.hid ⟨.inl ⟨b0, j, s, HX.out, of_decide_eq_true HZ.out⟩, HW.out.symm⟩⟩
    · have hjn : j = n := by omega
      have HAA : Hid (∀ (i : Nat) (s : St), i < n → xs[i]? = some s → s.size ≤ k) := fun i s hi hs => HV.out i s (by omega) hs
      clear hjn
      go_wp2_with fail
      go_ret
      exact ⟨_, rfl, Lib.hid ⟨.inr ⟨rfl, HAA.out⟩, HW.out.symm⟩⟩

set_option maxHeartbeats 1000000 in
set_option maxRecDepth 100000 in
theorem areLines_any (A : Option Addr) (n c m k : Nat) (xs : List St) (W : World) (hr : StI W W.heap.size A n xs) (hm : m ≤ 100000) (hk : k ≤ 100000) :
    Calls Tryd.prog 67 #[.slice A n c, .int .i64 m, .int .i64 k] W fun e w' => e = .returned (.bool (linesB xs m k)) ∧ Below W.heap.size W w' := by
  have hl := hr.1
  have hnm := hr.2.1
  unfold maxLen at hnm
  by_cases hl1 : n ≤ m
  case neg =>
    rw [lines_long (by omega)]
    have d1 : ¬ (n : Int) ≤ (m : Int) := by omega
    clear hr hl hl1
    go_enter Tryd.func67, Tryd.ntmps67
    go_wp2_with fail
    go_ret
    exact ⟨rfl, below_alloc _ _⟩
  have d1 : (n : Int) ≤ (m : Int) := by omega
  have HL := Lib.hid hl
  have HLM := Lib.hid hl1
  have HQ := Lib.hid (fun X (e : X = W.alloc (.cells #[.int .i64 k] 3)) => (show Calls Tryd.prog 81 #[.slice A n c, .func (.func 82) #[] #[.pointer (some ⟨W.heap.size, 0, none⟩)]] X _ from firstLong_any A n c W.heap.size k xs X (by rw [e]; exact hr.go (below_alloc _ _)) ((one_new1 W 3 #[.int .i64 k] X e).1.cell 0) hk))
  clear hr hl hl1
  go_enter Tryd.func67, Tryd.ntmps67
  go_wp2_with (go_at_call 81; refine Calls.mono (HQ.out _ rfl) ?_; clear HQ; rintro e w2 ⟨i, rfl, h⟩; obtain ⟨hi, rfl⟩ := h.out; clear h; have HI := Lib.hid hi; clear hi)
  rcases HI.out with ⟨h0, j, s, hx, hs⟩ | ⟨rfl, ha⟩
  · rw [lines_not hx hs]
    have e1 : decide (i < 0) = false := by simp; omega
    have e2 : ¬ i < 0 := by omega
    clear HI hx hs
    go_wp2_with fail
    go_ret
    exact ⟨rfl, below_alloc _ _⟩
  · rw [lines_all (by have := HL.out; have := HLM.out; omega) fun j s hj hx => ha j s (by have := HL.out; omega) hx]
    clear HI ha
    go_wp2_with fail
    go_ret
    exact ⟨rfl, below_alloc _ _⟩
end Go.Proofs.YtjhemdgeafglhaaDoor
