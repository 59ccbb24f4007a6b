/- Contracts: l12Fits, MatchText of both. No condition. -/
import Derived.Test.YtcaomjagibbgiaaMtsEq
import Derived.Test.YtcaomjagibbgiaaIn
import Derived.Test.YtcaomjagibbgiaaWithin
namespace Go.Proofs.Ytcaomjagibbgiaa
open Go Go.RowKit

/-- What MatchText answers. -/
def mtT (s : ByteArray) (a b : Int) : ByteArray := if 0 ≤ a ∧ a ≤ b ∧ b ≤ (s.size : Int) then s.extract a.toNat b.toNat else ByteArray.empty

set_option maxRecDepth 100000 in
theorem l12Fits_any (s : ByteArray) (a b : Int) (A : Option Addr) (n c : Nat) (W : World) (hs : s.size ≤ maxLen) :
    Calls Try.prog 33 #[.string s, .agg #[.int .i64 a, .int .i64 b, .slice A n c]] W fun e w' => e = .returned (.bool (decide (0 ≤ a ∧ a ≤ b ∧ b ≤ (s.size : Int)))) ∧ Below W.heap.size W w' := by
  unfold maxLen at hs
  by_cases h1 : 0 ≤ b ∧ b ≤ (s.size : Int)
  · have d1 : decide (0 ≤ b ∧ b ≤ (s.size : Int)) = true := by simp [h1]
    obtain ⟨z, hz⟩ : ∃ z, decide (0 ≤ a ∧ a ≤ b) = z := ⟨_, rfl⟩
    have e : decide (0 ≤ a ∧ a ≤ b ∧ b ≤ (s.size : Int)) = z := by rw [← hz]; congr 1; simp; omega
    rw [e]
    have HZ := Lib.hid hz
    have HD := Lib.hid d1
    clear hz d1 e h1
    cases z
    all_goals
      go_enter Try.func33, Try.ntmps33
      go_wp2_with (go_at_call 43; refine (l00In_any _ _ _ _).mono ?_; rintro e w1 ⟨rfl, rfl⟩; first | rw [HD.out] | rw [HZ.out])
      all_goals go_ret
      all_goals exact ⟨rfl, below_alloc _ _⟩
  · have d1 : decide (0 ≤ b ∧ b ≤ (s.size : Int)) = false := by simp; omega
    have e : decide (0 ≤ a ∧ a ≤ b ∧ b ≤ (s.size : Int)) = false := by simp; omega
    rw [e]
    have HD := Lib.hid d1
    clear d1 e h1
    go_enter Try.func33, Try.ntmps33
    go_wp2_with (go_at_call 43; refine (l00In_any _ _ _ _).mono ?_; rintro e w1 ⟨rfl, rfl⟩; rw [HD.out])
    all_goals go_ret
    all_goals exact ⟨rfl, below_alloc _ _⟩

set_option maxRecDepth 100000 in
theorem spec_MatchText_any (s : ByteArray) (a b : Int) (A : Option Addr) (n c : Nat) (W : World) (hs : s.size ≤ maxLen) :
    Calls Try.prog 18 #[.string s, .agg #[.int .i64 a, .int .i64 b, .slice A n c]] W fun e w' => e = .returned (.string (mtT s a b)) ∧ Below W.heap.size W w' := by
  have HS := Lib.hid hs
  unfold maxLen at hs
  by_cases h : 0 ≤ a ∧ a ≤ b ∧ b ≤ (s.size : Int)
  · have HD := Lib.hid (show decide (0 ≤ a ∧ a ≤ b ∧ b ≤ (s.size : Int)) = true by simp [h])
    have HE : Hid (mtT s a b = s.extract a.toNat b.toNat) := by show _ = _; rw [mtT, if_pos h]
    obtain ⟨x, hx⟩ : ∃ x, mtT s a b = x := ⟨_, rfl⟩
    rw [hx] at HE ⊢
    clear hx
    obtain ⟨h0, h1, h2⟩ := h
    obtain ⟨i, rfl⟩ : ∃ i : Nat, a = i := ⟨a.toNat, by omega⟩
    obtain ⟨j, rfl⟩ : ∃ j : Nat, b = j := ⟨b.toNat, by omega⟩
    go_enter Try.func18, Try.ntmps18
    go_wp2_with (go_at_call 33; refine (l12Fits_any _ _ _ _ _ _ _ HS.out).mono ?_; rintro e w1 ⟨rfl, hb⟩; rw [HD.out]; have HB1 := Lib.hid ((below_alloc W (.cells #[.int .i64 i, .int .i64 j, .slice A n c] 29)).trans (hb.mono (by simp))); have HR1 := Lib.hid ((RW.new W #[.int .i64 i, .int .i64 j, .slice A n c] 29).below hb (by simp)); have p0 : w1.cell? ⟨W.heap.size, 0, none⟩ = some (.int .i64 i) := HR1.out.cell 0; have p1 : w1.cell? ⟨W.heap.size, 1, none⟩ = some (.int .i64 j) := HR1.out.cell 1; clear hb)
    all_goals go_ret
    all_goals exact ⟨by rw [HE.out]; rfl, HB1.out⟩
  · have HD := Lib.hid (show decide (0 ≤ a ∧ a ≤ b ∧ b ≤ (s.size : Int)) = false by simp; omega)
    have HE : Hid (mtT s a b = ByteArray.empty) := by show _ = _; rw [mtT, if_neg h]
    obtain ⟨x, hx⟩ : ∃ x, mtT s a b = x := ⟨_, rfl⟩
    rw [hx] at HE ⊢
    clear hx h
    go_enter Try.func18, Try.ntmps18
    go_wp2_with (go_at_call 33; refine (l12Fits_any _ _ _ _ _ _ _ HS.out).mono ?_; rintro e w1 ⟨rfl, hb⟩; rw [HD.out]; have HB1 := Lib.hid ((below_alloc W (.cells #[.int .i64 a, .int .i64 b, .slice A n c] 29)).trans (hb.mono (by simp))); clear hb)
    all_goals go_ret
    all_goals exact ⟨by rw [HE.out]; rfl, HB1.out⟩

set_option maxRecDepth 100000 in
theorem impl_MatchText_any (s : ByteArray) (a b : Int) (A : Option Addr) (n c : Nat) (W : World) (hs : s.size ≤ maxLen) :
    Calls Try.prog 19 #[.string s, .agg #[.int .i64 a, .int .i64 b, .slice A n c]] W fun e w' => e = .returned (.string (mtT s a b)) ∧ Below W.heap.size W w' := by
  unfold maxLen at hs
  by_cases h : 0 ≤ a ∧ a ≤ b
  · have HD := Lib.hid (show decide (0 ≤ a ∧ a ≤ b) = true by simp [h])
    by_cases h2 : b ≤ (s.size : Int)
    · have HE : Hid (mtT s a b = s.extract a.toNat b.toNat) := by show _ = _; rw [mtT, if_pos ⟨h.1, h.2, h2⟩]
      obtain ⟨x, hx⟩ : ∃ x, mtT s a b = x := ⟨_, rfl⟩
      rw [hx] at HE ⊢
      clear hx
      obtain ⟨h0, h1⟩ := h
      obtain ⟨i, rfl⟩ : ∃ i : Nat, a = i := ⟨a.toNat, by omega⟩
      obtain ⟨j, rfl⟩ : ∃ j : Nat, b = j := ⟨b.toNat, by omega⟩
      have d2 : decide ((s.size : Int) < (j : Int)) = false := by simp; omega
      go_enter Try.func19, Try.ntmps19
      go_wp2_with (go_at_call 34; refine (withinB_i64 _ _ _ _).mono ?_; rintro e w1 ⟨rfl, rfl⟩; rw [HD.out])
      all_goals go_ret
      all_goals exact ⟨by rw [HE.out]; rfl, below_alloc _ _⟩
    · have HE : Hid (mtT s a b = ByteArray.empty) := by show _ = _; rw [mtT, if_neg (by omega)]
      obtain ⟨x, hx⟩ : ∃ x, mtT s a b = x := ⟨_, rfl⟩
      rw [hx] at HE ⊢
      clear hx
      have d2 : decide ((s.size : Int) < b) = true := by simp; omega
      go_enter Try.func19, Try.ntmps19
      go_wp2_with (go_at_call 34; refine (withinB_i64 _ _ _ _).mono ?_; rintro e w1 ⟨rfl, rfl⟩; rw [HD.out])
      all_goals go_ret
      all_goals exact ⟨by rw [HE.out]; rfl, below_alloc _ _⟩
  · have HD := Lib.hid (show decide (0 ≤ a ∧ a ≤ b) = false by simp; omega)
    have HE : Hid (mtT s a b = ByteArray.empty) := by show _ = _; rw [mtT, if_neg (by omega)]
    obtain ⟨x, hx⟩ : ∃ x, mtT s a b = x := ⟨_, rfl⟩
    rw [hx] at HE ⊢
    clear hx h
    go_enter Try.func19, Try.ntmps19
    go_wp2_with (go_at_call 34; refine (withinB_i64 _ _ _ _).mono ?_; rintro e w1 ⟨rfl, rfl⟩; rw [HD.out])
    all_goals go_ret
    all_goals exact ⟨by rw [HE.out]; rfl, below_alloc _ _⟩
end Go.Proofs.Ytcaomjagibbgiaa
