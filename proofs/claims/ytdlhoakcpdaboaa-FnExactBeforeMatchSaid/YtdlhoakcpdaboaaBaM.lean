/- Contracts: BeforeMatch, AfterMatch of both. No condition but a string's length. -/
import Derived.Test.YtdlhoakcpdaboaaFits
namespace Go.Proofs.Ytdlhoakcpdaboaa
open Go Go.RowKit

/-- What BeforeMatch, AfterMatch answer. -/
def bmT (s : ByteArray) (a b : Int) : ByteArray := if 0 ≤ a ∧ a ≤ b ∧ b ≤ (s.size : Int) then s.extract 0 a.toNat else ByteArray.empty
def amT (s : ByteArray) (a b : Int) : ByteArray := if 0 ≤ a ∧ a ≤ b ∧ b ≤ (s.size : Int) then s.extract b.toNat s.size else ByteArray.empty

set_option maxRecDepth 100000 in
theorem spec_BeforeMatch_any (s : ByteArray) (a b : Int) (A : Option Addr) (n c : Nat) (W : World) (hs : s.size ≤ maxLen) :
    Calls Try.prog 11 #[.string s, .agg #[.int .i64 a, .int .i64 b, .slice A n c]] W fun e w' => e = .returned (.string (bmT s a b)) ∧ Below W.heap.size W w' := by
  have HS := Lib.hid hs
  unfold maxLen at hs
  by_cases h : 0 ≤ a ∧ a ≤ b ∧ b ≤ (s.size : Int)
  · have HD := Lib.hid (show decide (0 ≤ a ∧ a ≤ b ∧ b ≤ (s.size : Int)) = true by simp [h])
    have HE : Hid (bmT s a b = s.extract 0 a.toNat) := by show _ = _; rw [bmT, if_pos h]
    obtain ⟨x, hx⟩ : ∃ x, bmT s a b = x := ⟨_, rfl⟩
    rw [hx] at HE ⊢
    clear hx
    obtain ⟨h0, h1, h2⟩ := h
    obtain ⟨i, rfl⟩ : ∃ i : Nat, a = i := ⟨a.toNat, by omega⟩
    obtain ⟨j, rfl⟩ : ∃ j : Nat, b = j := ⟨b.toNat, by omega⟩
    have h3 : (i : Int) ≤ (s.size : Int) := by omega
    go_enter Try.func11, Try.ntmps11
    go_wp2_with (go_at_call 33; refine (l12Fits_any _ _ _ _ _ _ _ HS.out).mono ?_; rintro e w1 ⟨rfl, hb⟩; rw [HD.out]; have HB1 := Lib.hid ((below_alloc W (.cells #[.int .i64 i, .int .i64 j, .slice A n c] 29)).trans (hb.mono (by simp))); have HR1 := Lib.hid ((RW.new W #[.int .i64 i, .int .i64 j, .slice A n c] 29).below hb (by simp)); have p0 : w1.cell? ⟨W.heap.size, 0, none⟩ = some (.int .i64 i) := HR1.out.cell 0; have p1 : w1.cell? ⟨W.heap.size, 1, none⟩ = some (.int .i64 j) := HR1.out.cell 1; clear hb)
    all_goals go_ret
    all_goals exact ⟨by rw [HE.out]; rfl, HB1.out⟩
  · have HD := Lib.hid (show decide (0 ≤ a ∧ a ≤ b ∧ b ≤ (s.size : Int)) = false by simp; omega)
    have HE : Hid (bmT s a b = ByteArray.empty) := by show _ = _; rw [bmT, if_neg h]
    obtain ⟨x, hx⟩ : ∃ x, bmT s a b = x := ⟨_, rfl⟩
    rw [hx] at HE ⊢
    clear hx h
    go_enter Try.func11, Try.ntmps11
    go_wp2_with (go_at_call 33; refine (l12Fits_any _ _ _ _ _ _ _ HS.out).mono ?_; rintro e w1 ⟨rfl, hb⟩; rw [HD.out]; have HB1 := Lib.hid ((below_alloc W (.cells #[.int .i64 a, .int .i64 b, .slice A n c] 29)).trans (hb.mono (by simp))); clear hb)
    all_goals go_ret
    all_goals exact ⟨by rw [HE.out]; rfl, HB1.out⟩

set_option maxRecDepth 100000 in
theorem spec_AfterMatch_any (s : ByteArray) (a b : Int) (A : Option Addr) (n c : Nat) (W : World) (hs : s.size ≤ maxLen) :
    Calls Try.prog 15 #[.string s, .agg #[.int .i64 a, .int .i64 b, .slice A n c]] W fun e w' => e = .returned (.string (amT s a b)) ∧ Below W.heap.size W w' := by
  have HS := Lib.hid hs
  unfold maxLen at hs
  by_cases h : 0 ≤ a ∧ a ≤ b ∧ b ≤ (s.size : Int)
  · have HD := Lib.hid (show decide (0 ≤ a ∧ a ≤ b ∧ b ≤ (s.size : Int)) = true by simp [h])
    have HE : Hid (amT s a b = s.extract b.toNat s.size) := by show _ = _; rw [amT, if_pos h]
    obtain ⟨x, hx⟩ : ∃ x, amT s a b = x := ⟨_, rfl⟩
    rw [hx] at HE ⊢
    clear hx
    obtain ⟨h0, h1, h2⟩ := h
    obtain ⟨i, rfl⟩ : ∃ i : Nat, a = i := ⟨a.toNat, by omega⟩
    obtain ⟨j, rfl⟩ : ∃ j : Nat, b = j := ⟨b.toNat, by omega⟩
    have h3 : (i : Int) ≤ (s.size : Int) := by omega
    go_enter Try.func15, Try.ntmps15
    go_wp2_with (go_at_call 33; refine (l12Fits_any _ _ _ _ _ _ _ HS.out).mono ?_; rintro e w1 ⟨rfl, hb⟩; rw [HD.out]; have HB1 := Lib.hid ((below_alloc W (.cells #[.int .i64 i, .int .i64 j, .slice A n c] 29)).trans (hb.mono (by simp))); have HR1 := Lib.hid ((RW.new W #[.int .i64 i, .int .i64 j, .slice A n c] 29).below hb (by simp)); have p0 : w1.cell? ⟨W.heap.size, 0, none⟩ = some (.int .i64 i) := HR1.out.cell 0; have p1 : w1.cell? ⟨W.heap.size, 1, none⟩ = some (.int .i64 j) := HR1.out.cell 1; clear hb)
    all_goals go_ret
    all_goals exact ⟨by rw [HE.out]; rfl, HB1.out⟩
  · have HD := Lib.hid (show decide (0 ≤ a ∧ a ≤ b ∧ b ≤ (s.size : Int)) = false by simp; omega)
    have HE : Hid (amT s a b = ByteArray.empty) := by show _ = _; rw [amT, if_neg h]
    obtain ⟨x, hx⟩ : ∃ x, amT s a b = x := ⟨_, rfl⟩
    rw [hx] at HE ⊢
    clear hx h
    go_enter Try.func15, Try.ntmps15
    go_wp2_with (go_at_call 33; refine (l12Fits_any _ _ _ _ _ _ _ HS.out).mono ?_; rintro e w1 ⟨rfl, hb⟩; rw [HD.out]; have HB1 := Lib.hid ((below_alloc W (.cells #[.int .i64 a, .int .i64 b, .slice A n c] 29)).trans (hb.mono (by simp))); clear hb)
    all_goals go_ret
    all_goals exact ⟨by rw [HE.out]; rfl, HB1.out⟩

set_option maxRecDepth 100000 in
theorem impl_BeforeMatch_any (s : ByteArray) (a b : Int) (A : Option Addr) (n c : Nat) (W : World) (hs : s.size ≤ maxLen) :
    Calls Try.prog 13 #[.string s, .agg #[.int .i64 a, .int .i64 b, .slice A n c]] W fun e w' => e = .returned (.string (bmT s a b)) ∧ Below W.heap.size W w' := by
  have HS := Lib.hid hs
  unfold maxLen at hs
  by_cases h : 0 ≤ a ∧ a ≤ b ∧ b ≤ (s.size : Int)
  · have HD := Lib.hid (show decide (0 ≤ a ∧ a ≤ b ∧ b ≤ (s.size : Int)) = true by simp [h])
    have HE : Hid (bmT s a b = s.extract 0 a.toNat) := by show _ = _; rw [bmT, if_pos h]
    obtain ⟨x, hx⟩ : ∃ x, bmT s a b = x := ⟨_, rfl⟩
    rw [hx] at HE ⊢
    clear hx
    obtain ⟨h0, h1, h2⟩ := h
    obtain ⟨i, rfl⟩ : ∃ i : Nat, a = i := ⟨a.toNat, by omega⟩
    obtain ⟨j, rfl⟩ : ∃ j : Nat, b = j := ⟨b.toNat, by omega⟩
    have h3 : (i : Int) ≤ (s.size : Int) := by omega
    go_enter Try.func13, Try.ntmps13
    go_wp2_with (go_at_call 35; refine (fits_any _ _ _ _ _ _ _ HS.out).mono ?_; rintro e w1 ⟨rfl, hb⟩; rw [HD.out]; have HB1 := Lib.hid ((below_alloc W (.cells #[.int .i64 i, .int .i64 j, .slice A n c] 29)).trans (hb.mono (by simp))); have HR1 := Lib.hid ((RW.new W #[.int .i64 i, .int .i64 j, .slice A n c] 29).below hb (by simp)); have p0 : w1.cell? ⟨W.heap.size, 0, none⟩ = some (.int .i64 i) := HR1.out.cell 0; have p1 : w1.cell? ⟨W.heap.size, 1, none⟩ = some (.int .i64 j) := HR1.out.cell 1; clear hb)
    all_goals go_ret
    all_goals exact ⟨by rw [HE.out]; rfl, HB1.out⟩
  · have HD := Lib.hid (show decide (0 ≤ a ∧ a ≤ b ∧ b ≤ (s.size : Int)) = false by simp; omega)
    have HE : Hid (bmT s a b = ByteArray.empty) := by show _ = _; rw [bmT, if_neg h]
    obtain ⟨x, hx⟩ : ∃ x, bmT s a b = x := ⟨_, rfl⟩
    rw [hx] at HE ⊢
    clear hx h
    go_enter Try.func13, Try.ntmps13
    go_wp2_with (go_at_call 35; refine (fits_any _ _ _ _ _ _ _ HS.out).mono ?_; rintro e w1 ⟨rfl, hb⟩; rw [HD.out]; have HB1 := Lib.hid ((below_alloc W (.cells #[.int .i64 a, .int .i64 b, .slice A n c] 29)).trans (hb.mono (by simp))); clear hb)
    all_goals go_ret
    all_goals exact ⟨by rw [HE.out]; rfl, HB1.out⟩

set_option maxRecDepth 100000 in
theorem impl_AfterMatch_any (s : ByteArray) (a b : Int) (A : Option Addr) (n c : Nat) (W : World) (hs : s.size ≤ maxLen) :
    Calls Try.prog 16 #[.string s, .agg #[.int .i64 a, .int .i64 b, .slice A n c]] W fun e w' => e = .returned (.string (amT s a b)) ∧ Below W.heap.size W w' := by
  have HS := Lib.hid hs
  unfold maxLen at hs
  by_cases h : 0 ≤ a ∧ a ≤ b ∧ b ≤ (s.size : Int)
  · have HD := Lib.hid (show decide (0 ≤ a ∧ a ≤ b ∧ b ≤ (s.size : Int)) = true by simp [h])
    have HE : Hid (amT s a b = s.extract b.toNat s.size) := by show _ = _; rw [amT, if_pos h]
    obtain ⟨x, hx⟩ : ∃ x, amT s a b = x := ⟨_, rfl⟩
    rw [hx] at HE ⊢
    clear hx
    obtain ⟨h0, h1, h2⟩ := h
    obtain ⟨i, rfl⟩ : ∃ i : Nat, a = i := ⟨a.toNat, by omega⟩
    obtain ⟨j, rfl⟩ : ∃ j : Nat, b = j := ⟨b.toNat, by omega⟩
    have h3 : (i : Int) ≤ (s.size : Int) := by omega
    go_enter Try.func16, Try.ntmps16
    go_wp2_with (go_at_call 35; refine (fits_any _ _ _ _ _ _ _ HS.out).mono ?_; rintro e w1 ⟨rfl, hb⟩; rw [HD.out]; have HB1 := Lib.hid ((below_alloc W (.cells #[.int .i64 i, .int .i64 j, .slice A n c] 29)).trans (hb.mono (by simp))); have HR1 := Lib.hid ((RW.new W #[.int .i64 i, .int .i64 j, .slice A n c] 29).below hb (by simp)); have p0 : w1.cell? ⟨W.heap.size, 0, none⟩ = some (.int .i64 i) := HR1.out.cell 0; have p1 : w1.cell? ⟨W.heap.size, 1, none⟩ = some (.int .i64 j) := HR1.out.cell 1; clear hb)
    all_goals go_ret
    all_goals exact ⟨by rw [HE.out]; rfl, HB1.out⟩
  · have HD := Lib.hid (show decide (0 ≤ a ∧ a ≤ b ∧ b ≤ (s.size : Int)) = false by simp; omega)
    have HE : Hid (amT s a b = ByteArray.empty) := by show _ = _; rw [amT, if_neg h]
    obtain ⟨x, hx⟩ : ∃ x, amT s a b = x := ⟨_, rfl⟩
    rw [hx] at HE ⊢
    clear hx h
    go_enter Try.func16, Try.ntmps16
    go_wp2_with (go_at_call 35; refine (fits_any _ _ _ _ _ _ _ HS.out).mono ?_; rintro e w1 ⟨rfl, hb⟩; rw [HD.out]; have HB1 := Lib.hid ((below_alloc W (.cells #[.int .i64 a, .int .i64 b, .slice A n c] 29)).trans (hb.mono (by simp))); clear hb)
    all_goals go_ret
    all_goals exact ⟨by rw [HE.out]; rfl, HB1.out⟩
end Go.Proofs.Ytdlhoakcpdaboaa
