/- Contracts: ReplaceMatch of both. Conditions: bounds on the strings. -/
import Derived.Test.YtdlhoakcpdaboaaBaM
namespace Go.Proofs.Ytdlhoakcpdaboaa
open Go Go.RowKit

/-- What ReplaceMatch answers. -/
def rpT (s t : ByteArray) (a b : Int) : ByteArray := if (0 ≤ a ∧ a ≤ b ∧ b ≤ (s.size : Int)) ∧ a + t.size + s.size - b ≤ 200 then s.extract 0 a.toNat ++ t ++ s.extract b.toNat s.size else ByteArray.empty
def rpC (s t : ByteArray) (a b : Int) : Int := if 0 ≤ a ∧ a ≤ b ∧ b ≤ (s.size : Int) then if a + t.size + s.size - b ≤ 200 then 0 else 6 else 3

/-- A match's box, behind a call. -/
def Bx (W : World) (a b : Int) (A : Option Addr) (n c : Nat) (w : World) : Prop := RW 29 w W.heap.size #[.int .i64 a, .int .i64 b, .slice A n c] ∧ Below W.heap.size W w
theorem Bx.grow {W w w' : World} {a b : Int} {A : Option Addr} {n c : Nat} (h : Bx W a b A n c w) (hb : Below w.heap.size w w') : Bx W a b A n c w' :=
  ⟨h.1.below hb h.1.lt, h.2.trans (hb.mono h.2.size)⟩
theorem Bx.one {W w : World} {a b : Int} {A : Option Addr} {n c : Nat} (hb : Below (W.alloc (.cells #[.int .i64 a, .int .i64 b, .slice A n c] 29)).heap.size (W.alloc (.cells #[.int .i64 a, .int .i64 b, .slice A n c] 29)) w) : Bx W a b A n c w :=
  Bx.grow (w := W.alloc (.cells #[.int .i64 a, .int .i64 b, .slice A n c] 29)) ⟨RW.new _ _ _, below_alloc _ _⟩ hb
abbrev FlatBx (W : World) (a b : Int) (A : Option Addr) (n c : Nat) (w : World) : Prop :=
  (w.cell? ⟨W.heap.size, 0, none⟩ = some (.int .i64 a) ∧ w.cell? ⟨W.heap.size, 1, none⟩ = some (.int .i64 b) ∧ w.cell? ⟨W.heap.size, 2, none⟩ = some (.slice A n c)) ∧ Bx W a b A n c w
theorem Bx.flat {W w : World} {a b : Int} {A : Option Addr} {n c : Nat} (h : Bx W a b A n c w) : FlatBx W a b A n c w := ⟨⟨h.1.cell 0, h.1.cell 1, h.1.cell 2⟩, h⟩

set_option maxRecDepth 100000 in
theorem spec_ReplaceMatch_any (s t : ByteArray) (a b : Int) (A : Option Addr) (n c : Nat) (W : World) (hs : s.size ≤ 1048576) (ht : t.size ≤ 1048576) :
    Calls Try.prog 17 #[.string s, .agg #[.int .i64 a, .int .i64 b, .slice A n c], .string t] W fun e w' => e = .returned (.tuple #[.string (rpT s t a b), .int .i64 (rpC s t a b)]) ∧ Below W.heap.size W w' := by
  have HS : Hid (s.size ≤ maxLen) := by show _ ≤ _; unfold maxLen; omega
  by_cases h : 0 ≤ a ∧ a ≤ b ∧ b ≤ (s.size : Int)
  · have HD := Lib.hid (show decide (0 ≤ a ∧ a ≤ b ∧ b ≤ (s.size : Int)) = true by simp [h])
    by_cases hz : a + t.size + s.size - b ≤ 200
    · have HE : Hid (rpT s t a b = s.extract 0 a.toNat ++ t ++ s.extract b.toNat s.size) := by show _ = _; rw [rpT, if_pos ⟨h, hz⟩]
      have HC : Hid (rpC s t a b = 0) := by show _ = _; rw [rpC, if_pos h, if_pos hz]
      obtain ⟨x, hx⟩ : ∃ x, rpT s t a b = x := ⟨_, rfl⟩
      obtain ⟨z, hz1⟩ : ∃ z, rpC s t a b = z := ⟨_, rfl⟩
      rw [hx] at HE ⊢
      rw [hz1] at HC ⊢
      clear hx hz1
      obtain ⟨h0, h1, h2⟩ := h
      obtain ⟨i, rfl⟩ : ∃ i : Nat, a = i := ⟨a.toNat, by omega⟩
      obtain ⟨j, rfl⟩ : ∃ j : Nat, b = j := ⟨b.toNat, by omega⟩
      have h3 : (i : Int) ≤ (s.size : Int) := by omega
      have d9 : decide (200 < (i : Int) + (t.size : Int) + (s.size : Int) - (j : Int)) = false := by simp; omega
      have y0 : (i : Int) ≤ 1048576 := by omega
      have y1 : (j : Int) ≤ 1048576 := by omega
      have y2 : (s.size : Int) ≤ 1048576 := by omega
      have y3 : (t.size : Int) ≤ 1048576 := by omega
      have y4 : (s.extract 0 i).size ≤ 1048576 := by simp [ByteArray.size_extract]; omega
      have y5 : (s.extract j s.size).size ≤ 1048576 := by simp [ByteArray.size_extract]; omega
      clear hz
      go_enter Try.func17, Try.ntmps17
      go_wp2_with (go_at_call 33; refine (l12Fits_any _ _ _ _ _ _ _ HS.out).mono ?_; rintro e w1 ⟨rfl, hb⟩; rw [HD.out]; have HB1 : Hid (Bx W i j A n c w1) := Bx.one hb; have p0 : w1.cell? ⟨W.heap.size, 0, none⟩ = some (.int .i64 i) := HB1.out.1.cell 0; have p1 : w1.cell? ⟨W.heap.size, 1, none⟩ = some (.int .i64 j) := HB1.out.1.cell 1; have p2 : w1.cell? ⟨W.heap.size, 2, none⟩ = some (.slice A n c) := HB1.out.1.cell 2; clear hb)
      all_goals first | go_ret2 | (go_region; all_goals (try go_wp2); all_goals go_ret2)
      all_goals first | exact ⟨by rw [HE.out, HC.out]; rfl, HB1.out.2⟩ | exact ⟨by rw [HE.out, HC.out]; rfl, HB1.out.2.drew⟩
    · have HE : Hid (rpT s t a b = ByteArray.empty) := by show _ = _; rw [rpT, if_neg (fun h => hz h.2)]
      have HC : Hid (rpC s t a b = 6) := by show _ = _; rw [rpC, if_pos h, if_neg hz]
      obtain ⟨x, hx⟩ : ∃ x, rpT s t a b = x := ⟨_, rfl⟩
      obtain ⟨z, hz1⟩ : ∃ z, rpC s t a b = z := ⟨_, rfl⟩
      rw [hx] at HE ⊢
      rw [hz1] at HC ⊢
      clear hx hz1
      obtain ⟨h0, h1, h2⟩ := h
      obtain ⟨i, rfl⟩ : ∃ i : Nat, a = i := ⟨a.toNat, by omega⟩
      obtain ⟨j, rfl⟩ : ∃ j : Nat, b = j := ⟨b.toNat, by omega⟩
      have h3 : (i : Int) ≤ (s.size : Int) := by omega
      have d9 : decide (200 < (i : Int) + (t.size : Int) + (s.size : Int) - (j : Int)) = true := by simp; omega
      have y0 : (i : Int) ≤ 1048576 := by omega
      have y1 : (j : Int) ≤ 1048576 := by omega
      have y2 : (s.size : Int) ≤ 1048576 := by omega
      have y3 : (t.size : Int) ≤ 1048576 := by omega
      have y4 : (s.extract 0 i).size ≤ 1048576 := by simp [ByteArray.size_extract]; omega
      have y5 : (s.extract j s.size).size ≤ 1048576 := by simp [ByteArray.size_extract]; omega
      clear hz
      go_enter Try.func17, Try.ntmps17
      go_wp2_with (go_at_call 33; refine (l12Fits_any _ _ _ _ _ _ _ HS.out).mono ?_; rintro e w1 ⟨rfl, hb⟩; rw [HD.out]; have HB1 : Hid (Bx W i j A n c w1) := Bx.one hb; have p0 : w1.cell? ⟨W.heap.size, 0, none⟩ = some (.int .i64 i) := HB1.out.1.cell 0; have p1 : w1.cell? ⟨W.heap.size, 1, none⟩ = some (.int .i64 j) := HB1.out.1.cell 1; have p2 : w1.cell? ⟨W.heap.size, 2, none⟩ = some (.slice A n c) := HB1.out.1.cell 2; clear hb)
      all_goals first | go_ret2 | (go_region; all_goals (try go_wp2); all_goals go_ret2)
      all_goals first | exact ⟨by rw [HE.out, HC.out]; rfl, HB1.out.2⟩ | exact ⟨by rw [HE.out, HC.out]; rfl, HB1.out.2.drew⟩
  · have HD := Lib.hid (show decide (0 ≤ a ∧ a ≤ b ∧ b ≤ (s.size : Int)) = false by simp; omega)
    have HE : Hid (rpT s t a b = ByteArray.empty) := by show _ = _; rw [rpT, if_neg (fun x => h x.1)]
    have HC : Hid (rpC s t a b = 3) := by show _ = _; rw [rpC, if_neg h]
    obtain ⟨x, hx⟩ : ∃ x, rpT s t a b = x := ⟨_, rfl⟩
    obtain ⟨z, hz1⟩ : ∃ z, rpC s t a b = z := ⟨_, rfl⟩
    rw [hx] at HE ⊢
    rw [hz1] at HC ⊢
    clear hx hz1 h
    go_enter Try.func17, Try.ntmps17
    go_wp2_with (go_at_call 33; refine (l12Fits_any _ _ _ _ _ _ _ HS.out).mono ?_; rintro e w1 ⟨rfl, hb⟩; rw [HD.out]; have HB1 : Hid (Bx W a b A n c w1) := Bx.one hb; clear hb)
    all_goals go_ret2
    all_goals first | exact ⟨by rw [HE.out, HC.out]; rfl, HB1.out.2⟩ | exact ⟨by rw [HE.out, HC.out]; rfl, HB1.out.2.drew⟩

set_option maxRecDepth 100000 in
theorem impl_ReplaceMatch_any (s t : ByteArray) (a b : Int) (A : Option Addr) (n c : Nat) (W : World) (hs : s.size ≤ 1048576) (ht : t.size ≤ 1048576) :
    Calls Try.prog 18 #[.string s, .agg #[.int .i64 a, .int .i64 b, .slice A n c], .string t] W fun e w' => e = .returned (.tuple #[.string (rpT s t a b), .int .i64 (rpC s t a b)]) ∧ Below W.heap.size W w' := by
  have HS : Hid (s.size ≤ maxLen) := by show _ ≤ _; unfold maxLen; omega
  by_cases h : 0 ≤ a ∧ a ≤ b ∧ b ≤ (s.size : Int)
  · have HD := Lib.hid (show decide (0 ≤ a ∧ a ≤ b ∧ b ≤ (s.size : Int)) = true by simp [h])
    by_cases hz : a + t.size + s.size - b ≤ 200
    · have HE : Hid (rpT s t a b = s.extract 0 a.toNat ++ t ++ s.extract b.toNat s.size) := by show _ = _; rw [rpT, if_pos ⟨h, hz⟩]
      have HC : Hid (rpC s t a b = 0) := by show _ = _; rw [rpC, if_pos h, if_pos hz]
      have HX := Lib.hid (show bmT s a b = s.extract 0 a.toNat by rw [bmT, if_pos h])
      have HY := Lib.hid (show amT s a b = s.extract b.toNat s.size by rw [amT, if_pos h])
      have hzz : ((s.extract 0 a.toNat ++ t ++ s.extract b.toNat s.size).size : Int) = a + t.size + s.size - b := by simp [ByteArray.size_append, ByteArray.size_extract]; omega
      have hx1 : (s.extract 0 a.toNat).size ≤ 1048576 := by simp [ByteArray.size_extract]; omega
      have hx2 : (s.extract b.toNat s.size).size ≤ 1048576 := by simp [ByteArray.size_extract]; omega
      have hx3 : ((s.extract 0 a.toNat).size : Int) + t.size + (s.extract b.toNat s.size).size = a + t.size + s.size - b := by rw [← hzz]; simp [ByteArray.size_append]
      have d9 : decide (200 < ((s.extract 0 a.toNat).size : Int) + (t.size : Int) + ((s.extract b.toNat s.size).size : Int)) = false := by rw [hx3]; simp; omega
      have n1 : ¬ 9223372036854775807 < (s.extract 0 a.toNat).size + t.size := by omega
      have n2 : ¬ 9223372036854775807 < (s.extract 0 a.toNat).size + t.size + (s.extract b.toNat s.size).size := by omega
      clear hx3
      generalize s.extract 0 a.toNat = u at *
      generalize s.extract b.toNat s.size = v at *
      obtain ⟨x, hx⟩ : ∃ x, rpT s t a b = x := ⟨_, rfl⟩
      obtain ⟨z, hz1⟩ : ∃ z, rpC s t a b = z := ⟨_, rfl⟩
      rw [hx] at HE ⊢
      rw [hz1] at HC ⊢
      clear hx hz1
      obtain ⟨h0, h1, h2⟩ := h
      clear hz hzz
      go_enter Try.func18, Try.ntmps18
      go_wp2_with (go_at_call 35; refine (fits_any _ _ _ _ _ _ _ HS.out).mono ?_; rintro e w1 ⟨rfl, hb⟩; rw [HD.out]; have HB1 : Hid (Bx W a b A n c w1) := Bx.one hb; clear hb)
      have H9 := Lib.hid (HB1.out.grow (Below.refl _ _).drew)
      go_region_held3 (fun w => FlatBx W a b A n c w)
        (first | exact H9.out.flat | exact H10.out.flat | exact H11.out.flat | go_keep)
        ((first
          | (go_at_call 13; have HQ := impl_BeforeMatch_any s a b A n c w1.drew HS.out; rw [HX.out] at HQ; refine Calls.mono HQ ?_; clear HQ; rintro e w6 ⟨rfl, hb⟩; have H10 := Lib.hid (H9.out.grow hb); clear hb)
          | (go_at_call 16; have HQ := impl_AfterMatch_any s a b A n c w6 HS.out; rw [HY.out] at HQ; refine Calls.mono HQ ?_; clear HQ; rintro e w7 ⟨rfl, hb⟩; have H11 := Lib.hid (H10.out.grow hb); clear hb)))
      go_split_ands
      go_wp2_with fail
      all_goals go_ret2
      all_goals exact ⟨by rw [HE.out, HC.out]; rfl, H11.out.2⟩
    · have HE : Hid (rpT s t a b = ByteArray.empty) := by show _ = _; rw [rpT, if_neg (fun h => hz h.2)]
      have HC : Hid (rpC s t a b = 6) := by show _ = _; rw [rpC, if_pos h, if_neg hz]
      have HX := Lib.hid (show bmT s a b = s.extract 0 a.toNat by rw [bmT, if_pos h])
      have HY := Lib.hid (show amT s a b = s.extract b.toNat s.size by rw [amT, if_pos h])
      have hzz : ((s.extract 0 a.toNat ++ t ++ s.extract b.toNat s.size).size : Int) = a + t.size + s.size - b := by simp [ByteArray.size_append, ByteArray.size_extract]; omega
      have hx1 : (s.extract 0 a.toNat).size ≤ 1048576 := by simp [ByteArray.size_extract]; omega
      have hx2 : (s.extract b.toNat s.size).size ≤ 1048576 := by simp [ByteArray.size_extract]; omega
      have hx3 : ((s.extract 0 a.toNat).size : Int) + t.size + (s.extract b.toNat s.size).size = a + t.size + s.size - b := by rw [← hzz]; simp [ByteArray.size_append]
      have d9 : decide (200 < ((s.extract 0 a.toNat).size : Int) + (t.size : Int) + ((s.extract b.toNat s.size).size : Int)) = true := by rw [hx3]; simp; omega
      have n1 : ¬ 9223372036854775807 < (s.extract 0 a.toNat).size + t.size := by omega
      have n2 : ¬ 9223372036854775807 < (s.extract 0 a.toNat).size + t.size + (s.extract b.toNat s.size).size := by omega
      clear hx3
      generalize s.extract 0 a.toNat = u at *
      generalize s.extract b.toNat s.size = v at *
      obtain ⟨x, hx⟩ : ∃ x, rpT s t a b = x := ⟨_, rfl⟩
      obtain ⟨z, hz1⟩ : ∃ z, rpC s t a b = z := ⟨_, rfl⟩
      rw [hx] at HE ⊢
      rw [hz1] at HC ⊢
      clear hx hz1
      obtain ⟨h0, h1, h2⟩ := h
      clear hz hzz
      go_enter Try.func18, Try.ntmps18
      go_wp2_with (go_at_call 35; refine (fits_any _ _ _ _ _ _ _ HS.out).mono ?_; rintro e w1 ⟨rfl, hb⟩; rw [HD.out]; have HB1 : Hid (Bx W a b A n c w1) := Bx.one hb; clear hb)
      have H9 := Lib.hid (HB1.out.grow (Below.refl _ _).drew)
      go_region_held3 (fun w => FlatBx W a b A n c w)
        (first | exact H9.out.flat | exact H10.out.flat | exact H11.out.flat | go_keep)
        ((first
          | (go_at_call 13; have HQ := impl_BeforeMatch_any s a b A n c w1.drew HS.out; rw [HX.out] at HQ; refine Calls.mono HQ ?_; clear HQ; rintro e w6 ⟨rfl, hb⟩; have H10 := Lib.hid (H9.out.grow hb); clear hb)
          | (go_at_call 16; have HQ := impl_AfterMatch_any s a b A n c w6 HS.out; rw [HY.out] at HQ; refine Calls.mono HQ ?_; clear HQ; rintro e w7 ⟨rfl, hb⟩; have H11 := Lib.hid (H10.out.grow hb); clear hb)))
      go_split_ands
      go_wp2_with fail
      all_goals go_ret2
      all_goals exact ⟨by rw [HE.out, HC.out]; rfl, H11.out.2⟩
  · have HD := Lib.hid (show decide (0 ≤ a ∧ a ≤ b ∧ b ≤ (s.size : Int)) = false by simp; omega)
    have HE : Hid (rpT s t a b = ByteArray.empty) := by show _ = _; rw [rpT, if_neg (fun x => h x.1)]
    have HC : Hid (rpC s t a b = 3) := by show _ = _; rw [rpC, if_neg h]
    obtain ⟨x, hx⟩ : ∃ x, rpT s t a b = x := ⟨_, rfl⟩
    obtain ⟨z, hz1⟩ : ∃ z, rpC s t a b = z := ⟨_, rfl⟩
    rw [hx] at HE ⊢
    rw [hz1] at HC ⊢
    clear hx hz1 h
    go_enter Try.func18, Try.ntmps18
    go_wp2_with (go_at_call 35; refine (fits_any _ _ _ _ _ _ _ HS.out).mono ?_; rintro e w1 ⟨rfl, hb⟩; rw [HD.out]; have HB1 : Hid (Bx W a b A n c w1) := Bx.one hb; clear hb)
    all_goals go_ret2
    all_goals first | exact ⟨by rw [HE.out, HC.out]; rfl, HB1.out.2⟩ | exact ⟨by rw [HE.out, HC.out]; rfl, HB1.out.2.drew⟩
end Go.Proofs.Ytdlhoakcpdaboaa
