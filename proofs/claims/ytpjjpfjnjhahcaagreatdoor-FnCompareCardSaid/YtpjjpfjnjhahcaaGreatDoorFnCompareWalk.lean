/- The law's walk: FnCompare. Conditions: the code's bytes; the tables hold what the program's text lays. -/
import Derived.Test.YtpjjpfjnjhahcaaGreatDoorCmpI
import Derived.Test.YtpjjpfjnjhahcaaGreatDoorDrawC
import Derived.Test.YtpjjpfjnjhahcaaGreatDoorBytes
import Derived.Test.YtpjjpfjnjhahcaaGreatDoorCards
import Derived.Stop.LaidErr
namespace Go.Proofs.YtpjjpfjnjhahcaaGreatDoor
open Go Go.RowKit

theorem tabs_fncmp {W : World} (hL : laidMetH Tryz.prog Rows.fnCompareRow.laid W) : Tabs W := by
  have h1 : laidMet Tryz.prog [("math/bits.deBruijn32tab", Rows.laid_math_bits_deBruijn32tab), ("math/bits.deBruijn64tab", Rows.laid_math_bits_deBruijn64tab), ("internal/strconv.uint64pow10", Rows.laid_internal_strconv_uint64pow10), ("strconv.ErrRange", Rows.laid_strconv_ErrRange), ("strconv.ErrSyntax", Rows.laid_strconv_ErrSyntax), ("loop.example/g00873/impl.byteClasses", Rows.laid_loop_example_g00873_impl_byteClasses)] W := hL
  have h3 := h1.tail.tail
  have h5 := h3.tail.tail.tail
  have hP : PowTab W := Lib.tabIs_of_head gPow (by kernel_rfl) Tryz.underlying110 Tryz.underlying51 (by kernel_rfl) (by kernel_rfl) h3
  exact ⟨Lib.tabIs_of_head gClasses (by kernel_rfl) Tryz.underlying94 Tryz.underlying5 (by kernel_rfl) (by kernel_rfl) h5, hP, heap_pos (hP.cell gPow 0 (by decide))⟩

theorem cmp_all (a b : Va) : ∃ (x3 x1 x5 : Bool) (c : Int), cmpV 3 a b = (x3, c) ∧ cmpV 1 a b = (x1, c) ∧ cmpV 5 a b = (x5, c) ∧
    (c = 0 → cmpV 4 a b = (!x5, 0) ∧ cmpV 6 a b = (!x3, 0) ∧ cmpV 2 a b = (!x1, 0) ∧ cmpV 7 a b = (a.same b, 0) ∧ cmpV 8 a b = (!a.same b, 0) ∧ ((x3 = true ∧ x1 = false ∧ x5 = false) ∨ (x3 = false ∧ x1 = true ∧ x5 = false) ∨ (x3 = false ∧ x1 = false ∧ x5 = true))) := by
  cases hok : (a.ok && b.ok)
  · refine ⟨false, false, false, 1, ?_, ?_, ?_, fun h => by omega⟩ <;> simp [cmpV, hok]
  · cases hti : (tiB a && tiB b)
    · refine ⟨false, false, false, 4, ?_, ?_, ?_, fun h => by omega⟩ <;> simp [cmpV, hok, hti]
    · refine ⟨decide (tiI a < tiI b), tiI a == tiI b, decide (tiI b < tiI a), 0, ?_, ?_, ?_, fun _ => ⟨?_, ?_, ?_, ?_, ?_, ?_⟩⟩
      · simp [cmpV, hok, hti, holdI]
      · simp [cmpV, hok, hti, holdI]
      · simp [cmpV, hok, hti, holdI]
      · simp [cmpV, hok, hti, holdI]
        rw [← decide_not]; congr 1; simp
      · simp [cmpV, hok, hti, holdI]
        rw [← decide_not]; congr 1; simp
      · simp [cmpV, hok, hti, holdI]
        rfl
      · simp [cmpV, hok]
      · simp [cmpV, hok]
      · rcases Int.lt_trichotomy (tiI a) (tiI b) with h | h | h
        · refine .inl ⟨by simpa using h, by simp; omega, by simp; omega⟩
        · refine .inr (.inl ⟨by simp; omega, by simpa using h, by simp; omega⟩)
        · refine .inr (.inr ⟨by simp; omega, by simp; omega, by simpa using h⟩)

/-- How many of the first k hold. -/
def cnB (x y z : Bool) : Nat → Int
  | 0 => 0
  | 1 => if x then 1 else 0
  | 2 => (if x then 1 else 0) + (if y then 1 else 0)
  | _ => (if x then 1 else 0) + (if y then 1 else 0) + (if z then 1 else 0)
theorem cnB_at : cnB true false false 0 = 0 ∧ cnB true false false 1 = 1 ∧ cnB true false false 2 = 1 ∧ cnB false true false 0 = 0 ∧ cnB false true false 1 = 0 ∧ cnB false true false 2 = 1 ∧ cnB false false true 0 = 0 ∧ cnB false false true 1 = 0 ∧ cnB false false true 2 = 0 := by decide
theorem Va.same_cases (a b : Va) (s : Bool) (hs : a.same b = s) : ((a.k == b.k) = false ∧ s = false) ∨ ((a.k == b.k) = true ∧ (a.n == b.n) = false ∧ s = false) ∨ ((a.k == b.k) = true ∧ (a.n == b.n) = true ∧ (a.t.toList == b.t.toList) = false ∧ s = false) ∨ ((a.k == b.k) = true ∧ (a.n == b.n) = true ∧ (a.t.toList == b.t.toList) = true ∧ (a.r == b.r) = false ∧ s = false) ∨ ((a.k == b.k) = true ∧ (a.n == b.n) = true ∧ (a.t.toList == b.t.toList) = true ∧ (a.r == b.r) = true ∧ s = true) := by
  subst hs
  unfold Va.same sameV
  cases (a.k == b.k) <;> cases (a.n == b.n) <;> cases (a.t.toList == b.t.toList) <;> cases (a.r == b.r) <;> simp
/-- The two drawn values lie in two blocks of their own. -/
def Fc (W : World) (a b : Va) (r : Nat) (w : World) : Prop :=
  RW 25 w r #[.int .i64 a.k, .int .i64 a.n, .string a.t, .int .i64 a.r] ∧ RW 25 w (r + 1) #[.int .i64 b.k, .int .i64 b.n, .string b.t, .int .i64 b.r] ∧ Below W.heap.size W w ∧ W.heap.size ≤ r
theorem Fc.new {W w : World} (a b : Va) (h : Below W.heap.size W w) : Fc W a b w.heap.size ((w.alloc (.cells #[.int .i64 a.k, .int .i64 a.n, .string a.t, .int .i64 a.r] 25)).alloc (.cells #[.int .i64 b.k, .int .i64 b.n, .string b.t, .int .i64 b.r] 25)) := by
  refine ⟨(RW.new w _ _).alloc _, ?_, (h.alloc h.size _).alloc (Nat.le_trans h.size (by simp)) _, h.size⟩
  have := RW.new (w.alloc (.cells #[.int .i64 a.k, .int .i64 a.n, .string a.t, .int .i64 a.r] 25)) #[.int .i64 b.k, .int .i64 b.n, .string b.t, .int .i64 b.r] 25
  rwa [show (w.alloc (.cells #[.int .i64 a.k, .int .i64 a.n, .string a.t, .int .i64 a.r] 25)).heap.size = w.heap.size + 1 by simp] at this
theorem Fc.go {W w w' : World} {a b : Va} {r : Nat} (h : Fc W a b r w) (hb : Below w.heap.size w w') : Fc W a b r w' :=
  ⟨(hb.block _ h.1.lt).trans h.1, (hb.block _ h.2.1.lt).trans h.2.1, h.2.2.1.trans (hb.mono h.2.2.1.size), h.2.2.2⟩

set_option maxHeartbeats 6000000 in
set_option maxRecDepth 100000 in
theorem walk_FnCompare (A0 : Option Addr) (n0 c0 : Nat) (w0 : n0 ≤ maxLen) (W : World) (hcode : Code W W.heap.size A0 n0) (hL : laidMetH Tryz.prog Rows.fnCompareRow.laid W) :
    Calls Tryz.prog 3 #[.slice A0 n0 c0] W fun e w' => e = .returned (.bool true) ∧ Below W.heap.size W w' := by
  have HT := Lib.hid (tabs_fncmp hL)
  clear hL
  unfold maxLen at w0
  have HN : Hid (n0 ≤ 9223372036854775807) := by show _ ≤ _; omega
  by_cases h : (n0 : Int) ≤ 1048576
  · have HL0 : Hid (decide (1048576 < (n0 : Int)) = false) := decide_eq_false (by omega)
    have HD := Lib.hid (DrawCompared_any A0 n0 c0 W (by omega) hcode)
    clear h w0 hcode
    go_enter Tryz.func3, Tryz.ntmps3
    go_wp2_with (first
      | (go_at_call 4; refine (c2Long_any _ _ _ _ HN.out).mono ?_; rintro e w1 ⟨rfl, rfl⟩; rw [HL0.out])
      | (go_at_call 5; refine HD.out.mono ?_; rintro e w2 ⟨op, a, b, rfl, h⟩; obtain ⟨hta, htb, hb⟩ := h.out; have HTA := Lib.hid hta; have HTB := Lib.hid htb; have S0 := Lib.hid (Fc.new a b hb); clear h hta htb hb HD; unfold Va.ag))
    obtain ⟨x3, x1, x5, c, h3, h1, h5, hz⟩ := cmp_all a b
    obtain ⟨r, hr⟩ : ∃ r, w2.heap.size = r := ⟨_, rfl⟩
    rw [hr] at S0 ⊢
    have hrr : w2.heap.size + 1 = r + 1 := by rw [hr]
    obtain ⟨v0, hv⟩ : ∃ v0, (w2.alloc (.cells #[.int .i64 a.k, .int .i64 a.n, .string a.t, .int .i64 a.r] 25)).alloc (.cells #[.int .i64 b.k, .int .i64 b.n, .string b.t, .int .i64 b.r] 25) = v0 := ⟨_, rfl⟩
    rw [hv] at S0 ⊢
    clear hv
    have p0 : v0.cell? ⟨r, 0, none⟩ = some (.int .i64 a.k) := S0.out.1.cell 0
    have p1 : v0.cell? ⟨r, 1, none⟩ = some (.int .i64 a.n) := S0.out.1.cell 1
    have p2 : v0.cell? ⟨r, 2, none⟩ = some (.string a.t) := S0.out.1.cell 2
    have p3 : v0.cell? ⟨r, 3, none⟩ = some (.int .i64 a.r) := S0.out.1.cell 3
    have q0 : v0.cell? ⟨r + 1, 0, none⟩ = some (.int .i64 b.k) := S0.out.2.1.cell 0
    have q1 : v0.cell? ⟨r + 1, 1, none⟩ = some (.int .i64 b.n) := S0.out.2.1.cell 1
    have q2 : v0.cell? ⟨r + 1, 2, none⟩ = some (.string b.t) := S0.out.2.1.cell 2
    have q3 : v0.cell? ⟨r + 1, 3, none⟩ = some (.int .i64 b.r) := S0.out.2.1.cell 3
    have tk1 : True := trivial
    have tk2 : True := trivial
    have tk3 : True := trivial
    have tk4 : True := trivial
    have tk5 : True := trivial
    have tk6 : True := trivial
    have tk7 : True := trivial
    have tk8 : True := trivial
    have H3 : Hid (∀ w, Tabs w → Calls Tryz.prog 6 #[.int .i64 3, .agg #[.int .i64 a.k, .int .i64 a.n, .string a.t, .int .i64 a.r], .agg #[.int .i64 b.k, .int .i64 b.n, .string b.t, .int .i64 b.r]] w fun e w' => e = .returned (.tuple #[.bool x3, .int .i64 c]) ∧ Below w.heap.size w w') := fun w ht => by
      have := impl_Compared_any 3 a b w (Nat.le_trans HTA.out (by decide)) (Nat.le_trans HTB.out (by decide)) ht
      rw [h3] at this
      exact this
    have H1 : Hid (∀ w, Tabs w → Calls Tryz.prog 6 #[.int .i64 1, .agg #[.int .i64 a.k, .int .i64 a.n, .string a.t, .int .i64 a.r], .agg #[.int .i64 b.k, .int .i64 b.n, .string b.t, .int .i64 b.r]] w fun e w' => e = .returned (.tuple #[.bool x1, .int .i64 c]) ∧ Below w.heap.size w w') := fun w ht => by
      have := impl_Compared_any 1 a b w (Nat.le_trans HTA.out (by decide)) (Nat.le_trans HTB.out (by decide)) ht
      rw [h1] at this
      exact this
    have H5 : Hid (∀ w, Tabs w → Calls Tryz.prog 6 #[.int .i64 5, .agg #[.int .i64 a.k, .int .i64 a.n, .string a.t, .int .i64 a.r], .agg #[.int .i64 b.k, .int .i64 b.n, .string b.t, .int .i64 b.r]] w fun e w' => e = .returned (.tuple #[.bool x5, .int .i64 c]) ∧ Below w.heap.size w w') := fun w ht => by
      have := impl_Compared_any 5 a b w (Nat.le_trans HTA.out (by decide)) (Nat.le_trans HTB.out (by decide)) ht
      rw [h5] at this
      exact this
    by_cases hc : c = 0
    · obtain ⟨h4, h6, h2, h7, h8, hx⟩ := hz hc
      subst hc
      obtain ⟨s, hs⟩ : ∃ s, a.same b = s := ⟨_, rfl⟩
      rw [hs] at h7 h8
      have H4 : Hid (∀ w, Tabs w → Calls Tryz.prog 6 #[.int .i64 4, .agg #[.int .i64 a.k, .int .i64 a.n, .string a.t, .int .i64 a.r], .agg #[.int .i64 b.k, .int .i64 b.n, .string b.t, .int .i64 b.r]] w fun e w' => e = .returned (.tuple #[.bool !x5, .int .i64 0]) ∧ Below w.heap.size w w') := fun w ht => by
        have := impl_Compared_any 4 a b w (Nat.le_trans HTA.out (by decide)) (Nat.le_trans HTB.out (by decide)) ht
        rw [h4] at this
        exact this
      have H6 : Hid (∀ w, Tabs w → Calls Tryz.prog 6 #[.int .i64 6, .agg #[.int .i64 a.k, .int .i64 a.n, .string a.t, .int .i64 a.r], .agg #[.int .i64 b.k, .int .i64 b.n, .string b.t, .int .i64 b.r]] w fun e w' => e = .returned (.tuple #[.bool !x3, .int .i64 0]) ∧ Below w.heap.size w w') := fun w ht => by
        have := impl_Compared_any 6 a b w (Nat.le_trans HTA.out (by decide)) (Nat.le_trans HTB.out (by decide)) ht
        rw [h6] at this
        exact this
      have H2 : Hid (∀ w, Tabs w → Calls Tryz.prog 6 #[.int .i64 2, .agg #[.int .i64 a.k, .int .i64 a.n, .string a.t, .int .i64 a.r], .agg #[.int .i64 b.k, .int .i64 b.n, .string b.t, .int .i64 b.r]] w fun e w' => e = .returned (.tuple #[.bool !x1, .int .i64 0]) ∧ Below w.heap.size w w') := fun w ht => by
        have := impl_Compared_any 2 a b w (Nat.le_trans HTA.out (by decide)) (Nat.le_trans HTB.out (by decide)) ht
        rw [h2] at this
        exact this
      have H7 : Hid (∀ w, Tabs w → Calls Tryz.prog 6 #[.int .i64 7, .agg #[.int .i64 a.k, .int .i64 a.n, .string a.t, .int .i64 a.r], .agg #[.int .i64 b.k, .int .i64 b.n, .string b.t, .int .i64 b.r]] w fun e w' => e = .returned (.tuple #[.bool s, .int .i64 0]) ∧ Below w.heap.size w w') := fun w ht => by
        have := impl_Compared_any 7 a b w (Nat.le_trans HTA.out (by decide)) (Nat.le_trans HTB.out (by decide)) ht
        rw [h7] at this
        exact this
      have H8 : Hid (∀ w, Tabs w → Calls Tryz.prog 6 #[.int .i64 8, .agg #[.int .i64 a.k, .int .i64 a.n, .string a.t, .int .i64 a.r], .agg #[.int .i64 b.k, .int .i64 b.n, .string b.t, .int .i64 b.r]] w fun e w' => e = .returned (.tuple #[.bool !s, .int .i64 0]) ∧ Below w.heap.size w w') := fun w ht => by
        have := impl_Compared_any 8 a b w (Nat.le_trans HTA.out (by decide)) (Nat.le_trans HTB.out (by decide)) ht
        rw [h8] at this
        exact this
      clear hz h3 h1 h5 h4 h6 h2 h7 h8
      go_wp2_with (first
        | (go_at_call 6; have tk := tk1; refine (H3.out _ (HT.out.go S0.out.2.2.1)).mono ?_; rintro e v1 ⟨rfl, hb⟩; have S1 := Lib.hid (S0.out.go hb); clear hb tk tk1 S0; clear p0 p1 p2 p3 q0 q1 q2 q3; have p0 : v1.cell? ⟨r, 0, none⟩ = some (.int .i64 a.k) := S1.out.1.cell 0; have p1 : v1.cell? ⟨r, 1, none⟩ = some (.int .i64 a.n) := S1.out.1.cell 1; have p2 : v1.cell? ⟨r, 2, none⟩ = some (.string a.t) := S1.out.1.cell 2; have p3 : v1.cell? ⟨r, 3, none⟩ = some (.int .i64 a.r) := S1.out.1.cell 3; have q0 : v1.cell? ⟨r + 1, 0, none⟩ = some (.int .i64 b.k) := S1.out.2.1.cell 0; have q1 : v1.cell? ⟨r + 1, 1, none⟩ = some (.int .i64 b.n) := S1.out.2.1.cell 1; have q2 : v1.cell? ⟨r + 1, 2, none⟩ = some (.string b.t) := S1.out.2.1.cell 2; have q3 : v1.cell? ⟨r + 1, 3, none⟩ = some (.int .i64 b.r) := S1.out.2.1.cell 3)
        | (go_at_call 6; have tk := tk2; refine (H1.out _ (HT.out.go S1.out.2.2.1)).mono ?_; rintro e v2 ⟨rfl, hb⟩; have S2 := Lib.hid (S1.out.go hb); clear hb tk tk2 S1; clear p0 p1 p2 p3 q0 q1 q2 q3; have p0 : v2.cell? ⟨r, 0, none⟩ = some (.int .i64 a.k) := S2.out.1.cell 0; have p1 : v2.cell? ⟨r, 1, none⟩ = some (.int .i64 a.n) := S2.out.1.cell 1; have p2 : v2.cell? ⟨r, 2, none⟩ = some (.string a.t) := S2.out.1.cell 2; have p3 : v2.cell? ⟨r, 3, none⟩ = some (.int .i64 a.r) := S2.out.1.cell 3; have q0 : v2.cell? ⟨r + 1, 0, none⟩ = some (.int .i64 b.k) := S2.out.2.1.cell 0; have q1 : v2.cell? ⟨r + 1, 1, none⟩ = some (.int .i64 b.n) := S2.out.2.1.cell 1; have q2 : v2.cell? ⟨r + 1, 2, none⟩ = some (.string b.t) := S2.out.2.1.cell 2; have q3 : v2.cell? ⟨r + 1, 3, none⟩ = some (.int .i64 b.r) := S2.out.2.1.cell 3)
        | (go_at_call 6; have tk := tk3; refine (H5.out _ (HT.out.go S2.out.2.2.1)).mono ?_; rintro e v3 ⟨rfl, hb⟩; have S3 := Lib.hid (S2.out.go hb); clear hb tk tk3 S2; clear p0 p1 p2 p3 q0 q1 q2 q3; have p0 : v3.cell? ⟨r, 0, none⟩ = some (.int .i64 a.k) := S3.out.1.cell 0; have p1 : v3.cell? ⟨r, 1, none⟩ = some (.int .i64 a.n) := S3.out.1.cell 1; have p2 : v3.cell? ⟨r, 2, none⟩ = some (.string a.t) := S3.out.1.cell 2; have p3 : v3.cell? ⟨r, 3, none⟩ = some (.int .i64 a.r) := S3.out.1.cell 3; have q0 : v3.cell? ⟨r + 1, 0, none⟩ = some (.int .i64 b.k) := S3.out.2.1.cell 0; have q1 : v3.cell? ⟨r + 1, 1, none⟩ = some (.int .i64 b.n) := S3.out.2.1.cell 1; have q2 : v3.cell? ⟨r + 1, 2, none⟩ = some (.string b.t) := S3.out.2.1.cell 2; have q3 : v3.cell? ⟨r + 1, 3, none⟩ = some (.int .i64 b.r) := S3.out.2.1.cell 3)
        | (go_at_call 6; have tk := tk4; refine (H4.out _ (HT.out.go S3.out.2.2.1)).mono ?_; rintro e v4 ⟨rfl, hb⟩; have S4 := Lib.hid (S3.out.go hb); clear hb tk tk4 S3; clear p0 p1 p2 p3 q0 q1 q2 q3; have p0 : v4.cell? ⟨r, 0, none⟩ = some (.int .i64 a.k) := S4.out.1.cell 0; have p1 : v4.cell? ⟨r, 1, none⟩ = some (.int .i64 a.n) := S4.out.1.cell 1; have p2 : v4.cell? ⟨r, 2, none⟩ = some (.string a.t) := S4.out.1.cell 2; have p3 : v4.cell? ⟨r, 3, none⟩ = some (.int .i64 a.r) := S4.out.1.cell 3; have q0 : v4.cell? ⟨r + 1, 0, none⟩ = some (.int .i64 b.k) := S4.out.2.1.cell 0; have q1 : v4.cell? ⟨r + 1, 1, none⟩ = some (.int .i64 b.n) := S4.out.2.1.cell 1; have q2 : v4.cell? ⟨r + 1, 2, none⟩ = some (.string b.t) := S4.out.2.1.cell 2; have q3 : v4.cell? ⟨r + 1, 3, none⟩ = some (.int .i64 b.r) := S4.out.2.1.cell 3)
        | (go_at_call 6; have tk := tk5; refine (H6.out _ (HT.out.go S4.out.2.2.1)).mono ?_; rintro e v5 ⟨rfl, hb⟩; have S5 := Lib.hid (S4.out.go hb); clear hb tk tk5 S4; clear p0 p1 p2 p3 q0 q1 q2 q3; have p0 : v5.cell? ⟨r, 0, none⟩ = some (.int .i64 a.k) := S5.out.1.cell 0; have p1 : v5.cell? ⟨r, 1, none⟩ = some (.int .i64 a.n) := S5.out.1.cell 1; have p2 : v5.cell? ⟨r, 2, none⟩ = some (.string a.t) := S5.out.1.cell 2; have p3 : v5.cell? ⟨r, 3, none⟩ = some (.int .i64 a.r) := S5.out.1.cell 3; have q0 : v5.cell? ⟨r + 1, 0, none⟩ = some (.int .i64 b.k) := S5.out.2.1.cell 0; have q1 : v5.cell? ⟨r + 1, 1, none⟩ = some (.int .i64 b.n) := S5.out.2.1.cell 1; have q2 : v5.cell? ⟨r + 1, 2, none⟩ = some (.string b.t) := S5.out.2.1.cell 2; have q3 : v5.cell? ⟨r + 1, 3, none⟩ = some (.int .i64 b.r) := S5.out.2.1.cell 3)
        | (go_at_call 6; have tk := tk6; refine (H2.out _ (HT.out.go S5.out.2.2.1)).mono ?_; rintro e v6 ⟨rfl, hb⟩; have S6 := Lib.hid (S5.out.go hb); clear hb tk tk6 S5; clear p0 p1 p2 p3 q0 q1 q2 q3; have p0 : v6.cell? ⟨r, 0, none⟩ = some (.int .i64 a.k) := S6.out.1.cell 0; have p1 : v6.cell? ⟨r, 1, none⟩ = some (.int .i64 a.n) := S6.out.1.cell 1; have p2 : v6.cell? ⟨r, 2, none⟩ = some (.string a.t) := S6.out.1.cell 2; have p3 : v6.cell? ⟨r, 3, none⟩ = some (.int .i64 a.r) := S6.out.1.cell 3; have q0 : v6.cell? ⟨r + 1, 0, none⟩ = some (.int .i64 b.k) := S6.out.2.1.cell 0; have q1 : v6.cell? ⟨r + 1, 1, none⟩ = some (.int .i64 b.n) := S6.out.2.1.cell 1; have q2 : v6.cell? ⟨r + 1, 2, none⟩ = some (.string b.t) := S6.out.2.1.cell 2; have q3 : v6.cell? ⟨r + 1, 3, none⟩ = some (.int .i64 b.r) := S6.out.2.1.cell 3))
      obtain ⟨v, hv⟩ : ∃ v, v6.alloc (.cells #[.bool x3, .bool x1, .bool x5] 4) = v := ⟨_, rfl⟩
      have S6 : Hid (Fc W a b r v) := hv ▸ S6.out.go (below_alloc v6 _)
      have HR : Hid (RW 4 v v6.heap.size #[.bool x3, .bool x1, .bool x5]) := hv ▸ RW.new v6 _ _
      obtain ⟨g, hg⟩ : ∃ g, v6.heap.size = g := ⟨_, rfl⟩
      rw [hg] at HR
      rw [hv, hg]
      clear hv hg; clear p0 p1 p2 p3 q0 q1 q2 q3
      have p0 : v.cell? ⟨r, 0, none⟩ = some (.int .i64 a.k) := S6.out.1.cell 0
      have p1 : v.cell? ⟨r, 1, none⟩ = some (.int .i64 a.n) := S6.out.1.cell 1
      have p2 : v.cell? ⟨r, 2, none⟩ = some (.string a.t) := S6.out.1.cell 2
      have p3 : v.cell? ⟨r, 3, none⟩ = some (.int .i64 a.r) := S6.out.1.cell 3
      have q0 : v.cell? ⟨r + 1, 0, none⟩ = some (.int .i64 b.k) := S6.out.2.1.cell 0
      have q1 : v.cell? ⟨r + 1, 1, none⟩ = some (.int .i64 b.n) := S6.out.2.1.cell 1
      have q2 : v.cell? ⟨r + 1, 2, none⟩ = some (.string b.t) := S6.out.2.1.cell 2
      have q3 : v.cell? ⟨r + 1, 3, none⟩ = some (.int .i64 b.r) := S6.out.2.1.cell 3
      have c0 : v.cell? ⟨g, 0, none⟩ = some (.bool x3) := HR.out.cell 0
      have c1 : v.cell? ⟨g, 1, none⟩ = some (.bool x1) := HR.out.cell 1
      have c2 : v.cell? ⟨g, 2, none⟩ = some (.bool x5) := HR.out.cell 2
      go_loop [20, 97] (fun m i => ∃ k : Nat, k ≤ 3 ∧ i = .int .i64 k ∧ m = .int .i64 (cnB x3 x1 x5 k)) (fun _ i => 3 - (intOf i).toNat)
      case atStart => exact ⟨0, by decide, rfl, rfl⟩
      case round =>
        obtain ⟨k, hk, rfl, rfl⟩ := hrel
        rcases (show k = 0 ∨ k = 1 ∨ k = 2 ∨ k = 3 by omega) with rfl | rfl | rfl | rfl
        · rcases hx with ⟨rfl, rfl, rfl⟩ | ⟨rfl, rfl, rfl⟩ | ⟨rfl, rfl, rfl⟩
          all_goals
            simp only [cnB_at]
            go_wp2_with (fail)
            go_round
            case rel => exact ⟨1, by decide, by go_num, rfl⟩
            case measure => first | (simp [intOf]; done) | (simp [intOf]; omega)
        · rcases hx with ⟨rfl, rfl, rfl⟩ | ⟨rfl, rfl, rfl⟩ | ⟨rfl, rfl, rfl⟩
          all_goals
            simp only [cnB_at]
            go_wp2_with (fail)
            go_round
            case rel => exact ⟨2, by decide, by go_num, rfl⟩
            case measure => first | (simp [intOf]; done) | (simp [intOf]; omega)
        · rcases hx with ⟨rfl, rfl, rfl⟩ | ⟨rfl, rfl, rfl⟩ | ⟨rfl, rfl, rfl⟩
          all_goals
            simp only [cnB_at]
            go_wp2_with (fail)
            go_round
            case rel => exact ⟨3, by decide, by go_num, rfl⟩
            case measure => first | (simp [intOf]; done) | (simp [intOf]; omega)
        · have hc3 : cnB x3 x1 x5 3 = 1 := by rcases hx with ⟨rfl, rfl, rfl⟩ | ⟨rfl, rfl, rfl⟩ | ⟨rfl, rfl, rfl⟩ <;> rfl
          rw [hc3]
          clear hc3 c0 c1 c2 HR hx hk
          have hsc := Va.same_cases a b s hs
          clear hs
          go_wp2_with (first
            | (go_at_call 6; have tk := tk7; refine (H7.out _ (HT.out.go S6.out.2.2.1)).mono ?_; rintro e v7 ⟨rfl, hb⟩; have S7 := Lib.hid (S6.out.go hb); clear hb tk tk7 S6; clear p0 p1 p2 p3 q0 q1 q2 q3; have p0 : v7.cell? ⟨r, 0, none⟩ = some (.int .i64 a.k) := S7.out.1.cell 0; have p1 : v7.cell? ⟨r, 1, none⟩ = some (.int .i64 a.n) := S7.out.1.cell 1; have p2 : v7.cell? ⟨r, 2, none⟩ = some (.string a.t) := S7.out.1.cell 2; have p3 : v7.cell? ⟨r, 3, none⟩ = some (.int .i64 a.r) := S7.out.1.cell 3; have q0 : v7.cell? ⟨r + 1, 0, none⟩ = some (.int .i64 b.k) := S7.out.2.1.cell 0; have q1 : v7.cell? ⟨r + 1, 1, none⟩ = some (.int .i64 b.n) := S7.out.2.1.cell 1; have q2 : v7.cell? ⟨r + 1, 2, none⟩ = some (.string b.t) := S7.out.2.1.cell 2; have q3 : v7.cell? ⟨r + 1, 3, none⟩ = some (.int .i64 b.r) := S7.out.2.1.cell 3)
            | (go_at_call 6; have tk := tk8; refine (H8.out _ (HT.out.go S7.out.2.2.1)).mono ?_; rintro e v8 ⟨rfl, hb⟩; have S8 := Lib.hid (S7.out.go hb); clear hb tk tk8 S7; clear p0 p1 p2 p3 q0 q1 q2 q3; have p0 : v8.cell? ⟨r, 0, none⟩ = some (.int .i64 a.k) := S8.out.1.cell 0; have p1 : v8.cell? ⟨r, 1, none⟩ = some (.int .i64 a.n) := S8.out.1.cell 1; have p2 : v8.cell? ⟨r, 2, none⟩ = some (.string a.t) := S8.out.1.cell 2; have p3 : v8.cell? ⟨r, 3, none⟩ = some (.int .i64 a.r) := S8.out.1.cell 3; have q0 : v8.cell? ⟨r + 1, 0, none⟩ = some (.int .i64 b.k) := S8.out.2.1.cell 0; have q1 : v8.cell? ⟨r + 1, 1, none⟩ = some (.int .i64 b.n) := S8.out.2.1.cell 1; have q2 : v8.cell? ⟨r + 1, 2, none⟩ = some (.string b.t) := S8.out.2.1.cell 2; have q3 : v8.cell? ⟨r + 1, 3, none⟩ = some (.int .i64 b.r) := S8.out.2.1.cell 3; rcases hsc with ⟨e1, rfl⟩ | ⟨e1, e2, rfl⟩ | ⟨e1, e2, e3, rfl⟩ | ⟨e1, e2, e3, e4, rfl⟩ | ⟨e1, e2, e3, e4, rfl⟩))
          all_goals go_ret
          all_goals exact ⟨rfl, S8.out.2.2.1⟩
    · have d1 : (c != 0) = true := by simpa using hc
      have d2 : (c == 0) = false := by simpa using hc
      have HS3 : Hid (∀ w, Calls Tryz.prog 7 #[.int .i64 3, .agg #[.int .i64 a.k, .int .i64 a.n, .string a.t, .int .i64 a.r], .agg #[.int .i64 b.k, .int .i64 b.n, .string b.t, .int .i64 b.r]] w fun e w' => e = .returned (.tuple #[.bool x3, .int .i64 c]) ∧ Below w.heap.size w w') := fun w => by
        have := spec_Compared_any 3 a b w (Nat.le_trans HTA.out (by decide)) (Nat.le_trans HTB.out (by decide))
        rw [h3] at this
        exact this
      clear hc hz h3 h1 h5
      go_wp2_with (first
        | (go_at_call 6; have tk := tk1; refine (H3.out _ (HT.out.go S0.out.2.2.1)).mono ?_; rintro e v1 ⟨rfl, hb⟩; have S1 := Lib.hid (S0.out.go hb); clear hb tk tk1 S0; clear p0 p1 p2 p3 q0 q1 q2 q3; have p0 : v1.cell? ⟨r, 0, none⟩ = some (.int .i64 a.k) := S1.out.1.cell 0; have p1 : v1.cell? ⟨r, 1, none⟩ = some (.int .i64 a.n) := S1.out.1.cell 1; have p2 : v1.cell? ⟨r, 2, none⟩ = some (.string a.t) := S1.out.1.cell 2; have p3 : v1.cell? ⟨r, 3, none⟩ = some (.int .i64 a.r) := S1.out.1.cell 3; have q0 : v1.cell? ⟨r + 1, 0, none⟩ = some (.int .i64 b.k) := S1.out.2.1.cell 0; have q1 : v1.cell? ⟨r + 1, 1, none⟩ = some (.int .i64 b.n) := S1.out.2.1.cell 1; have q2 : v1.cell? ⟨r + 1, 2, none⟩ = some (.string b.t) := S1.out.2.1.cell 2; have q3 : v1.cell? ⟨r + 1, 3, none⟩ = some (.int .i64 b.r) := S1.out.2.1.cell 3)
        | (go_at_call 6; have tk := tk2; refine (H1.out _ (HT.out.go S1.out.2.2.1)).mono ?_; rintro e v2 ⟨rfl, hb⟩; have S2 := Lib.hid (S1.out.go hb); clear hb tk tk2 S1; clear p0 p1 p2 p3 q0 q1 q2 q3; have p0 : v2.cell? ⟨r, 0, none⟩ = some (.int .i64 a.k) := S2.out.1.cell 0; have p1 : v2.cell? ⟨r, 1, none⟩ = some (.int .i64 a.n) := S2.out.1.cell 1; have p2 : v2.cell? ⟨r, 2, none⟩ = some (.string a.t) := S2.out.1.cell 2; have p3 : v2.cell? ⟨r, 3, none⟩ = some (.int .i64 a.r) := S2.out.1.cell 3; have q0 : v2.cell? ⟨r + 1, 0, none⟩ = some (.int .i64 b.k) := S2.out.2.1.cell 0; have q1 : v2.cell? ⟨r + 1, 1, none⟩ = some (.int .i64 b.n) := S2.out.2.1.cell 1; have q2 : v2.cell? ⟨r + 1, 2, none⟩ = some (.string b.t) := S2.out.2.1.cell 2; have q3 : v2.cell? ⟨r + 1, 3, none⟩ = some (.int .i64 b.r) := S2.out.2.1.cell 3)
        | (go_at_call 6; have tk := tk3; refine (H5.out _ (HT.out.go S2.out.2.2.1)).mono ?_; rintro e v3 ⟨rfl, hb⟩; have S3 := Lib.hid (S2.out.go hb); clear hb tk tk3 S2; clear p0 p1 p2 p3 q0 q1 q2 q3; have p0 : v3.cell? ⟨r, 0, none⟩ = some (.int .i64 a.k) := S3.out.1.cell 0; have p1 : v3.cell? ⟨r, 1, none⟩ = some (.int .i64 a.n) := S3.out.1.cell 1; have p2 : v3.cell? ⟨r, 2, none⟩ = some (.string a.t) := S3.out.1.cell 2; have p3 : v3.cell? ⟨r, 3, none⟩ = some (.int .i64 a.r) := S3.out.1.cell 3; have q0 : v3.cell? ⟨r + 1, 0, none⟩ = some (.int .i64 b.k) := S3.out.2.1.cell 0; have q1 : v3.cell? ⟨r + 1, 1, none⟩ = some (.int .i64 b.n) := S3.out.2.1.cell 1; have q2 : v3.cell? ⟨r + 1, 2, none⟩ = some (.string b.t) := S3.out.2.1.cell 2; have q3 : v3.cell? ⟨r + 1, 3, none⟩ = some (.int .i64 b.r) := S3.out.2.1.cell 3)
        | (go_at_call 7; have tk := tk4; refine (HS3.out _ ).mono ?_; rintro e v4 ⟨rfl, hb⟩; have S4 := Lib.hid (S3.out.go hb); clear hb tk tk4 S3; clear p0 p1 p2 p3 q0 q1 q2 q3; have p0 : v4.cell? ⟨r, 0, none⟩ = some (.int .i64 a.k) := S4.out.1.cell 0; have p1 : v4.cell? ⟨r, 1, none⟩ = some (.int .i64 a.n) := S4.out.1.cell 1; have p2 : v4.cell? ⟨r, 2, none⟩ = some (.string a.t) := S4.out.1.cell 2; have p3 : v4.cell? ⟨r, 3, none⟩ = some (.int .i64 a.r) := S4.out.1.cell 3; have q0 : v4.cell? ⟨r + 1, 0, none⟩ = some (.int .i64 b.k) := S4.out.2.1.cell 0; have q1 : v4.cell? ⟨r + 1, 1, none⟩ = some (.int .i64 b.n) := S4.out.2.1.cell 1; have q2 : v4.cell? ⟨r + 1, 2, none⟩ = some (.string b.t) := S4.out.2.1.cell 2; have q3 : v4.cell? ⟨r + 1, 3, none⟩ = some (.int .i64 b.r) := S4.out.2.1.cell 3))
      go_ret
      exact ⟨rfl, S4.out.2.2.1⟩
  · have HL0 : Hid (decide (1048576 < (n0 : Int)) = true) := decide_eq_true (by omega)
    clear h w0 hcode
    go_enter Tryz.func3, Tryz.ntmps3
    go_wp2_with (go_at_call 4; refine (c2Long_any _ _ _ _ HN.out).mono ?_; rintro e w1 ⟨rfl, rfl⟩; rw [HL0.out])
    go_ret
    exact ⟨rfl, Below.refl _ _⟩
end Go.Proofs.YtpjjpfjnjhahcaaGreatDoor
