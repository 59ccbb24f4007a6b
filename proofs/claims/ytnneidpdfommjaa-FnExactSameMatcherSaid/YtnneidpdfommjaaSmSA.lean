/- The model's SameMatcher behind its first test: two loops, two lists of captures. No condition. -/
import Derived.Test.YtnneidpdfommjaaSmReg
namespace Go.Proofs.Ytnneidpdfommjaa
open Go Go.RowKit Go.Sort

abbrev FlatM (W : World) (x0 : Int) (x1 : Int) (x2 : ByteArray) (x3 : Bool) (x4 : Int) (x5 : Int) (x6 : Int) (x7 : Int) (x8 : Bool) (x9 : Int) (x10 : Int) (A11 : Option Addr) (n11 c11 : Nat) (A12 : Option Addr) (n12 c12 : Nat) (A13 : Option Addr) (n13 c13 : Nat) (A14 : Option Addr) (n14 c14 : Nat) (y0 : Int) (y1 : Int) (y2 : ByteArray) (y3 : Bool) (y4 : Int) (y5 : Int) (y6 : Int) (y7 : Int) (y8 : Bool) (y9 : Int) (y10 : Int) (B11 : Option Addr) (m11 d11 : Nat) (B12 : Option Addr) (m12 d12 : Nat) (B13 : Option Addr) (m13 d13 : Nat) (B14 : Option Addr) (m14 d14 : Nat) (w : World) : Prop := (w.cell? ⟨W.heap.size, 11, none⟩ = some (.slice A11 n11 c11) ∧ w.cell? ⟨W.heap.size, 12, none⟩ = some (.slice A12 n12 c12) ∧ w.cell? ⟨W.heap.size, 13, none⟩ = some (.slice A13 n13 c13) ∧ w.cell? ⟨W.heap.size, 14, none⟩ = some (.slice A14 n14 c14) ∧ w.cell? ⟨W.heap.size + 1, 11, none⟩ = some (.slice B11 m11 d11) ∧ w.cell? ⟨W.heap.size + 1, 12, none⟩ = some (.slice B12 m12 d12) ∧ w.cell? ⟨W.heap.size + 1, 13, none⟩ = some (.slice B13 m13 d13) ∧ w.cell? ⟨W.heap.size + 1, 14, none⟩ = some (.slice B14 m14 d14)) ∧ BoxM W x0 x1 x2 x3 x4 x5 x6 x7 x8 x9 x10 A11 n11 c11 A12 n12 c12 A13 n13 c13 A14 n14 c14 y0 y1 y2 y3 y4 y5 y6 y7 y8 y9 y10 B11 m11 d11 B12 m12 d12 B13 m13 d13 B14 m14 d14 w
theorem BoxM.flat {W : World} {x0 : Int} {x1 : Int} {x2 : ByteArray} {x3 : Bool} {x4 : Int} {x5 : Int} {x6 : Int} {x7 : Int} {x8 : Bool} {x9 : Int} {x10 : Int} {A11 : Option Addr} {n11 c11 : Nat} {A12 : Option Addr} {n12 c12 : Nat} {A13 : Option Addr} {n13 c13 : Nat} {A14 : Option Addr} {n14 c14 : Nat} {y0 : Int} {y1 : Int} {y2 : ByteArray} {y3 : Bool} {y4 : Int} {y5 : Int} {y6 : Int} {y7 : Int} {y8 : Bool} {y9 : Int} {y10 : Int} {B11 : Option Addr} {m11 d11 : Nat} {B12 : Option Addr} {m12 d12 : Nat} {B13 : Option Addr} {m13 d13 : Nat} {B14 : Option Addr} {m14 d14 : Nat} {w : World} (h : BoxM W x0 x1 x2 x3 x4 x5 x6 x7 x8 x9 x10 A11 n11 c11 A12 n12 c12 A13 n13 c13 A14 n14 c14 y0 y1 y2 y3 y4 y5 y6 y7 y8 y9 y10 B11 m11 d11 B12 m12 d12 B13 m13 d13 B14 m14 d14 w) : FlatM W x0 x1 x2 x3 x4 x5 x6 x7 x8 x9 x10 A11 n11 c11 A12 n12 c12 A13 n13 c13 A14 n14 c14 y0 y1 y2 y3 y4 y5 y6 y7 y8 y9 y10 B11 m11 d11 B12 m12 d12 B13 m13 d13 B14 m14 d14 w := ⟨⟨h.1.cell 11, h.1.cell 12, h.1.cell 13, h.1.cell 14, h.2.1.cell 11, h.2.1.cell 12, h.2.1.cell 13, h.2.1.cell 14⟩, h⟩

set_option maxHeartbeats 8000000 in
set_option maxRecDepth 100000 in
theorem smS_all (W : World) (x0 : Int) (x1 : Int) (x2 : ByteArray) (x3 : Bool) (x4 : Int) (x5 : Int) (x6 : Int) (x7 : Int) (x8 : Bool) (x9 : Int) (x10 : Int) (A11 : Option Addr) (n11 c11 : Nat) (A12 : Option Addr) (n12 c12 : Nat) (A13 : Option Addr) (n13 c13 : Nat) (A14 : Option Addr) (n14 c14 : Nat) (y0 : Int) (y1 : Int) (y2 : ByteArray) (y3 : Bool) (y4 : Int) (y5 : Int) (y6 : Int) (y7 : Int) (y8 : Bool) (y9 : Int) (y10 : Int) (B11 : Option Addr) (d11 : Nat) (B12 : Option Addr) (d12 : Nat) (B13 : Option Addr) (m13 d13 : Nat) (B14 : Option Addr) (m14 d14 : Nat) (x11 y11 : List Mf) (x12 y12 : List Mc) (x13 y13 : List Cp) (x14 y14 : List Cp) (hX11 : MfI W W.heap.size A11 n11 x11) (hY11 : MfI W W.heap.size B11 n11 y11) (hX12 : McI W W.heap.size A12 n12 x12) (hY12 : McI W W.heap.size B12 n12 y12) (hX13 : CpI W W.heap.size A13 n13 x13) (hY13 : CpI W W.heap.size B13 m13 y13) (hX14 : CpI W W.heap.size A14 n14 x14) (hY14 : CpI W W.heap.size B14 m14 y14) (h0 : (x0 == y0) = true) (h1 : (x1 == y1) = true) (h2 : (x2.toList == y2.toList) = true) (h3 : (x3 == y3) = true) (h4 : (x4 == y4) = true) (h5 : (x5 == y5) = true) (h6 : (x6 == y6) = true) (h7 : (x7 == y7) = true) (h8 : (x8 == y8) = true) (h9 : (x9 == y9) = true) (h10 : (x10 == y10) = true) :
    Calls Try.prog 5 #[.agg #[.int .i64 x0, .int .i64 x1, .string x2, .bool x3, .int .i64 x4, .int .i64 x5, .int .i64 x6, .int .i64 x7, .bool x8, .int .i64 x9, .int .i64 x10, .slice A11 n11 c11, .slice A12 n12 c12, .slice A13 n13 c13, .slice A14 n14 c14], .agg #[.int .i64 y0, .int .i64 y1, .string y2, .bool y3, .int .i64 y4, .int .i64 y5, .int .i64 y6, .int .i64 y7, .bool y8, .int .i64 y9, .int .i64 y10, .slice B11 n11 d11, .slice B12 n12 d12, .slice B13 m13 d13, .slice B14 m14 d14]] W fun e w' => e = .returned (.bool (tt (x11 = y11 ∧ x12 = y12 ∧ x13 = y13 ∧ x14 = y14))) ∧ Below W.heap.size W w' := by
  have hn11 := hX11.2.1
  have hm11 := hY11.2.1
  have hn12 := hX12.2.1
  have hm12 := hY12.2.1
  have hn13 := hX13.2.1
  have hm13 := hY13.2.1
  have hn14 := hX14.2.1
  have hm14 := hY14.2.1
  unfold maxLen at hn11 hm11 hn12 hm12 hn13 hm13 hn14 hm14
  have HX11 := Lib.hid hX11
  have HY11 := Lib.hid hY11
  have HX12 := Lib.hid hX12
  have HY12 := Lib.hid hY12
  have HX13 := Lib.hid hX13
  have HY13 := Lib.hid hY13
  have HX14 := Lib.hid hX14
  have HY14 := Lib.hid hY14
  clear hX11 hY11 hX12 hY12 hX13 hY13 hX14 hY14
  obtain ⟨P, hP⟩ : ∃ P, tt (x11 = y11 ∧ x12 = y12 ∧ x13 = y13 ∧ x14 = y14) = P := ⟨_, rfl⟩
  rw [hP]
  have HP := Lib.hid hP
  clear hP
  go_enter Try.func5, Try.ntmps5
  refine wp_seq_k ?_
  intro K hK
  have HK := Lib.hid hK
  clear hK
  go_wp2_with fail
  refine HK.out _ _ ?_
  clear HK
  have g0 : (x0 != y0) = false := by rw [bne, h0]; rfl
  have g1 : (x1 != y1) = false := by rw [bne, h1]; rfl
  have g2 : (x2.toList != y2.toList) = false := by rw [bne, h2]; rfl
  have g3 : (x3 != y3) = false := by rw [bne, h3]; rfl
  have g4 : (x4 != y4) = false := by rw [bne, h4]; rfl
  have g5 : (x5 != y5) = false := by rw [bne, h5]; rfl
  have g6 : (x6 != y6) = false := by rw [bne, h6]; rfl
  have g7 : (x7 != y7) = false := by rw [bne, h7]; rfl
  have g8 : (x8 != y8) = false := by rw [bne, h8]; rfl
  have g9 : (x9 != y9) = false := by rw [bne, h9]; rfl
  have g10 : (x10 != y10) = false := by rw [bne, h10]; rfl
  have gl11 : ((n11 : Int) != (n11 : Int)) = false := by simp
  have gl12 : ((n12 : Int) != (n12 : Int)) = false := by simp
  obtain ⟨w0, hw0⟩ : ∃ w0, (W.alloc (.cells #[.int .i64 x0, .int .i64 x1, .string x2, .bool x3, .int .i64 x4, .int .i64 x5, .int .i64 x6, .int .i64 x7, .bool x8, .int .i64 x9, .int .i64 x10, .slice A11 n11 c11, .slice A12 n12 c12, .slice A13 n13 c13, .slice A14 n14 c14] 33)).alloc (.cells #[.int .i64 y0, .int .i64 y1, .string y2, .bool y3, .int .i64 y4, .int .i64 y5, .int .i64 y6, .int .i64 y7, .bool y8, .int .i64 y9, .int .i64 y10, .slice B11 n11 d11, .slice B12 n12 d12, .slice B13 m13 d13, .slice B14 m14 d14] 33) = w0 := ⟨_, rfl⟩
  have HC : BoxM W x0 x1 x2 x3 x4 x5 x6 x7 x8 x9 x10 A11 n11 c11 A12 n12 c12 A13 n13 c13 A14 n14 c14 y0 y1 y2 y3 y4 y5 y6 y7 y8 y9 y10 B11 n11 d11 B12 n12 d12 B13 m13 d13 B14 m14 d14 w0 := by
    obtain ⟨g0, g1, g2, _⟩ := two_new W 33 #[.int .i64 x0, .int .i64 x1, .string x2, .bool x3, .int .i64 x4, .int .i64 x5, .int .i64 x6, .int .i64 x7, .bool x8, .int .i64 x9, .int .i64 x10, .slice A11 n11 c11, .slice A12 n12 c12, .slice A13 n13 c13, .slice A14 n14 c14] #[.int .i64 y0, .int .i64 y1, .string y2, .bool y3, .int .i64 y4, .int .i64 y5, .int .i64 y6, .int .i64 y7, .bool y8, .int .i64 y9, .int .i64 y10, .slice B11 n11 d11, .slice B12 n12 d12, .slice B13 m13 d13, .slice B14 m14 d14] w0 hw0.symm
    exact ⟨g0, g1, g2⟩
  have H0 := Lib.hid HC
  rw [hw0]
  clear hw0 HC
  have px0 : ∀ d os, (grow (redrawn w0 d) os).cell? ⟨W.heap.size, 0, none⟩ = some (.int .i64 x0) := cell_regrown (H0.out.1.cell 0)
  have py0 : ∀ d os, (grow (redrawn w0 d) os).cell? ⟨W.heap.size + 1, 0, none⟩ = some (.int .i64 y0) := cell_regrown (H0.out.2.1.cell 0)
  have px1 : ∀ d os, (grow (redrawn w0 d) os).cell? ⟨W.heap.size, 1, none⟩ = some (.int .i64 x1) := cell_regrown (H0.out.1.cell 1)
  have py1 : ∀ d os, (grow (redrawn w0 d) os).cell? ⟨W.heap.size + 1, 1, none⟩ = some (.int .i64 y1) := cell_regrown (H0.out.2.1.cell 1)
  have px2 : ∀ d os, (grow (redrawn w0 d) os).cell? ⟨W.heap.size, 2, none⟩ = some (.string x2) := cell_regrown (H0.out.1.cell 2)
  have py2 : ∀ d os, (grow (redrawn w0 d) os).cell? ⟨W.heap.size + 1, 2, none⟩ = some (.string y2) := cell_regrown (H0.out.2.1.cell 2)
  have px3 : ∀ d os, (grow (redrawn w0 d) os).cell? ⟨W.heap.size, 3, none⟩ = some (.bool x3) := cell_regrown (H0.out.1.cell 3)
  have py3 : ∀ d os, (grow (redrawn w0 d) os).cell? ⟨W.heap.size + 1, 3, none⟩ = some (.bool y3) := cell_regrown (H0.out.2.1.cell 3)
  have px4 : ∀ d os, (grow (redrawn w0 d) os).cell? ⟨W.heap.size, 4, none⟩ = some (.int .i64 x4) := cell_regrown (H0.out.1.cell 4)
  have py4 : ∀ d os, (grow (redrawn w0 d) os).cell? ⟨W.heap.size + 1, 4, none⟩ = some (.int .i64 y4) := cell_regrown (H0.out.2.1.cell 4)
  have px5 : ∀ d os, (grow (redrawn w0 d) os).cell? ⟨W.heap.size, 5, none⟩ = some (.int .i64 x5) := cell_regrown (H0.out.1.cell 5)
  have py5 : ∀ d os, (grow (redrawn w0 d) os).cell? ⟨W.heap.size + 1, 5, none⟩ = some (.int .i64 y5) := cell_regrown (H0.out.2.1.cell 5)
  have px6 : ∀ d os, (grow (redrawn w0 d) os).cell? ⟨W.heap.size, 6, none⟩ = some (.int .i64 x6) := cell_regrown (H0.out.1.cell 6)
  have py6 : ∀ d os, (grow (redrawn w0 d) os).cell? ⟨W.heap.size + 1, 6, none⟩ = some (.int .i64 y6) := cell_regrown (H0.out.2.1.cell 6)
  have px7 : ∀ d os, (grow (redrawn w0 d) os).cell? ⟨W.heap.size, 7, none⟩ = some (.int .i64 x7) := cell_regrown (H0.out.1.cell 7)
  have py7 : ∀ d os, (grow (redrawn w0 d) os).cell? ⟨W.heap.size + 1, 7, none⟩ = some (.int .i64 y7) := cell_regrown (H0.out.2.1.cell 7)
  have px8 : ∀ d os, (grow (redrawn w0 d) os).cell? ⟨W.heap.size, 8, none⟩ = some (.bool x8) := cell_regrown (H0.out.1.cell 8)
  have py8 : ∀ d os, (grow (redrawn w0 d) os).cell? ⟨W.heap.size + 1, 8, none⟩ = some (.bool y8) := cell_regrown (H0.out.2.1.cell 8)
  have px9 : ∀ d os, (grow (redrawn w0 d) os).cell? ⟨W.heap.size, 9, none⟩ = some (.int .i64 x9) := cell_regrown (H0.out.1.cell 9)
  have py9 : ∀ d os, (grow (redrawn w0 d) os).cell? ⟨W.heap.size + 1, 9, none⟩ = some (.int .i64 y9) := cell_regrown (H0.out.2.1.cell 9)
  have px10 : ∀ d os, (grow (redrawn w0 d) os).cell? ⟨W.heap.size, 10, none⟩ = some (.int .i64 x10) := cell_regrown (H0.out.1.cell 10)
  have py10 : ∀ d os, (grow (redrawn w0 d) os).cell? ⟨W.heap.size + 1, 10, none⟩ = some (.int .i64 y10) := cell_regrown (H0.out.2.1.cell 10)
  have px11 : ∀ d os, (grow (redrawn w0 d) os).cell? ⟨W.heap.size, 11, none⟩ = some (.slice A11 n11 c11) := cell_regrown (H0.out.1.cell 11)
  have py11 : ∀ d os, (grow (redrawn w0 d) os).cell? ⟨W.heap.size + 1, 11, none⟩ = some (.slice B11 n11 d11) := cell_regrown (H0.out.2.1.cell 11)
  have px12 : ∀ d os, (grow (redrawn w0 d) os).cell? ⟨W.heap.size, 12, none⟩ = some (.slice A12 n12 c12) := cell_regrown (H0.out.1.cell 12)
  have py12 : ∀ d os, (grow (redrawn w0 d) os).cell? ⟨W.heap.size + 1, 12, none⟩ = some (.slice B12 n12 d12) := cell_regrown (H0.out.2.1.cell 12)
  have px13 : ∀ d os, (grow (redrawn w0 d) os).cell? ⟨W.heap.size, 13, none⟩ = some (.slice A13 n13 c13) := cell_regrown (H0.out.1.cell 13)
  have py13 : ∀ d os, (grow (redrawn w0 d) os).cell? ⟨W.heap.size + 1, 13, none⟩ = some (.slice B13 m13 d13) := cell_regrown (H0.out.2.1.cell 13)
  have px14 : ∀ d os, (grow (redrawn w0 d) os).cell? ⟨W.heap.size, 14, none⟩ = some (.slice A14 n14 c14) := cell_regrown (H0.out.1.cell 14)
  have py14 : ∀ d os, (grow (redrawn w0 d) os).cell? ⟨W.heap.size + 1, 14, none⟩ = some (.slice B14 m14 d14) := cell_regrown (H0.out.2.1.cell 14)
  refine wp_seq ?_
  refine wp_seq ?_
  refine wp_region_quiet_plain ?_
  simp only [List.append_eq, List.cons_append, List.nil_append]
  repeat (first | go_big_quiet_step (fail) | quiet_step (fail))
  refine wpQuiet_nil ?_
  intro w4 hw'
  obtain ⟨⟨dq, osq⟩, hw''⟩ := hw'
  have HB4 : Hid (BoxM W x0 x1 x2 x3 x4 x5 x6 x7 x8 x9 x10 A11 n11 c11 A12 n12 c12 A13 n13 c13 A14 n14 c14 y0 y1 y2 y3 y4 y5 y6 y7 y8 y9 y10 B11 n11 d11 B12 n12 d12 B13 m13 d13 B14 m14 d14 w4) := by show BoxM W x0 x1 x2 x3 x4 x5 x6 x7 x8 x9 x10 A11 n11 c11 A12 n12 c12 A13 n13 c13 A14 n14 c14 y0 y1 y2 y3 y4 y5 y6 y7 y8 y9 y10 B11 n11 d11 B12 n12 d12 B13 m13 d13 B14 m14 d14 w4; rw [hw'']; exact H0.out.grow (below_regrown w0 dq osq)
  clear hw'' px0 py0 px1 py1 px2 py2 px3 py3 px4 py4 px5 py5 px6 py6 px7 py7 px8 py8 px9 py9 px10 py10 px11 py11 px12 py12 px13 py13 px14 py14
  clear g0 h0 g1 h1 g2 h2 g3 h3 g4 h4 g5 h5 g6 h6 g7 h7 g8 h8 g9 h9 g10 h10 gl11 gl12
  have HB11 := HB4
  go_wp2_with fail
  go_loopw [5] (fun i wr => ∃ k : Nat, k ≤ n11 ∧ i = .int .i64 k ∧ FlatM W x0 x1 x2 x3 x4 x5 x6 x7 x8 x9 x10 A11 n11 c11 A12 n12 c12 A13 n13 c13 A14 n14 c14 y0 y1 y2 y3 y4 y5 y6 y7 y8 y9 y10 B11 n11 d11 B12 n12 d12 B13 m13 d13 B14 m14 d14 wr ∧ Hid (BoxM W x0 x1 x2 x3 x4 x5 x6 x7 x8 x9 x10 A11 n11 c11 A12 n12 c12 A13 n13 c13 A14 n14 c14 y0 y1 y2 y3 y4 y5 y6 y7 y8 y9 y10 B11 n11 d11 B12 n12 d12 B13 m13 d13 B14 m14 d14 wr) ∧ Hid (∀ (j : Nat), j < k → x11[j]? = y11[j]?)) (fun i _ => n11 - (intOf i).toNat)
  case atStart => exact ⟨0, Nat.zero_le _, rfl, HB11.out.flat, HB11, Lib.hid (fun j hj => absurd hj (by omega))⟩
  case round =>
    obtain ⟨k, hk, rfl, ⟨⟨r0, r1, r2, r3, r4, r5, r6, r7⟩, _⟩, HW, HV⟩ := hrel
    by_cases hlt : k < n11
    · have b0 : (0 : Int) ≤ (k : Int) := by omega
      have b1 : (k : Int) < (n11 : Int) := by omega
      obtain ⟨b, off, x, rfl, hg, hx, hh1, _⟩ := HX11.out.at_ hlt
      obtain ⟨b', off', y, rfl, hg', hy, hh2, _⟩ := HY11.out.at_ hlt
      obtain ⟨p0, p1, p2⟩ := hh1.below HW.out.2.2 hg
      obtain ⟨q0, q1, q2⟩ := hh2.below HW.out.2.2 hg'
      have HX := Lib.hid hx
      have HY := Lib.hid hy
      obtain ⟨u0, u1, u2⟩ := x
      obtain ⟨v0, v1, v2⟩ := y
      dsimp only at p0 p1 p2 q0 q1 q2
      have HS := Lib.hid (sameMf_iff ⟨u0, u1, u2⟩ ⟨v0, v1, v2⟩)
      have HG : Hid (b < wr.heap.size) := Nat.lt_of_lt_of_le hg HW.out.2.2.size
      have HG' : Hid (b' < wr.heap.size) := Nat.lt_of_lt_of_le hg' HW.out.2.2.size
      clear hx hy hh1 hh2 hg hg'
      have HF : Hid (sameMf u0 u1 u2 v0 v1 v2 = false → P = false) := by
        show _ → _
        intro h
        rw [← HP.out]
        refine tt_false fun e => ?_
        have e2 : some (⟨u0, u1, u2⟩ : Mf) = some ⟨v0, v1, v2⟩ := by rw [← HX.out, ← HY.out, e.1]
        rw [HS.out.2 (Option.some.inj e2)] at h
        cases h
      have HT : Hid (sameMf u0 u1 u2 v0 v1 v2 = true → ∀ (j : Nat), j < k + 1 → x11[j]? = y11[j]?) := by
        show _ → _
        intro h j hj
        by_cases e : j = k
        · rw [e, HX.out, HY.out, HS.out.1 h]
        · exact HV.out j (by omega)
      unfold sameMf at HF HT
      clear HS HX HY
      obtain ⟨zz0, hz0⟩ : ∃ z, (u0 == v0) = z := ⟨_, rfl⟩
      obtain ⟨zz1, hz1⟩ : ∃ z, (u1 == v1) = z := ⟨_, rfl⟩
      obtain ⟨zz2, hz2⟩ : ∃ z, (u2 == v2) = z := ⟨_, rfl⟩
      rw [hz0, hz1, hz2] at HF HT
      cases zz0
      · have HF1 := Lib.hid (HF.out (by simp))
        clear HF HT
        go_wp2_with fail
        go_region_held3 (fun w' => FlatM W x0 x1 x2 x3 x4 x5 x6 x7 x8 x9 x10 (some ⟨b, off, none⟩) n11 c11 A12 n12 c12 A13 n13 c13 A14 n14 c14 y0 y1 y2 y3 y4 y5 y6 y7 y8 y9 y10 (some ⟨b', off', none⟩) n11 d11 B12 n12 d12 B13 m13 d13 B14 m14 d14 w' ∧ (TwoMf w' b b' (off + k * 3) (off' + k * 3) u0 u1 u2 v0 v1 v2 ∧ Below wr.heap.size wr w'))
          (first | (exact ⟨(HW.out.grow (Below.refl _ _).drew).flat, ⟨⟨p0, p1, p2⟩, ⟨q0, q1, q2⟩⟩, (Below.refl _ _).drew⟩) | (go_split_ands; exact ⟨(BoxM.grow (by assumption) hb).flat, twoMf_keep HG.out HG'.out ⟨⟨⟨by assumption, by assumption, by assumption⟩, ⟨by assumption, by assumption, by assumption⟩⟩, by assumption⟩ hb⟩) | go_keep)
          (fail)
        go_wp2_with fail
        go_split_ands
        go_ret
        exact ⟨by rw [HF1.out]; rfl, HW.out.2.2.trans (Below.mono (by assumption) HW.out.2.2.size)⟩
      cases zz1
      · have HF1 := Lib.hid (HF.out (by simp))
        clear HF HT
        go_wp2_with fail
        go_region_held3 (fun w' => FlatM W x0 x1 x2 x3 x4 x5 x6 x7 x8 x9 x10 (some ⟨b, off, none⟩) n11 c11 A12 n12 c12 A13 n13 c13 A14 n14 c14 y0 y1 y2 y3 y4 y5 y6 y7 y8 y9 y10 (some ⟨b', off', none⟩) n11 d11 B12 n12 d12 B13 m13 d13 B14 m14 d14 w' ∧ (TwoMf w' b b' (off + k * 3) (off' + k * 3) u0 u1 u2 v0 v1 v2 ∧ Below wr.heap.size wr w'))
          (first | (exact ⟨(HW.out.grow (Below.refl _ _).drew).flat, ⟨⟨p0, p1, p2⟩, ⟨q0, q1, q2⟩⟩, (Below.refl _ _).drew⟩) | (go_split_ands; exact ⟨(BoxM.grow (by assumption) hb).flat, twoMf_keep HG.out HG'.out ⟨⟨⟨by assumption, by assumption, by assumption⟩, ⟨by assumption, by assumption, by assumption⟩⟩, by assumption⟩ hb⟩) | go_keep)
          (fail)
        go_wp2_with fail
        go_split_ands
        go_ret
        exact ⟨by rw [HF1.out]; rfl, HW.out.2.2.trans (Below.mono (by assumption) HW.out.2.2.size)⟩
      cases zz2
      · have HF1 := Lib.hid (HF.out (by simp))
        clear HF HT
        go_wp2_with fail
        go_region_held3 (fun w' => FlatM W x0 x1 x2 x3 x4 x5 x6 x7 x8 x9 x10 (some ⟨b, off, none⟩) n11 c11 A12 n12 c12 A13 n13 c13 A14 n14 c14 y0 y1 y2 y3 y4 y5 y6 y7 y8 y9 y10 (some ⟨b', off', none⟩) n11 d11 B12 n12 d12 B13 m13 d13 B14 m14 d14 w' ∧ (TwoMf w' b b' (off + k * 3) (off' + k * 3) u0 u1 u2 v0 v1 v2 ∧ Below wr.heap.size wr w'))
          (first | (exact ⟨(HW.out.grow (Below.refl _ _).drew).flat, ⟨⟨p0, p1, p2⟩, ⟨q0, q1, q2⟩⟩, (Below.refl _ _).drew⟩) | (go_split_ands; exact ⟨(BoxM.grow (by assumption) hb).flat, twoMf_keep HG.out HG'.out ⟨⟨⟨by assumption, by assumption, by assumption⟩, ⟨by assumption, by assumption, by assumption⟩⟩, by assumption⟩ hb⟩) | go_keep)
          (fail)
        go_wp2_with fail
        go_split_ands
        go_ret
        exact ⟨by rw [HF1.out]; rfl, HW.out.2.2.trans (Below.mono (by assumption) HW.out.2.2.size)⟩
      have HT1 := Lib.hid (HT.out (by simp))
      clear HF HT
      go_wp2_with fail
      go_region_held3 (fun w' => FlatM W x0 x1 x2 x3 x4 x5 x6 x7 x8 x9 x10 (some ⟨b, off, none⟩) n11 c11 A12 n12 c12 A13 n13 c13 A14 n14 c14 y0 y1 y2 y3 y4 y5 y6 y7 y8 y9 y10 (some ⟨b', off', none⟩) n11 d11 B12 n12 d12 B13 m13 d13 B14 m14 d14 w' ∧ (TwoMf w' b b' (off + k * 3) (off' + k * 3) u0 u1 u2 v0 v1 v2 ∧ Below wr.heap.size wr w'))
        (first | (exact ⟨(HW.out.grow (Below.refl _ _).drew).flat, ⟨⟨p0, p1, p2⟩, ⟨q0, q1, q2⟩⟩, (Below.refl _ _).drew⟩) | (go_split_ands; exact ⟨(BoxM.grow (by assumption) hb).flat, twoMf_keep HG.out HG'.out ⟨⟨⟨by assumption, by assumption, by assumption⟩, ⟨by assumption, by assumption, by assumption⟩⟩, by assumption⟩ hb⟩) | go_keep)
        (fail)
      go_wp2_with fail
      go_split_ands
      have HN := Lib.hid (show BoxM W x0 x1 x2 x3 x4 x5 x6 x7 x8 x9 x10 (some ⟨b, off, none⟩) n11 c11 A12 n12 c12 A13 n13 c13 A14 n14 c14 y0 y1 y2 y3 y4 y5 y6 y7 y8 y9 y10 (some ⟨b', off', none⟩) n11 d11 B12 n12 d12 B13 m13 d13 B14 m14 d14 _ by assumption)
      go_roundw
      case rel => exact ⟨k + 1, by omega, by go_num, HN.out.flat, HN, HT1⟩
      case measure => simp [intOf]; omega
    · have HE11 : Hid (x11 = y11) := by
        show _ = _
        refine List.ext_getElem? fun j => ?_
        by_cases e : j < n11
        · exact HV.out j (by omega)
        · rw [List.getElem?_eq_none (by have := HX11.out.1; omega), List.getElem?_eq_none (by have := HY11.out.1; omega)]
      go_wp2_with fail
      have HB12 := Lib.hid HW.out
      clear HW HV HB11 HB4 r0 r1 r2 r3 r4 r5 r6 r7 hlt hk
      go_loopw [6] (fun i wr => ∃ k : Nat, k ≤ n12 ∧ i = .int .i64 k ∧ FlatM W x0 x1 x2 x3 x4 x5 x6 x7 x8 x9 x10 A11 n11 c11 A12 n12 c12 A13 n13 c13 A14 n14 c14 y0 y1 y2 y3 y4 y5 y6 y7 y8 y9 y10 B11 n11 d11 B12 n12 d12 B13 m13 d13 B14 m14 d14 wr ∧ Hid (BoxM W x0 x1 x2 x3 x4 x5 x6 x7 x8 x9 x10 A11 n11 c11 A12 n12 c12 A13 n13 c13 A14 n14 c14 y0 y1 y2 y3 y4 y5 y6 y7 y8 y9 y10 B11 n11 d11 B12 n12 d12 B13 m13 d13 B14 m14 d14 wr) ∧ Hid (∀ (j : Nat), j < k → x12[j]? = y12[j]?)) (fun i _ => n12 - (intOf i).toNat)
      case atStart => exact ⟨0, Nat.zero_le _, rfl, HB12.out.flat, HB12, Lib.hid (fun j hj => absurd hj (by omega))⟩
      case round =>
        obtain ⟨k, hk, rfl, ⟨⟨r0, r1, r2, r3, r4, r5, r6, r7⟩, _⟩, HW, HV⟩ := hrel
        by_cases hlt : k < n12
        · have b0 : (0 : Int) ≤ (k : Int) := by omega
          have b1 : (k : Int) < (n12 : Int) := by omega
          obtain ⟨b, off, x, rfl, hg, hx, hh1, _⟩ := HX12.out.at_ hlt
          obtain ⟨b', off', y, rfl, hg', hy, hh2, _⟩ := HY12.out.at_ hlt
          obtain ⟨p0, p1, p2, p3, p4, p5⟩ := hh1.below HW.out.2.2 hg
          obtain ⟨q0, q1, q2, q3, q4, q5⟩ := hh2.below HW.out.2.2 hg'
          have HX := Lib.hid hx
          have HY := Lib.hid hy
          obtain ⟨u0, u1, u2, u3, u4, u5⟩ := x
          obtain ⟨v0, v1, v2, v3, v4, v5⟩ := y
          dsimp only at p0 p1 p2 p3 p4 p5 q0 q1 q2 q3 q4 q5
          have HS := Lib.hid (sameMc_iff ⟨u0, u1, u2, u3, u4, u5⟩ ⟨v0, v1, v2, v3, v4, v5⟩)
          have HG : Hid (b < wr.heap.size) := Nat.lt_of_lt_of_le hg HW.out.2.2.size
          have HG' : Hid (b' < wr.heap.size) := Nat.lt_of_lt_of_le hg' HW.out.2.2.size
          clear hx hy hh1 hh2 hg hg'
          have HF : Hid (sameMc u0 u1 u2 u3 u4 u5 v0 v1 v2 v3 v4 v5 = false → P = false) := by
            show _ → _
            intro h
            rw [← HP.out]
            refine tt_false fun e => ?_
            have e2 : some (⟨u0, u1, u2, u3, u4, u5⟩ : Mc) = some ⟨v0, v1, v2, v3, v4, v5⟩ := by rw [← HX.out, ← HY.out, e.2.1]
            rw [HS.out.2 (Option.some.inj e2)] at h
            cases h
          have HT : Hid (sameMc u0 u1 u2 u3 u4 u5 v0 v1 v2 v3 v4 v5 = true → ∀ (j : Nat), j < k + 1 → x12[j]? = y12[j]?) := by
            show _ → _
            intro h j hj
            by_cases e : j = k
            · rw [e, HX.out, HY.out, HS.out.1 h]
            · exact HV.out j (by omega)
          unfold sameMc at HF HT
          clear HS HX HY
          obtain ⟨zz0, hz0⟩ : ∃ z, (u0 == v0) = z := ⟨_, rfl⟩
          obtain ⟨zz1, hz1⟩ : ∃ z, (u1 == v1) = z := ⟨_, rfl⟩
          obtain ⟨zz2, hz2⟩ : ∃ z, (u2 == v2) = z := ⟨_, rfl⟩
          obtain ⟨zz3, hz3⟩ : ∃ z, (u3 == v3) = z := ⟨_, rfl⟩
          obtain ⟨zz4, hz4⟩ : ∃ z, (u4 == v4) = z := ⟨_, rfl⟩
          obtain ⟨zz5, hz5⟩ : ∃ z, (u5 == v5) = z := ⟨_, rfl⟩
          rw [hz0, hz1, hz2, hz3, hz4, hz5] at HF HT
          cases zz0
          · have HF1 := Lib.hid (HF.out (by simp))
            clear HF HT
            go_wp2_with fail
            go_region_held3 (fun w' => FlatM W x0 x1 x2 x3 x4 x5 x6 x7 x8 x9 x10 A11 n11 c11 (some ⟨b, off, none⟩) n12 c12 A13 n13 c13 A14 n14 c14 y0 y1 y2 y3 y4 y5 y6 y7 y8 y9 y10 B11 n11 d11 (some ⟨b', off', none⟩) n12 d12 B13 m13 d13 B14 m14 d14 w' ∧ (TwoMc w' b b' (off + k * 6) (off' + k * 6) u0 u1 u2 u3 u4 u5 v0 v1 v2 v3 v4 v5 ∧ Below wr.heap.size wr w'))
              (first | (exact ⟨(HW.out.grow (Below.refl _ _).drew).flat, ⟨⟨p0, p1, p2, p3, p4, p5⟩, ⟨q0, q1, q2, q3, q4, q5⟩⟩, (Below.refl _ _).drew⟩) | (go_split_ands; exact ⟨(BoxM.grow (by assumption) hb).flat, twoMc_keep HG.out HG'.out ⟨⟨⟨by assumption, by assumption, by assumption, by assumption, by assumption, by assumption⟩, ⟨by assumption, by assumption, by assumption, by assumption, by assumption, by assumption⟩⟩, by assumption⟩ hb⟩) | go_keep)
              (fail)
            go_wp2_with fail
            go_split_ands
            go_ret
            exact ⟨by rw [HF1.out]; rfl, HW.out.2.2.trans (Below.mono (by assumption) HW.out.2.2.size)⟩
          cases zz1
          · have HF1 := Lib.hid (HF.out (by simp))
            clear HF HT
            go_wp2_with fail
            go_region_held3 (fun w' => FlatM W x0 x1 x2 x3 x4 x5 x6 x7 x8 x9 x10 A11 n11 c11 (some ⟨b, off, none⟩) n12 c12 A13 n13 c13 A14 n14 c14 y0 y1 y2 y3 y4 y5 y6 y7 y8 y9 y10 B11 n11 d11 (some ⟨b', off', none⟩) n12 d12 B13 m13 d13 B14 m14 d14 w' ∧ (TwoMc w' b b' (off + k * 6) (off' + k * 6) u0 u1 u2 u3 u4 u5 v0 v1 v2 v3 v4 v5 ∧ Below wr.heap.size wr w'))
              (first | (exact ⟨(HW.out.grow (Below.refl _ _).drew).flat, ⟨⟨p0, p1, p2, p3, p4, p5⟩, ⟨q0, q1, q2, q3, q4, q5⟩⟩, (Below.refl _ _).drew⟩) | (go_split_ands; exact ⟨(BoxM.grow (by assumption) hb).flat, twoMc_keep HG.out HG'.out ⟨⟨⟨by assumption, by assumption, by assumption, by assumption, by assumption, by assumption⟩, ⟨by assumption, by assumption, by assumption, by assumption, by assumption, by assumption⟩⟩, by assumption⟩ hb⟩) | go_keep)
              (fail)
            go_wp2_with fail
            go_split_ands
            go_ret
            exact ⟨by rw [HF1.out]; rfl, HW.out.2.2.trans (Below.mono (by assumption) HW.out.2.2.size)⟩
          cases zz2
          · have HF1 := Lib.hid (HF.out (by simp))
            clear HF HT
            go_wp2_with fail
            go_region_held3 (fun w' => FlatM W x0 x1 x2 x3 x4 x5 x6 x7 x8 x9 x10 A11 n11 c11 (some ⟨b, off, none⟩) n12 c12 A13 n13 c13 A14 n14 c14 y0 y1 y2 y3 y4 y5 y6 y7 y8 y9 y10 B11 n11 d11 (some ⟨b', off', none⟩) n12 d12 B13 m13 d13 B14 m14 d14 w' ∧ (TwoMc w' b b' (off + k * 6) (off' + k * 6) u0 u1 u2 u3 u4 u5 v0 v1 v2 v3 v4 v5 ∧ Below wr.heap.size wr w'))
              (first | (exact ⟨(HW.out.grow (Below.refl _ _).drew).flat, ⟨⟨p0, p1, p2, p3, p4, p5⟩, ⟨q0, q1, q2, q3, q4, q5⟩⟩, (Below.refl _ _).drew⟩) | (go_split_ands; exact ⟨(BoxM.grow (by assumption) hb).flat, twoMc_keep HG.out HG'.out ⟨⟨⟨by assumption, by assumption, by assumption, by assumption, by assumption, by assumption⟩, ⟨by assumption, by assumption, by assumption, by assumption, by assumption, by assumption⟩⟩, by assumption⟩ hb⟩) | go_keep)
              (fail)
            go_wp2_with fail
            go_split_ands
            go_ret
            exact ⟨by rw [HF1.out]; rfl, HW.out.2.2.trans (Below.mono (by assumption) HW.out.2.2.size)⟩
          cases zz3
          · have HF1 := Lib.hid (HF.out (by simp))
            clear HF HT
            go_wp2_with fail
            go_region_held3 (fun w' => FlatM W x0 x1 x2 x3 x4 x5 x6 x7 x8 x9 x10 A11 n11 c11 (some ⟨b, off, none⟩) n12 c12 A13 n13 c13 A14 n14 c14 y0 y1 y2 y3 y4 y5 y6 y7 y8 y9 y10 B11 n11 d11 (some ⟨b', off', none⟩) n12 d12 B13 m13 d13 B14 m14 d14 w' ∧ (TwoMc w' b b' (off + k * 6) (off' + k * 6) u0 u1 u2 u3 u4 u5 v0 v1 v2 v3 v4 v5 ∧ Below wr.heap.size wr w'))
              (first | (exact ⟨(HW.out.grow (Below.refl _ _).drew).flat, ⟨⟨p0, p1, p2, p3, p4, p5⟩, ⟨q0, q1, q2, q3, q4, q5⟩⟩, (Below.refl _ _).drew⟩) | (go_split_ands; exact ⟨(BoxM.grow (by assumption) hb).flat, twoMc_keep HG.out HG'.out ⟨⟨⟨by assumption, by assumption, by assumption, by assumption, by assumption, by assumption⟩, ⟨by assumption, by assumption, by assumption, by assumption, by assumption, by assumption⟩⟩, by assumption⟩ hb⟩) | go_keep)
              (fail)
            go_wp2_with fail
            go_split_ands
            go_ret
            exact ⟨by rw [HF1.out]; rfl, HW.out.2.2.trans (Below.mono (by assumption) HW.out.2.2.size)⟩
          cases zz4
          · have HF1 := Lib.hid (HF.out (by simp))
            clear HF HT
            go_wp2_with fail
            go_region_held3 (fun w' => FlatM W x0 x1 x2 x3 x4 x5 x6 x7 x8 x9 x10 A11 n11 c11 (some ⟨b, off, none⟩) n12 c12 A13 n13 c13 A14 n14 c14 y0 y1 y2 y3 y4 y5 y6 y7 y8 y9 y10 B11 n11 d11 (some ⟨b', off', none⟩) n12 d12 B13 m13 d13 B14 m14 d14 w' ∧ (TwoMc w' b b' (off + k * 6) (off' + k * 6) u0 u1 u2 u3 u4 u5 v0 v1 v2 v3 v4 v5 ∧ Below wr.heap.size wr w'))
              (first | (exact ⟨(HW.out.grow (Below.refl _ _).drew).flat, ⟨⟨p0, p1, p2, p3, p4, p5⟩, ⟨q0, q1, q2, q3, q4, q5⟩⟩, (Below.refl _ _).drew⟩) | (go_split_ands; exact ⟨(BoxM.grow (by assumption) hb).flat, twoMc_keep HG.out HG'.out ⟨⟨⟨by assumption, by assumption, by assumption, by assumption, by assumption, by assumption⟩, ⟨by assumption, by assumption, by assumption, by assumption, by assumption, by assumption⟩⟩, by assumption⟩ hb⟩) | go_keep)
              (fail)
            go_wp2_with fail
            go_split_ands
            go_ret
            exact ⟨by rw [HF1.out]; rfl, HW.out.2.2.trans (Below.mono (by assumption) HW.out.2.2.size)⟩
          cases zz5
          · have HF1 := Lib.hid (HF.out (by simp))
            clear HF HT
            go_wp2_with fail
            go_region_held3 (fun w' => FlatM W x0 x1 x2 x3 x4 x5 x6 x7 x8 x9 x10 A11 n11 c11 (some ⟨b, off, none⟩) n12 c12 A13 n13 c13 A14 n14 c14 y0 y1 y2 y3 y4 y5 y6 y7 y8 y9 y10 B11 n11 d11 (some ⟨b', off', none⟩) n12 d12 B13 m13 d13 B14 m14 d14 w' ∧ (TwoMc w' b b' (off + k * 6) (off' + k * 6) u0 u1 u2 u3 u4 u5 v0 v1 v2 v3 v4 v5 ∧ Below wr.heap.size wr w'))
              (first | (exact ⟨(HW.out.grow (Below.refl _ _).drew).flat, ⟨⟨p0, p1, p2, p3, p4, p5⟩, ⟨q0, q1, q2, q3, q4, q5⟩⟩, (Below.refl _ _).drew⟩) | (go_split_ands; exact ⟨(BoxM.grow (by assumption) hb).flat, twoMc_keep HG.out HG'.out ⟨⟨⟨by assumption, by assumption, by assumption, by assumption, by assumption, by assumption⟩, ⟨by assumption, by assumption, by assumption, by assumption, by assumption, by assumption⟩⟩, by assumption⟩ hb⟩) | go_keep)
              (fail)
            go_wp2_with fail
            go_split_ands
            go_ret
            exact ⟨by rw [HF1.out]; rfl, HW.out.2.2.trans (Below.mono (by assumption) HW.out.2.2.size)⟩
          have HT1 := Lib.hid (HT.out (by simp))
          clear HF HT
          go_wp2_with fail
          go_region_held3 (fun w' => FlatM W x0 x1 x2 x3 x4 x5 x6 x7 x8 x9 x10 A11 n11 c11 (some ⟨b, off, none⟩) n12 c12 A13 n13 c13 A14 n14 c14 y0 y1 y2 y3 y4 y5 y6 y7 y8 y9 y10 B11 n11 d11 (some ⟨b', off', none⟩) n12 d12 B13 m13 d13 B14 m14 d14 w' ∧ (TwoMc w' b b' (off + k * 6) (off' + k * 6) u0 u1 u2 u3 u4 u5 v0 v1 v2 v3 v4 v5 ∧ Below wr.heap.size wr w'))
            (first | (exact ⟨(HW.out.grow (Below.refl _ _).drew).flat, ⟨⟨p0, p1, p2, p3, p4, p5⟩, ⟨q0, q1, q2, q3, q4, q5⟩⟩, (Below.refl _ _).drew⟩) | (go_split_ands; exact ⟨(BoxM.grow (by assumption) hb).flat, twoMc_keep HG.out HG'.out ⟨⟨⟨by assumption, by assumption, by assumption, by assumption, by assumption, by assumption⟩, ⟨by assumption, by assumption, by assumption, by assumption, by assumption, by assumption⟩⟩, by assumption⟩ hb⟩) | go_keep)
            (fail)
          go_wp2_with fail
          go_split_ands
          have HN := Lib.hid (show BoxM W x0 x1 x2 x3 x4 x5 x6 x7 x8 x9 x10 A11 n11 c11 (some ⟨b, off, none⟩) n12 c12 A13 n13 c13 A14 n14 c14 y0 y1 y2 y3 y4 y5 y6 y7 y8 y9 y10 B11 n11 d11 (some ⟨b', off', none⟩) n12 d12 B13 m13 d13 B14 m14 d14 _ by assumption)
          go_roundw
          case rel => exact ⟨k + 1, by omega, by go_num, HN.out.flat, HN, HT1⟩
          case measure => simp [intOf]; omega
        · have HE12 : Hid (x12 = y12) := by
            show _ = _
            refine List.ext_getElem? fun j => ?_
            by_cases e : j < n12
            · exact HV.out j (by omega)
            · rw [List.getElem?_eq_none (by have := HX12.out.1; omega), List.getElem?_eq_none (by have := HY12.out.1; omega)]
          clear HV
          obtain ⟨z13, h13⟩ : ∃ z, tt (x13 = y13) = z := ⟨_, rfl⟩
          obtain ⟨z14, h14⟩ : ∃ z, tt (x14 = y14) = z := ⟨_, rfl⟩
          have HZ13 := Lib.hid h13
          have HZ14 := Lib.hid h14
          clear h13 h14
          have tkA : True := trivial
          cases z13
          · have HF : Hid (P = false) := by
              show _ = _
              rw [← HP.out]
              exact tt_false fun e => of_tt_false HZ13.out e.2.2.1
            go_wp2_with (go_at_call 12; have tk := tkA; have HQ := l12SameCaptures_any A13 B13 n13 m13 c13 d13 x13 y13 _ (HX13.out.go HW.out.2.2) (HY13.out.go HW.out.2.2); rw [HZ13.out] at HQ; refine Calls.mono HQ ?_; clear HQ; rintro e w5 ⟨rfl, hb⟩; have H5 := Lib.hid (HW.out.grow hb); have s0 : w5.cell? ⟨W.heap.size, 14, none⟩ = some (.slice A14 n14 c14) := H5.out.1.cell 14; have s1 : w5.cell? ⟨W.heap.size + 1, 14, none⟩ = some (.slice B14 m14 d14) := H5.out.2.1.cell 14; clear hb tk tkA)
            go_ret
            exact ⟨by rw [HF.out]; rfl, H5.out.2.2⟩
          cases z14
          · have HF : Hid (P = false) := by
              show _ = _
              rw [← HP.out]
              exact tt_false fun e => of_tt_false HZ14.out e.2.2.2
            go_wp2_with (first
              | (go_at_call 12; have tk := tkA; have HQ := l12SameCaptures_any A13 B13 n13 m13 c13 d13 x13 y13 _ (HX13.out.go HW.out.2.2) (HY13.out.go HW.out.2.2); rw [HZ13.out] at HQ; refine Calls.mono HQ ?_; clear HQ; rintro e w5 ⟨rfl, hb⟩; have H5 := Lib.hid (HW.out.grow hb); have s0 : w5.cell? ⟨W.heap.size, 14, none⟩ = some (.slice A14 n14 c14) := H5.out.1.cell 14; have s1 : w5.cell? ⟨W.heap.size + 1, 14, none⟩ = some (.slice B14 m14 d14) := H5.out.2.1.cell 14; clear hb tk tkA)
              | (go_at_call 12; have HQ := l12SameCaptures_any A14 B14 n14 m14 c14 d14 x14 y14 w5 (HX14.out.go H5.out.2.2) (HY14.out.go H5.out.2.2); rw [HZ14.out] at HQ; refine Calls.mono HQ ?_; clear HQ; rintro e w6 ⟨rfl, hb⟩; have H6 := Lib.hid (H5.out.grow hb); clear hb))
            go_ret
            exact ⟨by rw [HF.out]; rfl, H6.out.2.2⟩
          have HF : Hid (P = true) := by
            show _ = _
            rw [← HP.out]
            exact tt_true ⟨HE11.out, HE12.out, of_tt HZ13.out, of_tt HZ14.out⟩
          go_wp2_with (first
            | (go_at_call 12; have tk := tkA; have HQ := l12SameCaptures_any A13 B13 n13 m13 c13 d13 x13 y13 _ (HX13.out.go HW.out.2.2) (HY13.out.go HW.out.2.2); rw [HZ13.out] at HQ; refine Calls.mono HQ ?_; clear HQ; rintro e w5 ⟨rfl, hb⟩; have H5 := Lib.hid (HW.out.grow hb); have s0 : w5.cell? ⟨W.heap.size, 14, none⟩ = some (.slice A14 n14 c14) := H5.out.1.cell 14; have s1 : w5.cell? ⟨W.heap.size + 1, 14, none⟩ = some (.slice B14 m14 d14) := H5.out.2.1.cell 14; clear hb tk tkA)
            | (go_at_call 12; have HQ := l12SameCaptures_any A14 B14 n14 m14 c14 d14 x14 y14 w5 (HX14.out.go H5.out.2.2) (HY14.out.go H5.out.2.2); rw [HZ14.out] at HQ; refine Calls.mono HQ ?_; clear HQ; rintro e w6 ⟨rfl, hb⟩; have H6 := Lib.hid (H5.out.grow hb); clear hb))
          go_ret
          exact ⟨by rw [HF.out]; rfl, H6.out.2.2⟩
end Go.Proofs.Ytnneidpdfommjaa
