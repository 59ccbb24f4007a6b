/- Leaves of the program's SameMatcher. No condition. -/
import Derived.Test.YtnneidpdfommjaaSmReg
namespace Go.Proofs.Ytnneidpdfommjaa
open Go Go.RowKit Go.Sort

set_option maxHeartbeats 4000000 in
set_option maxRecDepth 100000 in
theorem smI_0 (W : World) (x0 : Int) (x1 : Int) (x2 : ByteArray) (x3 : Bool) (x4 : Int) (x5 : Int) (x6 : Int) (x7 : Int) (x8 : Bool) (x9 : Int) (x10 : Int) (A11 : Option Addr) (n11 c11 : Nat) (A12 : Option Addr) (n12 c12 : Nat) (A13 : Option Addr) (n13 c13 : Nat) (A14 : Option Addr) (n14 c14 : Nat) (y0 : Int) (y1 : Int) (y2 : ByteArray) (y3 : Bool) (y4 : Int) (y5 : Int) (y6 : Int) (y7 : Int) (y8 : Bool) (y9 : Int) (y10 : Int) (B11 : Option Addr) (m11 d11 : Nat) (B12 : Option Addr) (m12 d12 : Nat) (B13 : Option Addr) (m13 d13 : Nat) (B14 : Option Addr) (m14 d14 : Nat) (x11 y11 : List Mf) (x12 y12 : List Mc) (x13 y13 : List Cp) (x14 y14 : List Cp) (hX11 : MfI W W.heap.size A11 n11 x11) (hY11 : MfI W W.heap.size B11 m11 y11) (hX12 : McI W W.heap.size A12 n12 x12) (hY12 : McI W W.heap.size B12 m12 y12) (hX13 : CpI W W.heap.size A13 n13 x13) (hY13 : CpI W W.heap.size B13 m13 y13) (hX14 : CpI W W.heap.size A14 n14 x14) (hY14 : CpI W W.heap.size B14 m14 y14) (h0 : (x0 == y0) = false) :
    Calls Try.prog 7 #[.agg #[.int .i64 x0, .int .i64 x1, .string x2, .bool x3, .int .i64 x4, .int .i64 x5, .int .i64 x6, .int .i64 x7, .bool x8, .int .i64 x9, .int .i64 x10, .slice A11 n11 c11, .slice A12 n12 c12, .slice A13 n13 c13, .slice A14 n14 c14], .agg #[.int .i64 y0, .int .i64 y1, .string y2, .bool y3, .int .i64 y4, .int .i64 y5, .int .i64 y6, .int .i64 y7, .bool y8, .int .i64 y9, .int .i64 y10, .slice B11 m11 d11, .slice B12 m12 d12, .slice B13 m13 d13, .slice B14 m14 d14]] W fun e w' => e = .returned (.bool false) ∧ Below W.heap.size W w' := by
  have HX11 := Lib.hid hX11
  have HY11 := Lib.hid hY11
  have HX12 := Lib.hid hX12
  have HY12 := Lib.hid hY12
  have HX13 := Lib.hid hX13
  have HY13 := Lib.hid hY13
  have HX14 := Lib.hid hX14
  have HY14 := Lib.hid hY14
  clear hX11 hY11 hX12 hY12 hX13 hY13 hX14 hY14 
  go_enter Try.func7, Try.ntmps7
  go_wp2_with fail
  obtain ⟨w0, hw0⟩ : ∃ w0, (W.alloc (.cells #[.int .i64 x0, .int .i64 x1, .string x2, .bool x3, .int .i64 x4, .int .i64 x5, .int .i64 x6, .int .i64 x7, .bool x8, .int .i64 x9, .int .i64 x10, .slice A11 n11 c11, .slice A12 n12 c12, .slice A13 n13 c13, .slice A14 n14 c14] 33)).alloc (.cells #[.int .i64 y0, .int .i64 y1, .string y2, .bool y3, .int .i64 y4, .int .i64 y5, .int .i64 y6, .int .i64 y7, .bool y8, .int .i64 y9, .int .i64 y10, .slice B11 m11 d11, .slice B12 m12 d12, .slice B13 m13 d13, .slice B14 m14 d14] 33) = w0 := ⟨_, rfl⟩
  have HC : BoxM W x0 x1 x2 x3 x4 x5 x6 x7 x8 x9 x10 A11 n11 c11 A12 n12 c12 A13 n13 c13 A14 n14 c14 y0 y1 y2 y3 y4 y5 y6 y7 y8 y9 y10 B11 m11 d11 B12 m12 d12 B13 m13 d13 B14 m14 d14 w0 := by
    obtain ⟨g0, g1, g2, _⟩ := two_new W 33 #[.int .i64 x0, .int .i64 x1, .string x2, .bool x3, .int .i64 x4, .int .i64 x5, .int .i64 x6, .int .i64 x7, .bool x8, .int .i64 x9, .int .i64 x10, .slice A11 n11 c11, .slice A12 n12 c12, .slice A13 n13 c13, .slice A14 n14 c14] #[.int .i64 y0, .int .i64 y1, .string y2, .bool y3, .int .i64 y4, .int .i64 y5, .int .i64 y6, .int .i64 y7, .bool y8, .int .i64 y9, .int .i64 y10, .slice B11 m11 d11, .slice B12 m12 d12, .slice B13 m13 d13, .slice B14 m14 d14] w0 hw0.symm
    exact ⟨g0, g1, g2⟩
  have H0 := Lib.hid HC
  rw [hw0]
  clear hw0 HC
  have px0 : ∀ d os, (grow (redrawn w0 d) os).cell? ⟨W.heap.size, 0, none⟩ = some (.int .i64 x0) := cell_regrown (H0.out.1.cell 0)
  have py0 : ∀ d os, (grow (redrawn w0 d) os).cell? ⟨W.heap.size + 1, 0, none⟩ = some (.int .i64 y0) := cell_regrown (H0.out.2.1.cell 0)
  have px1 : ∀ d os, (grow (redrawn w0 d) os).cell? ⟨W.heap.size, 1, none⟩ = some (.int .i64 x1) := cell_regrown (H0.out.1.cell 1)
  have py1 : ∀ d os, (grow (redrawn w0 d) os).cell? ⟨W.heap.size + 1, 1, none⟩ = some (.int .i64 y1) := cell_regrown (H0.out.2.1.cell 1)
  have px2 : ∀ d os, (grow (redrawn w0 d) os).cell? ⟨W.heap.size, 2, none⟩ = some (.string x2) := cell_regrown (H0.out.1.cell 2)
  have py2 : ∀ d os, (grow (redrawn w0 d) os).cell? ⟨W.heap.size + 1, 2, none⟩ = some (.string y2) := cell_regrown (H0.out.2.1.cell 2)
  have px3 : ∀ d os, (grow (redrawn w0 d) os).cell? ⟨W.heap.size, 3, none⟩ = some (.bool x3) := cell_regrown (H0.out.1.cell 3)
  have py3 : ∀ d os, (grow (redrawn w0 d) os).cell? ⟨W.heap.size + 1, 3, none⟩ = some (.bool y3) := cell_regrown (H0.out.2.1.cell 3)
  have px4 : ∀ d os, (grow (redrawn w0 d) os).cell? ⟨W.heap.size, 4, none⟩ = some (.int .i64 x4) := cell_regrown (H0.out.1.cell 4)
  have py4 : ∀ d os, (grow (redrawn w0 d) os).cell? ⟨W.heap.size + 1, 4, none⟩ = some (.int .i64 y4) := cell_regrown (H0.out.2.1.cell 4)
  have px5 : ∀ d os, (grow (redrawn w0 d) os).cell? ⟨W.heap.size, 5, none⟩ = some (.int .i64 x5) := cell_regrown (H0.out.1.cell 5)
  have py5 : ∀ d os, (grow (redrawn w0 d) os).cell? ⟨W.heap.size + 1, 5, none⟩ = some (.int .i64 y5) := cell_regrown (H0.out.2.1.cell 5)
  have px6 : ∀ d os, (grow (redrawn w0 d) os).cell? ⟨W.heap.size, 6, none⟩ = some (.int .i64 x6) := cell_regrown (H0.out.1.cell 6)
  have py6 : ∀ d os, (grow (redrawn w0 d) os).cell? ⟨W.heap.size + 1, 6, none⟩ = some (.int .i64 y6) := cell_regrown (H0.out.2.1.cell 6)
  have px7 : ∀ d os, (grow (redrawn w0 d) os).cell? ⟨W.heap.size, 7, none⟩ = some (.int .i64 x7) := cell_regrown (H0.out.1.cell 7)
  have py7 : ∀ d os, (grow (redrawn w0 d) os).cell? ⟨W.heap.size + 1, 7, none⟩ = some (.int .i64 y7) := cell_regrown (H0.out.2.1.cell 7)
  have px8 : ∀ d os, (grow (redrawn w0 d) os).cell? ⟨W.heap.size, 8, none⟩ = some (.bool x8) := cell_regrown (H0.out.1.cell 8)
  have py8 : ∀ d os, (grow (redrawn w0 d) os).cell? ⟨W.heap.size + 1, 8, none⟩ = some (.bool y8) := cell_regrown (H0.out.2.1.cell 8)
  have px9 : ∀ d os, (grow (redrawn w0 d) os).cell? ⟨W.heap.size, 9, none⟩ = some (.int .i64 x9) := cell_regrown (H0.out.1.cell 9)
  have py9 : ∀ d os, (grow (redrawn w0 d) os).cell? ⟨W.heap.size + 1, 9, none⟩ = some (.int .i64 y9) := cell_regrown (H0.out.2.1.cell 9)
  have px10 : ∀ d os, (grow (redrawn w0 d) os).cell? ⟨W.heap.size, 10, none⟩ = some (.int .i64 x10) := cell_regrown (H0.out.1.cell 10)
  have py10 : ∀ d os, (grow (redrawn w0 d) os).cell? ⟨W.heap.size + 1, 10, none⟩ = some (.int .i64 y10) := cell_regrown (H0.out.2.1.cell 10)
  have px11 : ∀ d os, (grow (redrawn w0 d) os).cell? ⟨W.heap.size, 11, none⟩ = some (.slice A11 n11 c11) := cell_regrown (H0.out.1.cell 11)
  have py11 : ∀ d os, (grow (redrawn w0 d) os).cell? ⟨W.heap.size + 1, 11, none⟩ = some (.slice B11 m11 d11) := cell_regrown (H0.out.2.1.cell 11)
  have px12 : ∀ d os, (grow (redrawn w0 d) os).cell? ⟨W.heap.size, 12, none⟩ = some (.slice A12 n12 c12) := cell_regrown (H0.out.1.cell 12)
  have py12 : ∀ d os, (grow (redrawn w0 d) os).cell? ⟨W.heap.size + 1, 12, none⟩ = some (.slice B12 m12 d12) := cell_regrown (H0.out.2.1.cell 12)
  have px13 : ∀ d os, (grow (redrawn w0 d) os).cell? ⟨W.heap.size, 13, none⟩ = some (.slice A13 n13 c13) := cell_regrown (H0.out.1.cell 13)
  have py13 : ∀ d os, (grow (redrawn w0 d) os).cell? ⟨W.heap.size + 1, 13, none⟩ = some (.slice B13 m13 d13) := cell_regrown (H0.out.2.1.cell 13)
  have px14 : ∀ d os, (grow (redrawn w0 d) os).cell? ⟨W.heap.size, 14, none⟩ = some (.slice A14 n14 c14) := cell_regrown (H0.out.1.cell 14)
  have py14 : ∀ d os, (grow (redrawn w0 d) os).cell? ⟨W.heap.size + 1, 14, none⟩ = some (.slice B14 m14 d14) := cell_regrown (H0.out.2.1.cell 14)
  refine wp_region_quiet_below (by kernel_rfl) (by exact lexI) ?_
  repeat (first | go_big_quiet_step (fail) | quiet_step (fail))
  refine wpQuiet_nil ?_
  intro w4 hw'
  obtain ⟨⟨dq, osq⟩, hw''⟩ := hw'
  have HB4 : Hid (BoxM W x0 x1 x2 x3 x4 x5 x6 x7 x8 x9 x10 A11 n11 c11 A12 n12 c12 A13 n13 c13 A14 n14 c14 y0 y1 y2 y3 y4 y5 y6 y7 y8 y9 y10 B11 m11 d11 B12 m12 d12 B13 m13 d13 B14 m14 d14 w4) := by show BoxM W x0 x1 x2 x3 x4 x5 x6 x7 x8 x9 x10 A11 n11 c11 A12 n12 c12 A13 n13 c13 A14 n14 c14 y0 y1 y2 y3 y4 y5 y6 y7 y8 y9 y10 B11 m11 d11 B12 m12 d12 B13 m13 d13 B14 m14 d14 w4; rw [hw'']; exact H0.out.grow (below_regrown w0 dq osq)
  clear hw'' px0 py0 px1 py1 px2 py2 px3 py3 px4 py4 px5 py5 px6 py6 px7 py7 px8 py8 px9 py9 px10 py10 px11 py11 px12 py12 px13 py13 px14 py14 
  go_wp2_with fail
  all_goals go_ret
  all_goals exact ⟨rfl, HB4.out.2.2⟩

set_option maxHeartbeats 4000000 in
set_option maxRecDepth 100000 in
theorem smI_1 (W : World) (x0 : Int) (x1 : Int) (x2 : ByteArray) (x3 : Bool) (x4 : Int) (x5 : Int) (x6 : Int) (x7 : Int) (x8 : Bool) (x9 : Int) (x10 : Int) (A11 : Option Addr) (n11 c11 : Nat) (A12 : Option Addr) (n12 c12 : Nat) (A13 : Option Addr) (n13 c13 : Nat) (A14 : Option Addr) (n14 c14 : Nat) (y0 : Int) (y1 : Int) (y2 : ByteArray) (y3 : Bool) (y4 : Int) (y5 : Int) (y6 : Int) (y7 : Int) (y8 : Bool) (y9 : Int) (y10 : Int) (B11 : Option Addr) (m11 d11 : Nat) (B12 : Option Addr) (m12 d12 : Nat) (B13 : Option Addr) (m13 d13 : Nat) (B14 : Option Addr) (m14 d14 : Nat) (x11 y11 : List Mf) (x12 y12 : List Mc) (x13 y13 : List Cp) (x14 y14 : List Cp) (hX11 : MfI W W.heap.size A11 n11 x11) (hY11 : MfI W W.heap.size B11 m11 y11) (hX12 : McI W W.heap.size A12 n12 x12) (hY12 : McI W W.heap.size B12 m12 y12) (hX13 : CpI W W.heap.size A13 n13 x13) (hY13 : CpI W W.heap.size B13 m13 y13) (hX14 : CpI W W.heap.size A14 n14 x14) (hY14 : CpI W W.heap.size B14 m14 y14) (h0 : (x0 == y0) = true) (h1 : (x1 == y1) = false) :
    Calls Try.prog 7 #[.agg #[.int .i64 x0, .int .i64 x1, .string x2, .bool x3, .int .i64 x4, .int .i64 x5, .int .i64 x6, .int .i64 x7, .bool x8, .int .i64 x9, .int .i64 x10, .slice A11 n11 c11, .slice A12 n12 c12, .slice A13 n13 c13, .slice A14 n14 c14], .agg #[.int .i64 y0, .int .i64 y1, .string y2, .bool y3, .int .i64 y4, .int .i64 y5, .int .i64 y6, .int .i64 y7, .bool y8, .int .i64 y9, .int .i64 y10, .slice B11 m11 d11, .slice B12 m12 d12, .slice B13 m13 d13, .slice B14 m14 d14]] W fun e w' => e = .returned (.bool false) ∧ Below W.heap.size W w' := by
  have HX11 := Lib.hid hX11
  have HY11 := Lib.hid hY11
  have HX12 := Lib.hid hX12
  have HY12 := Lib.hid hY12
  have HX13 := Lib.hid hX13
  have HY13 := Lib.hid hY13
  have HX14 := Lib.hid hX14
  have HY14 := Lib.hid hY14
  clear hX11 hY11 hX12 hY12 hX13 hY13 hX14 hY14 
  go_enter Try.func7, Try.ntmps7
  go_wp2_with fail
  obtain ⟨w0, hw0⟩ : ∃ w0, (W.alloc (.cells #[.int .i64 x0, .int .i64 x1, .string x2, .bool x3, .int .i64 x4, .int .i64 x5, .int .i64 x6, .int .i64 x7, .bool x8, .int .i64 x9, .int .i64 x10, .slice A11 n11 c11, .slice A12 n12 c12, .slice A13 n13 c13, .slice A14 n14 c14] 33)).alloc (.cells #[.int .i64 y0, .int .i64 y1, .string y2, .bool y3, .int .i64 y4, .int .i64 y5, .int .i64 y6, .int .i64 y7, .bool y8, .int .i64 y9, .int .i64 y10, .slice B11 m11 d11, .slice B12 m12 d12, .slice B13 m13 d13, .slice B14 m14 d14] 33) = w0 := ⟨_, rfl⟩
  have HC : BoxM W x0 x1 x2 x3 x4 x5 x6 x7 x8 x9 x10 A11 n11 c11 A12 n12 c12 A13 n13 c13 A14 n14 c14 y0 y1 y2 y3 y4 y5 y6 y7 y8 y9 y10 B11 m11 d11 B12 m12 d12 B13 m13 d13 B14 m14 d14 w0 := by
    obtain ⟨g0, g1, g2, _⟩ := two_new W 33 #[.int .i64 x0, .int .i64 x1, .string x2, .bool x3, .int .i64 x4, .int .i64 x5, .int .i64 x6, .int .i64 x7, .bool x8, .int .i64 x9, .int .i64 x10, .slice A11 n11 c11, .slice A12 n12 c12, .slice A13 n13 c13, .slice A14 n14 c14] #[.int .i64 y0, .int .i64 y1, .string y2, .bool y3, .int .i64 y4, .int .i64 y5, .int .i64 y6, .int .i64 y7, .bool y8, .int .i64 y9, .int .i64 y10, .slice B11 m11 d11, .slice B12 m12 d12, .slice B13 m13 d13, .slice B14 m14 d14] w0 hw0.symm
    exact ⟨g0, g1, g2⟩
  have H0 := Lib.hid HC
  rw [hw0]
  clear hw0 HC
  have px0 : ∀ d os, (grow (redrawn w0 d) os).cell? ⟨W.heap.size, 0, none⟩ = some (.int .i64 x0) := cell_regrown (H0.out.1.cell 0)
  have py0 : ∀ d os, (grow (redrawn w0 d) os).cell? ⟨W.heap.size + 1, 0, none⟩ = some (.int .i64 y0) := cell_regrown (H0.out.2.1.cell 0)
  have px1 : ∀ d os, (grow (redrawn w0 d) os).cell? ⟨W.heap.size, 1, none⟩ = some (.int .i64 x1) := cell_regrown (H0.out.1.cell 1)
  have py1 : ∀ d os, (grow (redrawn w0 d) os).cell? ⟨W.heap.size + 1, 1, none⟩ = some (.int .i64 y1) := cell_regrown (H0.out.2.1.cell 1)
  have px2 : ∀ d os, (grow (redrawn w0 d) os).cell? ⟨W.heap.size, 2, none⟩ = some (.string x2) := cell_regrown (H0.out.1.cell 2)
  have py2 : ∀ d os, (grow (redrawn w0 d) os).cell? ⟨W.heap.size + 1, 2, none⟩ = some (.string y2) := cell_regrown (H0.out.2.1.cell 2)
  have px3 : ∀ d os, (grow (redrawn w0 d) os).cell? ⟨W.heap.size, 3, none⟩ = some (.bool x3) := cell_regrown (H0.out.1.cell 3)
  have py3 : ∀ d os, (grow (redrawn w0 d) os).cell? ⟨W.heap.size + 1, 3, none⟩ = some (.bool y3) := cell_regrown (H0.out.2.1.cell 3)
  have px4 : ∀ d os, (grow (redrawn w0 d) os).cell? ⟨W.heap.size, 4, none⟩ = some (.int .i64 x4) := cell_regrown (H0.out.1.cell 4)
  have py4 : ∀ d os, (grow (redrawn w0 d) os).cell? ⟨W.heap.size + 1, 4, none⟩ = some (.int .i64 y4) := cell_regrown (H0.out.2.1.cell 4)
  have px5 : ∀ d os, (grow (redrawn w0 d) os).cell? ⟨W.heap.size, 5, none⟩ = some (.int .i64 x5) := cell_regrown (H0.out.1.cell 5)
  have py5 : ∀ d os, (grow (redrawn w0 d) os).cell? ⟨W.heap.size + 1, 5, none⟩ = some (.int .i64 y5) := cell_regrown (H0.out.2.1.cell 5)
  have px6 : ∀ d os, (grow (redrawn w0 d) os).cell? ⟨W.heap.size, 6, none⟩ = some (.int .i64 x6) := cell_regrown (H0.out.1.cell 6)
  have py6 : ∀ d os, (grow (redrawn w0 d) os).cell? ⟨W.heap.size + 1, 6, none⟩ = some (.int .i64 y6) := cell_regrown (H0.out.2.1.cell 6)
  have px7 : ∀ d os, (grow (redrawn w0 d) os).cell? ⟨W.heap.size, 7, none⟩ = some (.int .i64 x7) := cell_regrown (H0.out.1.cell 7)
  have py7 : ∀ d os, (grow (redrawn w0 d) os).cell? ⟨W.heap.size + 1, 7, none⟩ = some (.int .i64 y7) := cell_regrown (H0.out.2.1.cell 7)
  have px8 : ∀ d os, (grow (redrawn w0 d) os).cell? ⟨W.heap.size, 8, none⟩ = some (.bool x8) := cell_regrown (H0.out.1.cell 8)
  have py8 : ∀ d os, (grow (redrawn w0 d) os).cell? ⟨W.heap.size + 1, 8, none⟩ = some (.bool y8) := cell_regrown (H0.out.2.1.cell 8)
  have px9 : ∀ d os, (grow (redrawn w0 d) os).cell? ⟨W.heap.size, 9, none⟩ = some (.int .i64 x9) := cell_regrown (H0.out.1.cell 9)
  have py9 : ∀ d os, (grow (redrawn w0 d) os).cell? ⟨W.heap.size + 1, 9, none⟩ = some (.int .i64 y9) := cell_regrown (H0.out.2.1.cell 9)
  have px10 : ∀ d os, (grow (redrawn w0 d) os).cell? ⟨W.heap.size, 10, none⟩ = some (.int .i64 x10) := cell_regrown (H0.out.1.cell 10)
  have py10 : ∀ d os, (grow (redrawn w0 d) os).cell? ⟨W.heap.size + 1, 10, none⟩ = some (.int .i64 y10) := cell_regrown (H0.out.2.1.cell 10)
  have px11 : ∀ d os, (grow (redrawn w0 d) os).cell? ⟨W.heap.size, 11, none⟩ = some (.slice A11 n11 c11) := cell_regrown (H0.out.1.cell 11)
  have py11 : ∀ d os, (grow (redrawn w0 d) os).cell? ⟨W.heap.size + 1, 11, none⟩ = some (.slice B11 m11 d11) := cell_regrown (H0.out.2.1.cell 11)
  have px12 : ∀ d os, (grow (redrawn w0 d) os).cell? ⟨W.heap.size, 12, none⟩ = some (.slice A12 n12 c12) := cell_regrown (H0.out.1.cell 12)
  have py12 : ∀ d os, (grow (redrawn w0 d) os).cell? ⟨W.heap.size + 1, 12, none⟩ = some (.slice B12 m12 d12) := cell_regrown (H0.out.2.1.cell 12)
  have px13 : ∀ d os, (grow (redrawn w0 d) os).cell? ⟨W.heap.size, 13, none⟩ = some (.slice A13 n13 c13) := cell_regrown (H0.out.1.cell 13)
  have py13 : ∀ d os, (grow (redrawn w0 d) os).cell? ⟨W.heap.size + 1, 13, none⟩ = some (.slice B13 m13 d13) := cell_regrown (H0.out.2.1.cell 13)
  have px14 : ∀ d os, (grow (redrawn w0 d) os).cell? ⟨W.heap.size, 14, none⟩ = some (.slice A14 n14 c14) := cell_regrown (H0.out.1.cell 14)
  have py14 : ∀ d os, (grow (redrawn w0 d) os).cell? ⟨W.heap.size + 1, 14, none⟩ = some (.slice B14 m14 d14) := cell_regrown (H0.out.2.1.cell 14)
  refine wp_region_quiet_below (by kernel_rfl) (by exact lexI) ?_
  repeat (first | go_big_quiet_step (fail) | quiet_step (fail))
  refine wpQuiet_nil ?_
  intro w4 hw'
  obtain ⟨⟨dq, osq⟩, hw''⟩ := hw'
  have HB4 : Hid (BoxM W x0 x1 x2 x3 x4 x5 x6 x7 x8 x9 x10 A11 n11 c11 A12 n12 c12 A13 n13 c13 A14 n14 c14 y0 y1 y2 y3 y4 y5 y6 y7 y8 y9 y10 B11 m11 d11 B12 m12 d12 B13 m13 d13 B14 m14 d14 w4) := by show BoxM W x0 x1 x2 x3 x4 x5 x6 x7 x8 x9 x10 A11 n11 c11 A12 n12 c12 A13 n13 c13 A14 n14 c14 y0 y1 y2 y3 y4 y5 y6 y7 y8 y9 y10 B11 m11 d11 B12 m12 d12 B13 m13 d13 B14 m14 d14 w4; rw [hw'']; exact H0.out.grow (below_regrown w0 dq osq)
  clear hw'' px0 py0 px1 py1 px2 py2 px3 py3 px4 py4 px5 py5 px6 py6 px7 py7 px8 py8 px9 py9 px10 py10 px11 py11 px12 py12 px13 py13 px14 py14 
  go_wp2_with fail
  all_goals go_ret
  all_goals exact ⟨rfl, HB4.out.2.2⟩

set_option maxHeartbeats 4000000 in
set_option maxRecDepth 100000 in
theorem smI_2 (W : World) (x0 : Int) (x1 : Int) (x2 : ByteArray) (x3 : Bool) (x4 : Int) (x5 : Int) (x6 : Int) (x7 : Int) (x8 : Bool) (x9 : Int) (x10 : Int) (A11 : Option Addr) (n11 c11 : Nat) (A12 : Option Addr) (n12 c12 : Nat) (A13 : Option Addr) (n13 c13 : Nat) (A14 : Option Addr) (n14 c14 : Nat) (y0 : Int) (y1 : Int) (y2 : ByteArray) (y3 : Bool) (y4 : Int) (y5 : Int) (y6 : Int) (y7 : Int) (y8 : Bool) (y9 : Int) (y10 : Int) (B11 : Option Addr) (m11 d11 : Nat) (B12 : Option Addr) (m12 d12 : Nat) (B13 : Option Addr) (m13 d13 : Nat) (B14 : Option Addr) (m14 d14 : Nat) (x11 y11 : List Mf) (x12 y12 : List Mc) (x13 y13 : List Cp) (x14 y14 : List Cp) (hX11 : MfI W W.heap.size A11 n11 x11) (hY11 : MfI W W.heap.size B11 m11 y11) (hX12 : McI W W.heap.size A12 n12 x12) (hY12 : McI W W.heap.size B12 m12 y12) (hX13 : CpI W W.heap.size A13 n13 x13) (hY13 : CpI W W.heap.size B13 m13 y13) (hX14 : CpI W W.heap.size A14 n14 x14) (hY14 : CpI W W.heap.size B14 m14 y14) (h0 : (x0 == y0) = true) (h1 : (x1 == y1) = true) (h2 : (x2.toList == y2.toList) = false) :
    Calls Try.prog 7 #[.agg #[.int .i64 x0, .int .i64 x1, .string x2, .bool x3, .int .i64 x4, .int .i64 x5, .int .i64 x6, .int .i64 x7, .bool x8, .int .i64 x9, .int .i64 x10, .slice A11 n11 c11, .slice A12 n12 c12, .slice A13 n13 c13, .slice A14 n14 c14], .agg #[.int .i64 y0, .int .i64 y1, .string y2, .bool y3, .int .i64 y4, .int .i64 y5, .int .i64 y6, .int .i64 y7, .bool y8, .int .i64 y9, .int .i64 y10, .slice B11 m11 d11, .slice B12 m12 d12, .slice B13 m13 d13, .slice B14 m14 d14]] W fun e w' => e = .returned (.bool false) ∧ Below W.heap.size W w' := by
  have HX11 := Lib.hid hX11
  have HY11 := Lib.hid hY11
  have HX12 := Lib.hid hX12
  have HY12 := Lib.hid hY12
  have HX13 := Lib.hid hX13
  have HY13 := Lib.hid hY13
  have HX14 := Lib.hid hX14
  have HY14 := Lib.hid hY14
  clear hX11 hY11 hX12 hY12 hX13 hY13 hX14 hY14 
  go_enter Try.func7, Try.ntmps7
  go_wp2_with fail
  obtain ⟨w0, hw0⟩ : ∃ w0, (W.alloc (.cells #[.int .i64 x0, .int .i64 x1, .string x2, .bool x3, .int .i64 x4, .int .i64 x5, .int .i64 x6, .int .i64 x7, .bool x8, .int .i64 x9, .int .i64 x10, .slice A11 n11 c11, .slice A12 n12 c12, .slice A13 n13 c13, .slice A14 n14 c14] 33)).alloc (.cells #[.int .i64 y0, .int .i64 y1, .string y2, .bool y3, .int .i64 y4, .int .i64 y5, .int .i64 y6, .int .i64 y7, .bool y8, .int .i64 y9, .int .i64 y10, .slice B11 m11 d11, .slice B12 m12 d12, .slice B13 m13 d13, .slice B14 m14 d14] 33) = w0 := ⟨_, rfl⟩
  have HC : BoxM W x0 x1 x2 x3 x4 x5 x6 x7 x8 x9 x10 A11 n11 c11 A12 n12 c12 A13 n13 c13 A14 n14 c14 y0 y1 y2 y3 y4 y5 y6 y7 y8 y9 y10 B11 m11 d11 B12 m12 d12 B13 m13 d13 B14 m14 d14 w0 := by
    obtain ⟨g0, g1, g2, _⟩ := two_new W 33 #[.int .i64 x0, .int .i64 x1, .string x2, .bool x3, .int .i64 x4, .int .i64 x5, .int .i64 x6, .int .i64 x7, .bool x8, .int .i64 x9, .int .i64 x10, .slice A11 n11 c11, .slice A12 n12 c12, .slice A13 n13 c13, .slice A14 n14 c14] #[.int .i64 y0, .int .i64 y1, .string y2, .bool y3, .int .i64 y4, .int .i64 y5, .int .i64 y6, .int .i64 y7, .bool y8, .int .i64 y9, .int .i64 y10, .slice B11 m11 d11, .slice B12 m12 d12, .slice B13 m13 d13, .slice B14 m14 d14] w0 hw0.symm
    exact ⟨g0, g1, g2⟩
  have H0 := Lib.hid HC
  rw [hw0]
  clear hw0 HC
  have px0 : ∀ d os, (grow (redrawn w0 d) os).cell? ⟨W.heap.size, 0, none⟩ = some (.int .i64 x0) := cell_regrown (H0.out.1.cell 0)
  have py0 : ∀ d os, (grow (redrawn w0 d) os).cell? ⟨W.heap.size + 1, 0, none⟩ = some (.int .i64 y0) := cell_regrown (H0.out.2.1.cell 0)
  have px1 : ∀ d os, (grow (redrawn w0 d) os).cell? ⟨W.heap.size, 1, none⟩ = some (.int .i64 x1) := cell_regrown (H0.out.1.cell 1)
  have py1 : ∀ d os, (grow (redrawn w0 d) os).cell? ⟨W.heap.size + 1, 1, none⟩ = some (.int .i64 y1) := cell_regrown (H0.out.2.1.cell 1)
  have px2 : ∀ d os, (grow (redrawn w0 d) os).cell? ⟨W.heap.size, 2, none⟩ = some (.string x2) := cell_regrown (H0.out.1.cell 2)
  have py2 : ∀ d os, (grow (redrawn w0 d) os).cell? ⟨W.heap.size + 1, 2, none⟩ = some (.string y2) := cell_regrown (H0.out.2.1.cell 2)
  have px3 : ∀ d os, (grow (redrawn w0 d) os).cell? ⟨W.heap.size, 3, none⟩ = some (.bool x3) := cell_regrown (H0.out.1.cell 3)
  have py3 : ∀ d os, (grow (redrawn w0 d) os).cell? ⟨W.heap.size + 1, 3, none⟩ = some (.bool y3) := cell_regrown (H0.out.2.1.cell 3)
  have px4 : ∀ d os, (grow (redrawn w0 d) os).cell? ⟨W.heap.size, 4, none⟩ = some (.int .i64 x4) := cell_regrown (H0.out.1.cell 4)
  have py4 : ∀ d os, (grow (redrawn w0 d) os).cell? ⟨W.heap.size + 1, 4, none⟩ = some (.int .i64 y4) := cell_regrown (H0.out.2.1.cell 4)
  have px5 : ∀ d os, (grow (redrawn w0 d) os).cell? ⟨W.heap.size, 5, none⟩ = some (.int .i64 x5) := cell_regrown (H0.out.1.cell 5)
  have py5 : ∀ d os, (grow (redrawn w0 d) os).cell? ⟨W.heap.size + 1, 5, none⟩ = some (.int .i64 y5) := cell_regrown (H0.out.2.1.cell 5)
  have px6 : ∀ d os, (grow (redrawn w0 d) os).cell? ⟨W.heap.size, 6, none⟩ = some (.int .i64 x6) := cell_regrown (H0.out.1.cell 6)
  have py6 : ∀ d os, (grow (redrawn w0 d) os).cell? ⟨W.heap.size + 1, 6, none⟩ = some (.int .i64 y6) := cell_regrown (H0.out.2.1.cell 6)
  have px7 : ∀ d os, (grow (redrawn w0 d) os).cell? ⟨W.heap.size, 7, none⟩ = some (.int .i64 x7) := cell_regrown (H0.out.1.cell 7)
  have py7 : ∀ d os, (grow (redrawn w0 d) os).cell? ⟨W.heap.size + 1, 7, none⟩ = some (.int .i64 y7) := cell_regrown (H0.out.2.1.cell 7)
  have px8 : ∀ d os, (grow (redrawn w0 d) os).cell? ⟨W.heap.size, 8, none⟩ = some (.bool x8) := cell_regrown (H0.out.1.cell 8)
  have py8 : ∀ d os, (grow (redrawn w0 d) os).cell? ⟨W.heap.size + 1, 8, none⟩ = some (.bool y8) := cell_regrown (H0.out.2.1.cell 8)
  have px9 : ∀ d os, (grow (redrawn w0 d) os).cell? ⟨W.heap.size, 9, none⟩ = some (.int .i64 x9) := cell_regrown (H0.out.1.cell 9)
  have py9 : ∀ d os, (grow (redrawn w0 d) os).cell? ⟨W.heap.size + 1, 9, none⟩ = some (.int .i64 y9) := cell_regrown (H0.out.2.1.cell 9)
  have px10 : ∀ d os, (grow (redrawn w0 d) os).cell? ⟨W.heap.size, 10, none⟩ = some (.int .i64 x10) := cell_regrown (H0.out.1.cell 10)
  have py10 : ∀ d os, (grow (redrawn w0 d) os).cell? ⟨W.heap.size + 1, 10, none⟩ = some (.int .i64 y10) := cell_regrown (H0.out.2.1.cell 10)
  have px11 : ∀ d os, (grow (redrawn w0 d) os).cell? ⟨W.heap.size, 11, none⟩ = some (.slice A11 n11 c11) := cell_regrown (H0.out.1.cell 11)
  have py11 : ∀ d os, (grow (redrawn w0 d) os).cell? ⟨W.heap.size + 1, 11, none⟩ = some (.slice B11 m11 d11) := cell_regrown (H0.out.2.1.cell 11)
  have px12 : ∀ d os, (grow (redrawn w0 d) os).cell? ⟨W.heap.size, 12, none⟩ = some (.slice A12 n12 c12) := cell_regrown (H0.out.1.cell 12)
  have py12 : ∀ d os, (grow (redrawn w0 d) os).cell? ⟨W.heap.size + 1, 12, none⟩ = some (.slice B12 m12 d12) := cell_regrown (H0.out.2.1.cell 12)
  have px13 : ∀ d os, (grow (redrawn w0 d) os).cell? ⟨W.heap.size, 13, none⟩ = some (.slice A13 n13 c13) := cell_regrown (H0.out.1.cell 13)
  have py13 : ∀ d os, (grow (redrawn w0 d) os).cell? ⟨W.heap.size + 1, 13, none⟩ = some (.slice B13 m13 d13) := cell_regrown (H0.out.2.1.cell 13)
  have px14 : ∀ d os, (grow (redrawn w0 d) os).cell? ⟨W.heap.size, 14, none⟩ = some (.slice A14 n14 c14) := cell_regrown (H0.out.1.cell 14)
  have py14 : ∀ d os, (grow (redrawn w0 d) os).cell? ⟨W.heap.size + 1, 14, none⟩ = some (.slice B14 m14 d14) := cell_regrown (H0.out.2.1.cell 14)
  refine wp_region_quiet_below (by kernel_rfl) (by exact lexI) ?_
  repeat (first | go_big_quiet_step (fail) | quiet_step (fail))
  refine wpQuiet_nil ?_
  intro w4 hw'
  obtain ⟨⟨dq, osq⟩, hw''⟩ := hw'
  have HB4 : Hid (BoxM W x0 x1 x2 x3 x4 x5 x6 x7 x8 x9 x10 A11 n11 c11 A12 n12 c12 A13 n13 c13 A14 n14 c14 y0 y1 y2 y3 y4 y5 y6 y7 y8 y9 y10 B11 m11 d11 B12 m12 d12 B13 m13 d13 B14 m14 d14 w4) := by show BoxM W x0 x1 x2 x3 x4 x5 x6 x7 x8 x9 x10 A11 n11 c11 A12 n12 c12 A13 n13 c13 A14 n14 c14 y0 y1 y2 y3 y4 y5 y6 y7 y8 y9 y10 B11 m11 d11 B12 m12 d12 B13 m13 d13 B14 m14 d14 w4; rw [hw'']; exact H0.out.grow (below_regrown w0 dq osq)
  clear hw'' px0 py0 px1 py1 px2 py2 px3 py3 px4 py4 px5 py5 px6 py6 px7 py7 px8 py8 px9 py9 px10 py10 px11 py11 px12 py12 px13 py13 px14 py14 
  go_wp2_with fail
  all_goals go_ret
  all_goals exact ⟨rfl, HB4.out.2.2⟩

set_option maxHeartbeats 4000000 in
set_option maxRecDepth 100000 in
theorem smI_3 (W : World) (x0 : Int) (x1 : Int) (x2 : ByteArray) (x3 : Bool) (x4 : Int) (x5 : Int) (x6 : Int) (x7 : Int) (x8 : Bool) (x9 : Int) (x10 : Int) (A11 : Option Addr) (n11 c11 : Nat) (A12 : Option Addr) (n12 c12 : Nat) (A13 : Option Addr) (n13 c13 : Nat) (A14 : Option Addr) (n14 c14 : Nat) (y0 : Int) (y1 : Int) (y2 : ByteArray) (y3 : Bool) (y4 : Int) (y5 : Int) (y6 : Int) (y7 : Int) (y8 : Bool) (y9 : Int) (y10 : Int) (B11 : Option Addr) (m11 d11 : Nat) (B12 : Option Addr) (m12 d12 : Nat) (B13 : Option Addr) (m13 d13 : Nat) (B14 : Option Addr) (m14 d14 : Nat) (x11 y11 : List Mf) (x12 y12 : List Mc) (x13 y13 : List Cp) (x14 y14 : List Cp) (hX11 : MfI W W.heap.size A11 n11 x11) (hY11 : MfI W W.heap.size B11 m11 y11) (hX12 : McI W W.heap.size A12 n12 x12) (hY12 : McI W W.heap.size B12 m12 y12) (hX13 : CpI W W.heap.size A13 n13 x13) (hY13 : CpI W W.heap.size B13 m13 y13) (hX14 : CpI W W.heap.size A14 n14 x14) (hY14 : CpI W W.heap.size B14 m14 y14) (h0 : (x0 == y0) = true) (h1 : (x1 == y1) = true) (h2 : (x2.toList == y2.toList) = true) (h3 : (x3 == y3) = false) :
    Calls Try.prog 7 #[.agg #[.int .i64 x0, .int .i64 x1, .string x2, .bool x3, .int .i64 x4, .int .i64 x5, .int .i64 x6, .int .i64 x7, .bool x8, .int .i64 x9, .int .i64 x10, .slice A11 n11 c11, .slice A12 n12 c12, .slice A13 n13 c13, .slice A14 n14 c14], .agg #[.int .i64 y0, .int .i64 y1, .string y2, .bool y3, .int .i64 y4, .int .i64 y5, .int .i64 y6, .int .i64 y7, .bool y8, .int .i64 y9, .int .i64 y10, .slice B11 m11 d11, .slice B12 m12 d12, .slice B13 m13 d13, .slice B14 m14 d14]] W fun e w' => e = .returned (.bool false) ∧ Below W.heap.size W w' := by
  have HX11 := Lib.hid hX11
  have HY11 := Lib.hid hY11
  have HX12 := Lib.hid hX12
  have HY12 := Lib.hid hY12
  have HX13 := Lib.hid hX13
  have HY13 := Lib.hid hY13
  have HX14 := Lib.hid hX14
  have HY14 := Lib.hid hY14
  clear hX11 hY11 hX12 hY12 hX13 hY13 hX14 hY14 
  go_enter Try.func7, Try.ntmps7
  go_wp2_with fail
  obtain ⟨w0, hw0⟩ : ∃ w0, (W.alloc (.cells #[.int .i64 x0, .int .i64 x1, .string x2, .bool x3, .int .i64 x4, .int .i64 x5, .int .i64 x6, .int .i64 x7, .bool x8, .int .i64 x9, .int .i64 x10, .slice A11 n11 c11, .slice A12 n12 c12, .slice A13 n13 c13, .slice A14 n14 c14] 33)).alloc (.cells #[.int .i64 y0, .int .i64 y1, .string y2, .bool y3, .int .i64 y4, .int .i64 y5, .int .i64 y6, .int .i64 y7, .bool y8, .int .i64 y9, .int .i64 y10, .slice B11 m11 d11, .slice B12 m12 d12, .slice B13 m13 d13, .slice B14 m14 d14] 33) = w0 := ⟨_, rfl⟩
  have HC : BoxM W x0 x1 x2 x3 x4 x5 x6 x7 x8 x9 x10 A11 n11 c11 A12 n12 c12 A13 n13 c13 A14 n14 c14 y0 y1 y2 y3 y4 y5 y6 y7 y8 y9 y10 B11 m11 d11 B12 m12 d12 B13 m13 d13 B14 m14 d14 w0 := by
    obtain ⟨g0, g1, g2, _⟩ := two_new W 33 #[.int .i64 x0, .int .i64 x1, .string x2, .bool x3, .int .i64 x4, .int .i64 x5, .int .i64 x6, .int .i64 x7, .bool x8, .int .i64 x9, .int .i64 x10, .slice A11 n11 c11, .slice A12 n12 c12, .slice A13 n13 c13, .slice A14 n14 c14] #[.int .i64 y0, .int .i64 y1, .string y2, .bool y3, .int .i64 y4, .int .i64 y5, .int .i64 y6, .int .i64 y7, .bool y8, .int .i64 y9, .int .i64 y10, .slice B11 m11 d11, .slice B12 m12 d12, .slice B13 m13 d13, .slice B14 m14 d14] w0 hw0.symm
    exact ⟨g0, g1, g2⟩
  have H0 := Lib.hid HC
  rw [hw0]
  clear hw0 HC
  have px0 : ∀ d os, (grow (redrawn w0 d) os).cell? ⟨W.heap.size, 0, none⟩ = some (.int .i64 x0) := cell_regrown (H0.out.1.cell 0)
  have py0 : ∀ d os, (grow (redrawn w0 d) os).cell? ⟨W.heap.size + 1, 0, none⟩ = some (.int .i64 y0) := cell_regrown (H0.out.2.1.cell 0)
  have px1 : ∀ d os, (grow (redrawn w0 d) os).cell? ⟨W.heap.size, 1, none⟩ = some (.int .i64 x1) := cell_regrown (H0.out.1.cell 1)
  have py1 : ∀ d os, (grow (redrawn w0 d) os).cell? ⟨W.heap.size + 1, 1, none⟩ = some (.int .i64 y1) := cell_regrown (H0.out.2.1.cell 1)
  have px2 : ∀ d os, (grow (redrawn w0 d) os).cell? ⟨W.heap.size, 2, none⟩ = some (.string x2) := cell_regrown (H0.out.1.cell 2)
  have py2 : ∀ d os, (grow (redrawn w0 d) os).cell? ⟨W.heap.size + 1, 2, none⟩ = some (.string y2) := cell_regrown (H0.out.2.1.cell 2)
  have px3 : ∀ d os, (grow (redrawn w0 d) os).cell? ⟨W.heap.size, 3, none⟩ = some (.bool x3) := cell_regrown (H0.out.1.cell 3)
  have py3 : ∀ d os, (grow (redrawn w0 d) os).cell? ⟨W.heap.size + 1, 3, none⟩ = some (.bool y3) := cell_regrown (H0.out.2.1.cell 3)
  have px4 : ∀ d os, (grow (redrawn w0 d) os).cell? ⟨W.heap.size, 4, none⟩ = some (.int .i64 x4) := cell_regrown (H0.out.1.cell 4)
  have py4 : ∀ d os, (grow (redrawn w0 d) os).cell? ⟨W.heap.size + 1, 4, none⟩ = some (.int .i64 y4) := cell_regrown (H0.out.2.1.cell 4)
  have px5 : ∀ d os, (grow (redrawn w0 d) os).cell? ⟨W.heap.size, 5, none⟩ = some (.int .i64 x5) := cell_regrown (H0.out.1.cell 5)
  have py5 : ∀ d os, (grow (redrawn w0 d) os).cell? ⟨W.heap.size + 1, 5, none⟩ = some (.int .i64 y5) := cell_regrown (H0.out.2.1.cell 5)
  have px6 : ∀ d os, (grow (redrawn w0 d) os).cell? ⟨W.heap.size, 6, none⟩ = some (.int .i64 x6) := cell_regrown (H0.out.1.cell 6)
  have py6 : ∀ d os, (grow (redrawn w0 d) os).cell? ⟨W.heap.size + 1, 6, none⟩ = some (.int .i64 y6) := cell_regrown (H0.out.2.1.cell 6)
  have px7 : ∀ d os, (grow (redrawn w0 d) os).cell? ⟨W.heap.size, 7, none⟩ = some (.int .i64 x7) := cell_regrown (H0.out.1.cell 7)
  have py7 : ∀ d os, (grow (redrawn w0 d) os).cell? ⟨W.heap.size + 1, 7, none⟩ = some (.int .i64 y7) := cell_regrown (H0.out.2.1.cell 7)
  have px8 : ∀ d os, (grow (redrawn w0 d) os).cell? ⟨W.heap.size, 8, none⟩ = some (.bool x8) := cell_regrown (H0.out.1.cell 8)
  have py8 : ∀ d os, (grow (redrawn w0 d) os).cell? ⟨W.heap.size + 1, 8, none⟩ = some (.bool y8) := cell_regrown (H0.out.2.1.cell 8)
  have px9 : ∀ d os, (grow (redrawn w0 d) os).cell? ⟨W.heap.size, 9, none⟩ = some (.int .i64 x9) := cell_regrown (H0.out.1.cell 9)
  have py9 : ∀ d os, (grow (redrawn w0 d) os).cell? ⟨W.heap.size + 1, 9, none⟩ = some (.int .i64 y9) := cell_regrown (H0.out.2.1.cell 9)
  have px10 : ∀ d os, (grow (redrawn w0 d) os).cell? ⟨W.heap.size, 10, none⟩ = some (.int .i64 x10) := cell_regrown (H0.out.1.cell 10)
  have py10 : ∀ d os, (grow (redrawn w0 d) os).cell? ⟨W.heap.size + 1, 10, none⟩ = some (.int .i64 y10) := cell_regrown (H0.out.2.1.cell 10)
  have px11 : ∀ d os, (grow (redrawn w0 d) os).cell? ⟨W.heap.size, 11, none⟩ = some (.slice A11 n11 c11) := cell_regrown (H0.out.1.cell 11)
  have py11 : ∀ d os, (grow (redrawn w0 d) os).cell? ⟨W.heap.size + 1, 11, none⟩ = some (.slice B11 m11 d11) := cell_regrown (H0.out.2.1.cell 11)
  have px12 : ∀ d os, (grow (redrawn w0 d) os).cell? ⟨W.heap.size, 12, none⟩ = some (.slice A12 n12 c12) := cell_regrown (H0.out.1.cell 12)
  have py12 : ∀ d os, (grow (redrawn w0 d) os).cell? ⟨W.heap.size + 1, 12, none⟩ = some (.slice B12 m12 d12) := cell_regrown (H0.out.2.1.cell 12)
  have px13 : ∀ d os, (grow (redrawn w0 d) os).cell? ⟨W.heap.size, 13, none⟩ = some (.slice A13 n13 c13) := cell_regrown (H0.out.1.cell 13)
  have py13 : ∀ d os, (grow (redrawn w0 d) os).cell? ⟨W.heap.size + 1, 13, none⟩ = some (.slice B13 m13 d13) := cell_regrown (H0.out.2.1.cell 13)
  have px14 : ∀ d os, (grow (redrawn w0 d) os).cell? ⟨W.heap.size, 14, none⟩ = some (.slice A14 n14 c14) := cell_regrown (H0.out.1.cell 14)
  have py14 : ∀ d os, (grow (redrawn w0 d) os).cell? ⟨W.heap.size + 1, 14, none⟩ = some (.slice B14 m14 d14) := cell_regrown (H0.out.2.1.cell 14)
  refine wp_region_quiet_below (by kernel_rfl) (by exact lexI) ?_
  repeat (first | go_big_quiet_step (fail) | quiet_step (fail))
  refine wpQuiet_nil ?_
  intro w4 hw'
  obtain ⟨⟨dq, osq⟩, hw''⟩ := hw'
  have HB4 : Hid (BoxM W x0 x1 x2 x3 x4 x5 x6 x7 x8 x9 x10 A11 n11 c11 A12 n12 c12 A13 n13 c13 A14 n14 c14 y0 y1 y2 y3 y4 y5 y6 y7 y8 y9 y10 B11 m11 d11 B12 m12 d12 B13 m13 d13 B14 m14 d14 w4) := by show BoxM W x0 x1 x2 x3 x4 x5 x6 x7 x8 x9 x10 A11 n11 c11 A12 n12 c12 A13 n13 c13 A14 n14 c14 y0 y1 y2 y3 y4 y5 y6 y7 y8 y9 y10 B11 m11 d11 B12 m12 d12 B13 m13 d13 B14 m14 d14 w4; rw [hw'']; exact H0.out.grow (below_regrown w0 dq osq)
  clear hw'' px0 py0 px1 py1 px2 py2 px3 py3 px4 py4 px5 py5 px6 py6 px7 py7 px8 py8 px9 py9 px10 py10 px11 py11 px12 py12 px13 py13 px14 py14 
  go_wp2_with fail
  all_goals go_ret
  all_goals exact ⟨rfl, HB4.out.2.2⟩
end Go.Proofs.Ytnneidpdfommjaa
