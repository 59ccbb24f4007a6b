/- The two boxes of SameMatcher. No condition. -/
import Derived.Test.YtnneidpdfommjaaPlaceOf
import Derived.Test.YtnneidpdfommjaaMfsSame
import Derived.Test.YtnneidpdfommjaaCpsSame
import Derived.Lib.QuietBelow
import Derived.BigRegion
import Derived.BigQuiet
namespace Go.Proofs.Ytnneidpdfommjaa
open Go Go.RowKit Go.Sort

theorem str_iff (a b : ByteArray) : (a.toList == b.toList) = true ↔ a = b := by
  constructor
  · intro h
    have e : a.toList = b.toList := by simpa using h
    exact WideShapes.bytes_inj (by rw [← ByteArray.toList_eq, ← ByteArray.toList_eq]; exact e)
  · rintro rfl
    simp
def BoxM (W : World) (x0 : Int) (x1 : Int) (x2 : ByteArray) (x3 : Bool) (x4 : Int) (x5 : Int) (x6 : Int) (x7 : Int) (x8 : Bool) (x9 : Int) (x10 : Int) (A11 : Option Addr) (n11 c11 : Nat) (A12 : Option Addr) (n12 c12 : Nat) (A13 : Option Addr) (n13 c13 : Nat) (A14 : Option Addr) (n14 c14 : Nat) (y0 : Int) (y1 : Int) (y2 : ByteArray) (y3 : Bool) (y4 : Int) (y5 : Int) (y6 : Int) (y7 : Int) (y8 : Bool) (y9 : Int) (y10 : Int) (B11 : Option Addr) (m11 d11 : Nat) (B12 : Option Addr) (m12 d12 : Nat) (B13 : Option Addr) (m13 d13 : Nat) (B14 : Option Addr) (m14 d14 : Nat) (w : World) : Prop := RW 33 w W.heap.size #[.int .i64 x0, .int .i64 x1, .string x2, .bool x3, .int .i64 x4, .int .i64 x5, .int .i64 x6, .int .i64 x7, .bool x8, .int .i64 x9, .int .i64 x10, .slice A11 n11 c11, .slice A12 n12 c12, .slice A13 n13 c13, .slice A14 n14 c14] ∧ RW 33 w (W.heap.size + 1) #[.int .i64 y0, .int .i64 y1, .string y2, .bool y3, .int .i64 y4, .int .i64 y5, .int .i64 y6, .int .i64 y7, .bool y8, .int .i64 y9, .int .i64 y10, .slice B11 m11 d11, .slice B12 m12 d12, .slice B13 m13 d13, .slice B14 m14 d14] ∧ Below W.heap.size W w
theorem BoxM.grow {W : World} {x0 : Int} {x1 : Int} {x2 : ByteArray} {x3 : Bool} {x4 : Int} {x5 : Int} {x6 : Int} {x7 : Int} {x8 : Bool} {x9 : Int} {x10 : Int} {A11 : Option Addr} {n11 c11 : Nat} {A12 : Option Addr} {n12 c12 : Nat} {A13 : Option Addr} {n13 c13 : Nat} {A14 : Option Addr} {n14 c14 : Nat} {y0 : Int} {y1 : Int} {y2 : ByteArray} {y3 : Bool} {y4 : Int} {y5 : Int} {y6 : Int} {y7 : Int} {y8 : Bool} {y9 : Int} {y10 : Int} {B11 : Option Addr} {m11 d11 : Nat} {B12 : Option Addr} {m12 d12 : Nat} {B13 : Option Addr} {m13 d13 : Nat} {B14 : Option Addr} {m14 d14 : Nat} {w w' : World} (h : BoxM W x0 x1 x2 x3 x4 x5 x6 x7 x8 x9 x10 A11 n11 c11 A12 n12 c12 A13 n13 c13 A14 n14 c14 y0 y1 y2 y3 y4 y5 y6 y7 y8 y9 y10 B11 m11 d11 B12 m12 d12 B13 m13 d13 B14 m14 d14 w) (hb : Below w.heap.size w w') : BoxM W x0 x1 x2 x3 x4 x5 x6 x7 x8 x9 x10 A11 n11 c11 A12 n12 c12 A13 n13 c13 A14 n14 c14 y0 y1 y2 y3 y4 y5 y6 y7 y8 y9 y10 B11 m11 d11 B12 m12 d12 B13 m13 d13 B14 m14 d14 w' := ⟨h.1.below hb h.1.lt, h.2.1.below hb h.2.1.lt, h.2.2.trans (hb.mono h.2.2.size)⟩
theorem sameMr_iff (x0 x1 x2 x3 x4 x5 x6 x7 x8 x9 x10 x11 x12 x13 x14 y0 y1 y2 y3 y4 y5 y6 y7 y8 y9 y10 y11 y12 y13 y14) : ((⟨x0, x1, x2, x3, x4, x5, x6, x7, x8, x9, x10, x11, x12, x13, x14⟩ : Mr) = ⟨y0, y1, y2, y3, y4, y5, y6, y7, y8, y9, y10, y11, y12, y13, y14⟩) ↔ x0 = y0 ∧ x1 = y1 ∧ x2 = y2 ∧ x3 = y3 ∧ x4 = y4 ∧ x5 = y5 ∧ x6 = y6 ∧ x7 = y7 ∧ x8 = y8 ∧ x9 = y9 ∧ x10 = y10 ∧ x11 = y11 ∧ x12 = y12 ∧ x13 = y13 ∧ x14 = y14 := by simp only [Mr.mk.injEq]
end Go.Proofs.Ytnneidpdfommjaa
