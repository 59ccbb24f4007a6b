/- Contract: SameMatcher of the program. No condition. -/
import Derived.Test.YtnneidpdfommjaaSmI1
import Derived.Test.YtnneidpdfommjaaSmI2
import Derived.Test.YtnneidpdfommjaaSmI3
import Derived.Test.YtnneidpdfommjaaSmI4
namespace Go.Proofs.Ytnneidpdfommjaa
open Go Go.RowKit Go.Sort

set_option maxRecDepth 100000 in
theorem impl_SameMatcher_any (x y : Mr) (l l' : MrLay) (W : World) (hx : MrV W W.heap.size x l) (hy : MrV W W.heap.size y l') :
    Calls Try.prog 7 #[x.ag l, y.ag l'] W fun e w' => e = .returned (.bool (tt (x = y))) ∧ Below W.heap.size W w' := by
  obtain ⟨x0, x1, x2, x3, x4, x5, x6, x7, x8, x9, x10, x11, x12, x13, x14⟩ := x
  obtain ⟨y0, y1, y2, y3, y4, y5, y6, y7, y8, y9, y10, y11, y12, y13, y14⟩ := y
  obtain ⟨A11, n11, c11, hh11, A12, n12, c12, hh12, A13, n13, c13, hh13, A14, n14, c14, hh14⟩ := l
  obtain ⟨B11, m11, d11, jj11, B12, m12, d12, jj12, B13, m13, d13, jj13, B14, m14, d14, jj14⟩ := l'
  unfold MrV at hx hy
  dsimp only at hx hy
  obtain ⟨X11, X12, X13, X14, _⟩ := hx
  obtain ⟨Y11, Y12, Y13, Y14, _⟩ := hy
  show Calls Try.prog 7 #[.agg #[.int .i64 x0, .int .i64 x1, .string x2, .bool x3, .int .i64 x4, .int .i64 x5, .int .i64 x6, .int .i64 x7, .bool x8, .int .i64 x9, .int .i64 x10, .slice A11 n11 c11, .slice A12 n12 c12, .slice A13 n13 c13, .slice A14 n14 c14], .agg #[.int .i64 y0, .int .i64 y1, .string y2, .bool y3, .int .i64 y4, .int .i64 y5, .int .i64 y6, .int .i64 y7, .bool y8, .int .i64 y9, .int .i64 y10, .slice B11 m11 d11, .slice B12 m12 d12, .slice B13 m13 d13, .slice B14 m14 d14]] W _
  cases h0 : (x0 == y0) with
  | false =>
    have HP : tt ((⟨x0, x1, x2, x3, x4, x5, x6, x7, x8, x9, x10, x11, x12, x13, x14⟩ : Mr) = ⟨y0, y1, y2, y3, y4, y5, y6, y7, y8, y9, y10, y11, y12, y13, y14⟩) = false := tt_false fun e => by
      rw [sameMr_iff] at e
      exact by have e0 := e.1; rw [e0] at h0; simp at h0
    rw [HP]
    exact smI_0 W x0 x1 x2 x3 x4 x5 x6 x7 x8 x9 x10 A11 n11 c11 A12 n12 c12 A13 n13 c13 A14 n14 c14 y0 y1 y2 y3 y4 y5 y6 y7 y8 y9 y10 B11 m11 d11 B12 m12 d12 B13 m13 d13 B14 m14 d14 x11 y11 x12 y12 x13 y13 x14 y14 X11 Y11 X12 Y12 X13 Y13 X14 Y14  h0
  | true =>
    cases h1 : (x1 == y1) with
    | false =>
      have HP : tt ((⟨x0, x1, x2, x3, x4, x5, x6, x7, x8, x9, x10, x11, x12, x13, x14⟩ : Mr) = ⟨y0, y1, y2, y3, y4, y5, y6, y7, y8, y9, y10, y11, y12, y13, y14⟩) = false := tt_false fun e => by
        rw [sameMr_iff] at e
        exact by have e1 := e.2.1; rw [e1] at h1; simp at h1
      rw [HP]
      exact smI_1 W x0 x1 x2 x3 x4 x5 x6 x7 x8 x9 x10 A11 n11 c11 A12 n12 c12 A13 n13 c13 A14 n14 c14 y0 y1 y2 y3 y4 y5 y6 y7 y8 y9 y10 B11 m11 d11 B12 m12 d12 B13 m13 d13 B14 m14 d14 x11 y11 x12 y12 x13 y13 x14 y14 X11 Y11 X12 Y12 X13 Y13 X14 Y14 h0 h1
    | true =>
      cases h2 : (x2.toList == y2.toList) with
      | false =>
        have HP : tt ((⟨x0, x1, x2, x3, x4, x5, x6, x7, x8, x9, x10, x11, x12, x13, x14⟩ : Mr) = ⟨y0, y1, y2, y3, y4, y5, y6, y7, y8, y9, y10, y11, y12, y13, y14⟩) = false := tt_false fun e => by
          rw [sameMr_iff] at e
          exact by have e2 := e.2.2.1; rw [e2] at h2; simp at h2
        rw [HP]
        exact smI_2 W x0 x1 x2 x3 x4 x5 x6 x7 x8 x9 x10 A11 n11 c11 A12 n12 c12 A13 n13 c13 A14 n14 c14 y0 y1 y2 y3 y4 y5 y6 y7 y8 y9 y10 B11 m11 d11 B12 m12 d12 B13 m13 d13 B14 m14 d14 x11 y11 x12 y12 x13 y13 x14 y14 X11 Y11 X12 Y12 X13 Y13 X14 Y14 h0 h1 h2
      | true =>
        cases h3 : (x3 == y3) with
        | false =>
          have HP : tt ((⟨x0, x1, x2, x3, x4, x5, x6, x7, x8, x9, x10, x11, x12, x13, x14⟩ : Mr) = ⟨y0, y1, y2, y3, y4, y5, y6, y7, y8, y9, y10, y11, y12, y13, y14⟩) = false := tt_false fun e => by
            rw [sameMr_iff] at e
            exact by have e3 := e.2.2.2.1; rw [e3] at h3; simp at h3
          rw [HP]
          exact smI_3 W x0 x1 x2 x3 x4 x5 x6 x7 x8 x9 x10 A11 n11 c11 A12 n12 c12 A13 n13 c13 A14 n14 c14 y0 y1 y2 y3 y4 y5 y6 y7 y8 y9 y10 B11 m11 d11 B12 m12 d12 B13 m13 d13 B14 m14 d14 x11 y11 x12 y12 x13 y13 x14 y14 X11 Y11 X12 Y12 X13 Y13 X14 Y14 h0 h1 h2 h3
        | true =>
          cases h4 : (x4 == y4) with
          | false =>
            have HP : tt ((⟨x0, x1, x2, x3, x4, x5, x6, x7, x8, x9, x10, x11, x12, x13, x14⟩ : Mr) = ⟨y0, y1, y2, y3, y4, y5, y6, y7, y8, y9, y10, y11, y12, y13, y14⟩) = false := tt_false fun e => by
              rw [sameMr_iff] at e
              exact by have e4 := e.2.2.2.2.1; rw [e4] at h4; simp at h4
            rw [HP]
            exact smI_4 W x0 x1 x2 x3 x4 x5 x6 x7 x8 x9 x10 A11 n11 c11 A12 n12 c12 A13 n13 c13 A14 n14 c14 y0 y1 y2 y3 y4 y5 y6 y7 y8 y9 y10 B11 m11 d11 B12 m12 d12 B13 m13 d13 B14 m14 d14 x11 y11 x12 y12 x13 y13 x14 y14 X11 Y11 X12 Y12 X13 Y13 X14 Y14 h0 h1 h2 h3 h4
          | true =>
            cases h10 : (x10 == y10) with
            | false =>
              have HP : tt ((⟨x0, x1, x2, x3, x4, x5, x6, x7, x8, x9, x10, x11, x12, x13, x14⟩ : Mr) = ⟨y0, y1, y2, y3, y4, y5, y6, y7, y8, y9, y10, y11, y12, y13, y14⟩) = false := tt_false fun e => by
                rw [sameMr_iff] at e
                exact by have e10 := e.2.2.2.2.2.2.2.2.2.2.1; rw [e10] at h10; simp at h10
              rw [HP]
              exact smI_5 W x0 x1 x2 x3 x4 x5 x6 x7 x8 x9 x10 A11 n11 c11 A12 n12 c12 A13 n13 c13 A14 n14 c14 y0 y1 y2 y3 y4 y5 y6 y7 y8 y9 y10 B11 m11 d11 B12 m12 d12 B13 m13 d13 B14 m14 d14 x11 y11 x12 y12 x13 y13 x14 y14 X11 Y11 X12 Y12 X13 Y13 X14 Y14 h0 h1 h2 h3 h4 h10
            | true =>
              cases h8 : (x8 == y8) with
              | false =>
                have HP : tt ((⟨x0, x1, x2, x3, x4, x5, x6, x7, x8, x9, x10, x11, x12, x13, x14⟩ : Mr) = ⟨y0, y1, y2, y3, y4, y5, y6, y7, y8, y9, y10, y11, y12, y13, y14⟩) = false := tt_false fun e => by
                  rw [sameMr_iff] at e
                  exact by have e8 := e.2.2.2.2.2.2.2.2.1; rw [e8] at h8; simp at h8
                rw [HP]
                exact smI_6 W x0 x1 x2 x3 x4 x5 x6 x7 x8 x9 x10 A11 n11 c11 A12 n12 c12 A13 n13 c13 A14 n14 c14 y0 y1 y2 y3 y4 y5 y6 y7 y8 y9 y10 B11 m11 d11 B12 m12 d12 B13 m13 d13 B14 m14 d14 x11 y11 x12 y12 x13 y13 x14 y14 X11 Y11 X12 Y12 X13 Y13 X14 Y14 h0 h1 h2 h3 h4 h10 h8
              | true =>
                obtain rfl : x8 = y8 := by simpa using h8
                cases h5 : (x5 == y5) with
                | false =>
                  have HP : tt ((⟨x0, x1, x2, x3, x4, x5, x6, x7, x8, x9, x10, x11, x12, x13, x14⟩ : Mr) = ⟨y0, y1, y2, y3, y4, y5, y6, y7, x8, y9, y10, y11, y12, y13, y14⟩) = false := tt_false fun e => by
                    rw [sameMr_iff] at e
                    exact by have e5 := e.2.2.2.2.2.1; rw [e5] at h5; simp at h5
                  rw [HP]
                  exact smI_7 W x0 x1 x2 x3 x4 x5 x6 x7 x8 x9 x10 A11 n11 c11 A12 n12 c12 A13 n13 c13 A14 n14 c14 y0 y1 y2 y3 y4 y5 y6 y7 y9 y10 B11 m11 d11 B12 m12 d12 B13 m13 d13 B14 m14 d14 x11 y11 x12 y12 x13 y13 x14 y14 X11 Y11 X12 Y12 X13 Y13 X14 Y14 h0 h1 h2 h3 h4 h10 h5
                | true =>
                  cases h6 : (x6 == y6) with
                  | false =>
                    have HP : tt ((⟨x0, x1, x2, x3, x4, x5, x6, x7, x8, x9, x10, x11, x12, x13, x14⟩ : Mr) = ⟨y0, y1, y2, y3, y4, y5, y6, y7, x8, y9, y10, y11, y12, y13, y14⟩) = false := tt_false fun e => by
                      rw [sameMr_iff] at e
                      exact by have e6 := e.2.2.2.2.2.2.1; rw [e6] at h6; simp at h6
                    rw [HP]
                    exact smI_8 W x0 x1 x2 x3 x4 x5 x6 x7 x8 x9 x10 A11 n11 c11 A12 n12 c12 A13 n13 c13 A14 n14 c14 y0 y1 y2 y3 y4 y5 y6 y7 y9 y10 B11 m11 d11 B12 m12 d12 B13 m13 d13 B14 m14 d14 x11 y11 x12 y12 x13 y13 x14 y14 X11 Y11 X12 Y12 X13 Y13 X14 Y14 h0 h1 h2 h3 h4 h10 h5 h6
                  | true =>
                    cases h7 : (x7 == y7) with
                    | false =>
                      have HP : tt ((⟨x0, x1, x2, x3, x4, x5, x6, x7, x8, x9, x10, x11, x12, x13, x14⟩ : Mr) = ⟨y0, y1, y2, y3, y4, y5, y6, y7, x8, y9, y10, y11, y12, y13, y14⟩) = false := tt_false fun e => by
                        rw [sameMr_iff] at e
                        exact by have e7 := e.2.2.2.2.2.2.2.1; rw [e7] at h7; simp at h7
                      rw [HP]
                      exact smI_9 W x0 x1 x2 x3 x4 x5 x6 x7 x8 x9 x10 A11 n11 c11 A12 n12 c12 A13 n13 c13 A14 n14 c14 y0 y1 y2 y3 y4 y5 y6 y7 y9 y10 B11 m11 d11 B12 m12 d12 B13 m13 d13 B14 m14 d14 x11 y11 x12 y12 x13 y13 x14 y14 X11 Y11 X12 Y12 X13 Y13 X14 Y14 h0 h1 h2 h3 h4 h10 h5 h6 h7
                    | true =>
                      cases hl : ((n14 : Int) == (m14 : Int)) with
                      | false =>
                        have HP : tt ((⟨x0, x1, x2, x3, x4, x5, x6, x7, x8, x9, x10, x11, x12, x13, x14⟩ : Mr) = ⟨y0, y1, y2, y3, y4, y5, y6, y7, x8, y9, y10, y11, y12, y13, y14⟩) = false := tt_false fun e => by
                          rw [sameMr_iff] at e
                          exact by have h1 := X14.1; have h2 := Y14.1; have e14 := e.2.2.2.2.2.2.2.2.2.2.2.2.2.2; rw [e14] at h1; simp at hl; omega
                        rw [HP]
                        exact smI_10 W x0 x1 x2 x3 x4 x5 x6 x7 x8 x9 x10 A11 n11 c11 A12 n12 c12 A13 n13 c13 A14 n14 c14 y0 y1 y2 y3 y4 y5 y6 y7 y9 y10 B11 m11 d11 B12 m12 d12 B13 m13 d13 B14 m14 d14 x11 y11 x12 y12 x13 y13 x14 y14 X11 Y11 X12 Y12 X13 Y13 X14 Y14 h0 h1 h2 h3 h4 h10 h5 h6 h7 hl
                      | true =>
                        cases h9 : (x9 == y9) with
                        | false =>
                          have HP : tt ((⟨x0, x1, x2, x3, x4, x5, x6, x7, x8, x9, x10, x11, x12, x13, x14⟩ : Mr) = ⟨y0, y1, y2, y3, y4, y5, y6, y7, x8, y9, y10, y11, y12, y13, y14⟩) = false := tt_false fun e => by
                            rw [sameMr_iff] at e
                            exact by have e9 := e.2.2.2.2.2.2.2.2.2.1; rw [e9] at h9; simp at h9
                          rw [HP]
                          exact smI_11 W x0 x1 x2 x3 x4 x5 x6 x7 x8 x9 x10 A11 n11 c11 A12 n12 c12 A13 n13 c13 A14 n14 c14 y0 y1 y2 y3 y4 y5 y6 y7 y9 y10 B11 m11 d11 B12 m12 d12 B13 m13 d13 B14 m14 d14 x11 y11 x12 y12 x13 y13 x14 y14 X11 Y11 X12 Y12 X13 Y13 X14 Y14 h0 h1 h2 h3 h4 h10 h5 h6 h7 hl h9
                        | true =>
                          cases h11 : tt (x11 = y11) with
                          | false =>
                            have HP : tt ((⟨x0, x1, x2, x3, x4, x5, x6, x7, x8, x9, x10, x11, x12, x13, x14⟩ : Mr) = ⟨y0, y1, y2, y3, y4, y5, y6, y7, x8, y9, y10, y11, y12, y13, y14⟩) = false := tt_false fun e => by
                              rw [sameMr_iff] at e
                              exact of_tt_false h11 e.2.2.2.2.2.2.2.2.2.2.2.1
                            rw [HP]
                            exact smI_12 W x0 x1 x2 x3 x4 x5 x6 x7 x8 x9 x10 A11 n11 c11 A12 n12 c12 A13 n13 c13 A14 n14 c14 y0 y1 y2 y3 y4 y5 y6 y7 y9 y10 B11 m11 d11 B12 m12 d12 B13 m13 d13 B14 m14 d14 x11 y11 x12 y12 x13 y13 x14 y14 X11 Y11 X12 Y12 X13 Y13 X14 Y14 h0 h1 h2 h3 h4 h10 h5 h6 h7 hl h9 h11
                          | true =>
                            cases h12 : tt (x12 = y12) with
                            | false =>
                              have HP : tt ((⟨x0, x1, x2, x3, x4, x5, x6, x7, x8, x9, x10, x11, x12, x13, x14⟩ : Mr) = ⟨y0, y1, y2, y3, y4, y5, y6, y7, x8, y9, y10, y11, y12, y13, y14⟩) = false := tt_false fun e => by
                                rw [sameMr_iff] at e
                                exact of_tt_false h12 e.2.2.2.2.2.2.2.2.2.2.2.2.1
                              rw [HP]
                              exact smI_13 W x0 x1 x2 x3 x4 x5 x6 x7 x8 x9 x10 A11 n11 c11 A12 n12 c12 A13 n13 c13 A14 n14 c14 y0 y1 y2 y3 y4 y5 y6 y7 y9 y10 B11 m11 d11 B12 m12 d12 B13 m13 d13 B14 m14 d14 x11 y11 x12 y12 x13 y13 x14 y14 X11 Y11 X12 Y12 X13 Y13 X14 Y14 h0 h1 h2 h3 h4 h10 h5 h6 h7 hl h9 h11 h12
                            | true =>
                              cases h13 : tt (x13 = y13) with
                              | false =>
                                have HP : tt ((⟨x0, x1, x2, x3, x4, x5, x6, x7, x8, x9, x10, x11, x12, x13, x14⟩ : Mr) = ⟨y0, y1, y2, y3, y4, y5, y6, y7, x8, y9, y10, y11, y12, y13, y14⟩) = false := tt_false fun e => by
                                  rw [sameMr_iff] at e
                                  exact of_tt_false h13 e.2.2.2.2.2.2.2.2.2.2.2.2.2.1
                                rw [HP]
                                exact smI_14 W x0 x1 x2 x3 x4 x5 x6 x7 x8 x9 x10 A11 n11 c11 A12 n12 c12 A13 n13 c13 A14 n14 c14 y0 y1 y2 y3 y4 y5 y6 y7 y9 y10 B11 m11 d11 B12 m12 d12 B13 m13 d13 B14 m14 d14 x11 y11 x12 y12 x13 y13 x14 y14 X11 Y11 X12 Y12 X13 Y13 X14 Y14 h0 h1 h2 h3 h4 h10 h5 h6 h7 hl h9 h11 h12 h13
                              | true =>
                                cases h14 : tt (x14 = y14) with
                                | false =>
                                  have HP : tt ((⟨x0, x1, x2, x3, x4, x5, x6, x7, x8, x9, x10, x11, x12, x13, x14⟩ : Mr) = ⟨y0, y1, y2, y3, y4, y5, y6, y7, x8, y9, y10, y11, y12, y13, y14⟩) = false := tt_false fun e => by
                                    rw [sameMr_iff] at e
                                    exact of_tt_false h14 e.2.2.2.2.2.2.2.2.2.2.2.2.2.2
                                  rw [HP]
                                  exact smI_15 W x0 x1 x2 x3 x4 x5 x6 x7 x8 x9 x10 A11 n11 c11 A12 n12 c12 A13 n13 c13 A14 n14 c14 y0 y1 y2 y3 y4 y5 y6 y7 y9 y10 B11 m11 d11 B12 m12 d12 B13 m13 d13 B14 m14 d14 x11 y11 x12 y12 x13 y13 x14 y14 X11 Y11 X12 Y12 X13 Y13 X14 Y14 h0 h1 h2 h3 h4 h10 h5 h6 h7 hl h9 h11 h12 h13 h14
                                | true =>
                                  have HP : tt ((⟨x0, x1, x2, x3, x4, x5, x6, x7, x8, x9, x10, x11, x12, x13, x14⟩ : Mr) = ⟨y0, y1, y2, y3, y4, y5, y6, y7, x8, y9, y10, y11, y12, y13, y14⟩) = true := by
                                    refine tt_true ?_
                                    rw [sameMr_iff]
                                    exact ⟨by simpa using h0, by simpa using h1, (str_iff _ _).1 h2, by simpa using h3, by simpa using h4, by simpa using h5, by simpa using h6, by simpa using h7, rfl, by simpa using h9, by simpa using h10, of_tt h11, of_tt h12, of_tt h13, of_tt h14⟩
                                  rw [HP]
                                  exact smI_16 W x0 x1 x2 x3 x4 x5 x6 x7 x8 x9 x10 A11 n11 c11 A12 n12 c12 A13 n13 c13 A14 n14 c14 y0 y1 y2 y3 y4 y5 y6 y7 y9 y10 B11 m11 d11 B12 m12 d12 B13 m13 d13 B14 m14 d14 x11 y11 x12 y12 x13 y13 x14 y14 X11 Y11 X12 Y12 X13 Y13 X14 Y14 h0 h1 h2 h3 h4 h10 h5 h6 h7 hl h9 h11 h12 h13 h14
end Go.Proofs.Ytnneidpdfommjaa
