/- Plain: a proposition as a bool; two values are one. No condition. -/
import Derived.Test.YtbdmanadmckjjaaDoorVls
import Derived.Test.YtbdmanadmckjjaaDoorSameV
namespace Go.Proofs.YtbdmanadmckjjaaDoor
open Go Go.RowKit

theorem sameV_iff (x y : Vl) : sameV x.k x.n x.t x.r y.k y.n y.t y.r = true ↔ x = y := by
  obtain ⟨k, n, t, r⟩ := x
  obtain ⟨k', n', t', r'⟩ := y
  unfold sameV
  simp only [Bool.and_eq_true, beq_iff_eq, Vl.mk.injEq]
  constructor
  · rintro ⟨h1, h2, h3, h4⟩
    exact ⟨h1, h2, WideShapes.bytes_inj (by rw [← ByteArray.toList_eq, ← ByteArray.toList_eq]; exact h3), h4⟩
  · rintro ⟨h1, h2, h3, h4⟩
    exact ⟨h1, h2, by rw [h3], h4⟩
theorem sameV_false {x y : Vl} (h : sameV x.k x.n x.t x.r y.k y.n y.t y.r = false) : x ≠ y := fun e => by rw [(sameV_iff x y).2 e] at h; cases h
end Go.Proofs.YtbdmanadmckjjaaDoor
