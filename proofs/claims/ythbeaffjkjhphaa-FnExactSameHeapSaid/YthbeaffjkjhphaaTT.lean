/- Plain: a proposition as a bool; two values are one. No condition. -/
import Derived.Test.YthbeaffjkjhphaaVls
import Derived.Test.YthbeaffjkjhphaaSameV
namespace Go.Proofs.Ythbeaffjkjhphaa
open Go Go.RowKit

/-- A proposition as a bool. -/
noncomputable def tt (P : Prop) : Bool := @decide P (Classical.propDecidable P)
theorem tt_true {P : Prop} (h : P) : tt P = true := by unfold tt; simp [h]
theorem tt_false {P : Prop} (h : ¬ P) : tt P = false := by unfold tt; simp [h]
theorem tt_iff {P : Prop} : tt P = true ↔ P := by unfold tt; simp
theorem of_tt {P : Prop} (h : tt P = true) : P := tt_iff.1 h
theorem of_tt_false {P : Prop} (h : tt P = false) : ¬ P := fun hp => by rw [tt_true hp] at h; cases h
theorem tt_congr {P Q : Prop} (h : P ↔ Q) : tt P = tt Q := by rw [propext h]

theorem sameV_iff (x y : Vl) : sameV x.k x.n x.t x.r y.k y.n y.t y.r = true ↔ x = y := by
  obtain ⟨k, n, t, r⟩ := x
  obtain ⟨k', n', t', r'⟩ := y
  unfold sameV
  simp only [Bool.and_eq_true, beq_iff_eq, Vl.mk.injEq]
  constructor
  · rintro ⟨h1, h2, h3, h4⟩
    exact ⟨h1, h2, WideShapes.bytes_inj (by rw [← ByteArray.toList_eq, ← ByteArray.toList_eq]; exact h3), h4⟩
  · rintro ⟨h1, h2, h3, h4⟩
    exact ⟨h1, h2, by rw [h3], h4⟩
theorem sameV_false {x y : Vl} (h : sameV x.k x.n x.t x.r y.k y.n y.t y.r = false) : x ≠ y := fun e => by rw [(sameV_iff x y).2 e] at h; cases h
end Go.Proofs.Ythbeaffjkjhphaa
