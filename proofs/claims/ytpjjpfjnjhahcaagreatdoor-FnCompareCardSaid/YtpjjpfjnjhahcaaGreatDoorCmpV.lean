/- Contracts: asItself, SameValue, convertBoth at values. No condition. -/
import Derived.Test.YtpjjpfjnjhahcaaGreatDoorTwoV
import Derived.Test.YtpjjpfjnjhahcaaGreatDoorSameV
import Derived.BigRegion
namespace Go.Proofs.YtpjjpfjnjhahcaaGreatDoor
open Go Go.RowKit

def Va.same (a b : Va) : Bool := sameV a.k a.n a.t a.r b.k b.n b.t b.r
theorem impl_same_any (a b : Va) (W : World) :
    Calls Tryz.prog 36 #[a.ag, b.ag] W fun e w' => e = .returned (.bool (a.same b)) ∧ Below W.heap.size W w' := by
  unfold Va.same sameV
  obtain ⟨z1, h1⟩ : ∃ z, (a.k == b.k) = z := ⟨_, rfl⟩
  obtain ⟨z2, h2⟩ : ∃ z, (a.n == b.n) = z := ⟨_, rfl⟩
  obtain ⟨z3, h3⟩ : ∃ z, (a.t.toList == b.t.toList) = z := ⟨_, rfl⟩
  obtain ⟨z4, h4⟩ : ∃ z, (a.r == b.r) = z := ⟨_, rfl⟩
  rw [h1, h2, h3, h4]
  unfold Va.ag
  cases z1
  · go_enter Tryz.func36, Tryz.ntmps36
    go_wp2_with fail
    go_ret
    exact ⟨rfl, ((Below.refl _ _).alloc (Nat.le_refl _) _).alloc (by simp) _⟩
  cases z2
  · go_enter Tryz.func36, Tryz.ntmps36
    go_wp2_with fail
    go_ret
    exact ⟨rfl, ((Below.refl _ _).alloc (Nat.le_refl _) _).alloc (by simp) _⟩
  cases z3
  · go_enter Tryz.func36, Tryz.ntmps36
    go_wp2_with fail
    go_ret
    exact ⟨rfl, ((Below.refl _ _).alloc (Nat.le_refl _) _).alloc (by simp) _⟩
  cases z4
  all_goals
    go_enter Tryz.func36, Tryz.ntmps36
    go_wp2_with fail
    go_ret
    exact ⟨rfl, ((Below.refl _ _).alloc (Nat.le_refl _) _).alloc (by simp) _⟩

theorem asItself_any (a : Va) (W : World) :
    Calls Tryz.prog 35 #[a.ag] W fun e w' => e = .returned (.tuple #[a.ag, .bool true]) ∧ Below W.heap.size W w' := by
  unfold Va.ag
  go_enter Tryz.func35, Tryz.ntmps35
  go_wp2
  exact bodyPost_ret (v := .tuple #[.agg #[.int .i64 a.k, .int .i64 a.n, .string a.t, .int .i64 a.r], .bool true]) (by rw [results_cell_tmp rfl]; go_simp) rfl ⟨rfl, by repeat (first | exact Below.refl _ _ | refine Below.setCell ?_ (by first | (simp; done) | (simp; omega)) _ | refine Below.alloc ?_ (by first | (simp; done) | (simp; omega)) _)⟩
/-- Two boxes, and the cells of two results. -/
def T4 (W w : World) (a b x y : Va) : Prop :=
  C4 w W.heap.size a ∧ C4 w (W.heap.size + 1) b ∧ C4 w (W.heap.size + 1 + 1) x ∧ C4 w (W.heap.size + 1 + 1 + 1) y ∧ (∀ i, w.frozen? ⟨W.heap.size + 1 + 1, i, none⟩ = false) ∧ (∀ i, w.frozen? ⟨W.heap.size + 1 + 1 + 1, i, none⟩ = false) ∧ Below W.heap.size W w ∧ W.heap.size + 1 + 1 + 1 < w.heap.size
theorem T4.go {W w w' : World} {a b x y : Va} (h : T4 W w a b x y) (hb : Below w.heap.size w w') : T4 W w' a b x y := by
  obtain ⟨h1, h2, h3, h4, h5, h6, h7, h8⟩ := h
  exact ⟨h1.below hb (by omega), h2.below hb (by omega), h3.below hb (by omega), h4.below hb h8, fun i => (hb.frozen (p := ⟨W.heap.size + 1 + 1, i, none⟩) (show W.heap.size + 1 + 1 < w.heap.size by omega)).trans (h5 i), fun i => (hb.frozen (p := ⟨W.heap.size + 1 + 1 + 1, i, none⟩) h8).trans (h6 i), h7.trans (hb.mono h7.size), Nat.lt_of_lt_of_le h8 hb.size⟩
end Go.Proofs.YtpjjpfjnjhahcaaGreatDoor
