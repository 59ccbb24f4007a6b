/- Values as one thing; two boxed values; areValid at two values. Condition: the tables hold what the program's text lays. -/
import Derived.Test.YtpjjpfjnjhahcaaGreatDoorTabs
import Derived.Test.YtpjjpfjnjhahcaaGreatDoorIsNul
import Derived.OwnWalk
namespace Go.Proofs.YtpjjpfjnjhahcaaGreatDoor
open Go Go.RowKit

/-- A value's four fields. -/
structure Va where
  k : Int
  n : Int
  t : ByteArray
  r : Int
def Va.ag (a : Va) : Value := .agg #[.int .i64 a.k, .int .i64 a.n, .string a.t, .int .i64 a.r]
def Va.ok (a : Va) : Bool := validV a.k a.n a.t a.r
theorem one_newV (W : World) (T : TypeId) (cs : Array Value) : ∀ X, X = W.alloc (.cells cs T) → (∀ i : Nat, X.cell? ⟨W.heap.size, i, none⟩ = cs[i]?) ∧ Below W.heap.size W X ∧ X.heap.size = W.heap.size + 1 := fun X e => by
  subst e
  exact ⟨fun i => by simp, (Below.refl _ _).alloc (Nat.le_refl _) _, by simp⟩
/-- Two values in a row. -/
def E8 (w : World) (g : Nat) (a b : Va) : Prop :=
  (w.cell? ⟨g, 0, none⟩ = some (.int .i64 a.k) ∧ w.cell? ⟨g, 1, none⟩ = some (.int .i64 a.n) ∧ w.cell? ⟨g, 2, none⟩ = some (.string a.t) ∧ w.cell? ⟨g, 3, none⟩ = some (.int .i64 a.r)) ∧
  (w.cell? ⟨g, 4, none⟩ = some (.int .i64 b.k) ∧ w.cell? ⟨g, 5, none⟩ = some (.int .i64 b.n) ∧ w.cell? ⟨g, 6, none⟩ = some (.string b.t) ∧ w.cell? ⟨g, 7, none⟩ = some (.int .i64 b.r))
theorem E8.below {w w' : World} {g B : Nat} {a b : Va} (h : E8 w g a b) (hb : Below B w w') (hg : g < B) : E8 w' g a b := by
  obtain ⟨⟨h0, h1, h2, h3⟩, h4, h5, h6, h7⟩ := h
  exact ⟨⟨(hb.cell (p := ⟨g, 0, none⟩) hg).trans h0, (hb.cell (p := ⟨g, 1, none⟩) hg).trans h1, (hb.cell (p := ⟨g, 2, none⟩) hg).trans h2, (hb.cell (p := ⟨g, 3, none⟩) hg).trans h3⟩,
    (hb.cell (p := ⟨g, 4, none⟩) hg).trans h4, (hb.cell (p := ⟨g, 5, none⟩) hg).trans h5, (hb.cell (p := ⟨g, 6, none⟩) hg).trans h6, (hb.cell (p := ⟨g, 7, none⟩) hg).trans h7⟩

set_option maxHeartbeats 2000000 in
set_option maxRecDepth 100000 in
theorem areValid_two (a b : Va) (g c : Nat) (W : World) (h8 : E8 W g a b) (hg : g < W.heap.size) (ha : a.t.size ≤ maxLen) (hb : b.t.size ≤ maxLen) (hT : Tabs W) :
    Calls Tryz.prog 14 #[.slice (some ⟨g, 0, none⟩) 2 c] W fun e w' => e = .returned (.bool (a.ok && b.ok)) ∧ Below W.heap.size W w' := by
  have H8 := Lib.hid h8
  have HG := Lib.hid hg
  have HT := Lib.hid hT
  have HA := Lib.hid ha
  have HB := Lib.hid hb
  clear h8 hg hT ha hb
  obtain ⟨P, hP⟩ : ∃ P, (a.ok && b.ok) = P := ⟨_, rfl⟩
  have HP := Lib.hid hP
  rw [hP]
  clear hP
  go_enter Tryz.func14, Tryz.ntmps14
  go_wp2_with fail
  go_loopw [7] (fun i wr => ∃ k : Nat, k ≤ 2 ∧ i = .int .i64 k ∧ Hid (Below W.heap.size W wr) ∧ Hid ((0 < k → a.ok = true) ∧ (1 < k → b.ok = true))) (fun i _ => 2 - (intOf i).toNat)
  case atStart => exact ⟨0, Nat.zero_le _, rfl, Below.refl _ _, fun h => absurd h (by omega), fun h => absurd h (by omega)⟩
  case round =>
    obtain ⟨k, hk, rfl, HW, HV⟩ := hrel
    by_cases hlt : k < 2
    · obtain ⟨x, hx⟩ : ∃ x : Va, x = (if k = 0 then a else b) := ⟨_, rfl⟩
      have HX := Lib.hid hx
      have HXS : Hid (x.t.size ≤ maxLen) := by show _ ≤ _; rw [hx]; split; exact HA.out; exact HB.out
      obtain ⟨q0, q1, q2, q3⟩ : wr.cell? ⟨g, k * 4, none⟩ = some (.int .i64 x.k) ∧ wr.cell? ⟨g, k * 4 + 1, none⟩ = some (.int .i64 x.n) ∧ wr.cell? ⟨g, k * 4 + 2, none⟩ = some (.string x.t) ∧ wr.cell? ⟨g, k * 4 + 3, none⟩ = some (.int .i64 x.r) := by
        have h := H8.out.below HW.out HG.out
        rcases Nat.lt_or_ge k 1 with h1 | h1
        · obtain rfl : k = 0 := by omega
          rw [if_pos rfl] at hx
          subst hx
          exact h.1
        · obtain rfl : k = 1 := by omega
          rw [if_neg (by decide)] at hx
          subst hx
          exact h.2
      obtain ⟨v, hv⟩ : ∃ v, x.ok = v := ⟨_, rfl⟩
      have HVX : Hid (validV x.k x.n x.t x.r = v) := hv
      have HC := Lib.hid (one_newV wr 25 #[.int .i64 x.k, .int .i64 x.n, .string x.t, .int .i64 x.r])
      have b0 : (0 : Int) ≤ (k : Int) := by omega
      have b1 : (k : Int) < 2 := by omega
      have HOK : Hid (x.ok = v) := hv
      clear hx hv
      cases v
      · have HF : Hid (P = false) := by
          show _ = _
          rw [← HP.out]
          have h1 := HOK.out
          rw [HX.out] at h1
          by_cases h0 : k = 0
          · rw [if_pos h0] at h1; rw [h1]; rfl
          · rw [if_neg h0] at h1; rw [h1, Bool.and_false]
        go_wp2_with (go_at_call 25; obtain ⟨g0, g1, g2⟩ := HC.out _ rfl; have HQ := impl_ValidValue_any x.k x.n x.t x.r _ HXS.out (HT.out.go (HW.out.trans (g1.mono HW.out.size))).1; refine Calls.mono HQ ?_; clear HQ; rintro e w1 ⟨rfl, hb⟩; rw [HVX.out]; have HW1 : Hid (Below W.heap.size W w1) := (HW.out.trans (g1.mono HW.out.size)).trans (hb.mono (Nat.le_trans HW.out.size g1.size)); clear hb g0 g1 g2)
        go_ret
        exact ⟨by rw [HF.out]; rfl, HW1.out⟩
      · have HNX : Hid ((0 < k + 1 → a.ok = true) ∧ (1 < k + 1 → b.ok = true)) := by
          have h1 := HOK.out
          rw [HX.out] at h1
          by_cases h0 : k = 0
          · rw [if_pos h0] at h1; exact ⟨fun _ => h1, fun h => by omega⟩
          · rw [if_neg h0] at h1; exact ⟨fun _ => HV.out.1 (by omega), fun _ => h1⟩
        go_wp2_with (go_at_call 25; obtain ⟨g0, g1, g2⟩ := HC.out _ rfl; have HQ := impl_ValidValue_any x.k x.n x.t x.r _ HXS.out (HT.out.go (HW.out.trans (g1.mono HW.out.size))).1; refine Calls.mono HQ ?_; clear HQ; rintro e w1 ⟨rfl, hb⟩; rw [HVX.out]; have HW1 : Hid (Below W.heap.size W w1) := (HW.out.trans (g1.mono HW.out.size)).trans (hb.mono (Nat.le_trans HW.out.size g1.size)); clear hb g0 g1 g2)
        go_roundw
        case rel => exact ⟨k + 1, by omega, by go_num, HW1, HNX⟩
        case measure => first | (simp [intOf]; done) | (simp [intOf]; omega)
    · have HTT : Hid (P = true) := by
        show _ = _
        rw [← HP.out, HV.out.1 (by omega), HV.out.2 (by omega)]
        rfl
      have l2 : ¬ (k : Int) < 2 := by omega
      go_wp2_with fail
      go_ret
      exact ⟨by rw [HTT.out]; rfl, HW.out⟩

/-- Four cells of a value. -/
abbrev C4 (w : World) (g : Nat) (a : Va) : Prop := w.cell? ⟨g, 0, none⟩ = some (.int .i64 a.k) ∧ w.cell? ⟨g, 1, none⟩ = some (.int .i64 a.n) ∧ w.cell? ⟨g, 2, none⟩ = some (.string a.t) ∧ w.cell? ⟨g, 3, none⟩ = some (.int .i64 a.r)
theorem C4.below {w w' : World} {g B : Nat} {a : Va} (h : C4 w g a) (hb : Below B w w') (hg : g < B) : C4 w' g a :=
  ⟨(hb.cell (p := ⟨g, 0, none⟩) hg).trans h.1, (hb.cell (p := ⟨g, 1, none⟩) hg).trans h.2.1, (hb.cell (p := ⟨g, 2, none⟩) hg).trans h.2.2.1, (hb.cell (p := ⟨g, 3, none⟩) hg).trans h.2.2.2⟩
/-- Two boxes. -/
theorem two_newV (W : World) (T : TypeId) (a b : Va) : ∀ X, X = (W.alloc (.cells #[.int .i64 a.k, .int .i64 a.n, .string a.t, .int .i64 a.r] T)).alloc (.cells #[.int .i64 b.k, .int .i64 b.n, .string b.t, .int .i64 b.r] T) →
    C4 X W.heap.size a ∧ C4 X (W.heap.size + 1) b ∧ Below W.heap.size W X ∧ X.heap.size = W.heap.size + 2 := fun X e => by
  subst e
  refine ⟨⟨?_, ?_, ?_, ?_⟩, ⟨?_, ?_, ?_, ?_⟩, ((Below.refl _ _).alloc (Nat.le_refl _) _).alloc (by simp) _, by simp⟩ <;> simp
end Go.Proofs.YtpjjpfjnjhahcaaGreatDoor
