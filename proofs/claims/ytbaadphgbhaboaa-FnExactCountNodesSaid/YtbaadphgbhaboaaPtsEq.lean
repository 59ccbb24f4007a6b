/- eqPattern, eqPatternS of the laws where both are the same. No condition. -/
import Derived.Test.YtbaadphgbhaboaaPtsTo
namespace Go.Proofs.Ytbaadphgbhaboaa
open Go Go.RowKit

/-- The contract of eqPatternS at two slices. -/
def EqPtS (A A' : Option Addr) (n c c' : Nat) (W : World) : Prop := ∀ w, Below W.heap.size W w → Calls Try.prog 39 #[.slice A n c, .slice A' n c'] w fun e w' => e = .returned (.bool true) ∧ Below w.heap.size w w'

set_option maxHeartbeats 1000000 in
set_option maxRecDepth 100000 in
theorem eqPattern_of (x : Pt) (A A' : Option Addr) (n c c' : Nat) (W : World) (hk : EqPtS A A' n c c' W) :
    Calls Try.prog 13 #[x.ag A n c, x.ag A' n c'] W fun e w' => e = .returned (.bool true) ∧ Below W.heap.size W w' := by
  obtain ⟨k, m, t, ks⟩ := x
  have HK := Lib.hid hk
  clear hk
  have HC := Lib.hid (two_new W 29 #[.int .i64 k, .int .i64 m, .string t, .slice A n c] #[.int .i64 k, .int .i64 m, .string t, .slice A' n c'])
  show Calls Try.prog 13 #[.agg #[.int .i64 k, .int .i64 m, .string t, .slice A n c], .agg #[.int .i64 k, .int .i64 m, .string t, .slice A' n c']] W _
  go_enter Try.func13, Try.ntmps13
  go_wp2_with (go_at_call 39; obtain ⟨g0, g1, g2, g3⟩ := HC.out _ rfl; refine Calls.mono (HK.out _ g2) ?_; rintro e w1 ⟨rfl, hb⟩; have HB1 := Lib.hid (g2.trans (hb.mono g2.size)); clear g0 g1 g2 g3 hb HK)
  all_goals go_ret
  all_goals exact ⟨rfl, HB1.out⟩

/-- Two in two blocks, and their Kids. -/
def TwoPt (wr : World) (d d' : Nat) (b b' p p' : Nat) (x y : Pt) (A A' : Option Addr) (n n' c c' : Nat) (w : World) : Prop := PtAt w b p x A n c ∧ PtAt w b' p' y A' n' c' ∧ PtV w 0 w.heap.size d x A n ∧ PtV w 0 w.heap.size d' y A' n' ∧ Below wr.heap.size wr w ∧ b < w.heap.size ∧ b' < w.heap.size
abbrev FlatPt (wr : World) (d d' : Nat) (b b' p p' : Nat) (x y : Pt) (A A' : Option Addr) (n n' c c' : Nat) (w : World) : Prop := (w.cell? ⟨b, p, none⟩ = some (.int .i64 x.k) ∧ w.cell? ⟨b, p + 1, none⟩ = some (.int .i64 x.n) ∧ w.cell? ⟨b, p + 2, none⟩ = some (.string x.t) ∧ w.cell? ⟨b, p + 3, none⟩ = some (.slice A n c)) ∧ (w.cell? ⟨b', p', none⟩ = some (.int .i64 y.k) ∧ w.cell? ⟨b', p' + 1, none⟩ = some (.int .i64 y.n) ∧ w.cell? ⟨b', p' + 2, none⟩ = some (.string y.t) ∧ w.cell? ⟨b', p' + 3, none⟩ = some (.slice A' n' c')) ∧ TwoPt wr d d' b b' p p' x y A A' n n' c c' w
section
variable {wr w w' : World} {d d' : Nat} {b b' p p' : Nat} {x y : Pt} {A A' : Option Addr} {n n' c c' : Nat}
theorem TwoPt.grow (h : TwoPt wr d d' b b' p p' x y A A' n n' c c' w) (hb : Below w.heap.size w w') : TwoPt wr d d' b b' p p' x y A A' n n' c c' w' :=
  ⟨h.1.below hb h.2.2.2.2.2.1, h.2.1.below hb h.2.2.2.2.2.2, h.2.2.1.go hb, h.2.2.2.1.go hb, h.2.2.2.2.1.trans (hb.mono h.2.2.2.2.1.size), Nat.lt_of_lt_of_le h.2.2.2.2.2.1 hb.size, Nat.lt_of_lt_of_le h.2.2.2.2.2.2 hb.size⟩
theorem TwoPt.flat (h : TwoPt wr d d' b b' p p' x y A A' n n' c c' w) : FlatPt wr d d' b b' p p' x y A A' n n' c c' w := ⟨h.1, h.2.1, h⟩
theorem TwoPt.drew (h : TwoPt wr d d' b b' p p' x y A A' n n' c c' wr) : TwoPt wr d d' b b' p p' x y A A' n n' c c' wr.drew := h.grow (Below.refl _ _).drew
end

set_option maxHeartbeats 2000000 in
set_option maxRecDepth 100000 in
theorem eqPatternS_same : ∀ (d : Nat) (A A' : Option Addr) (n c c' : Nat) (xs : List Pt) (W : World), PtD W 0 W.heap.size d A n xs → PtD W 0 W.heap.size d A' n xs → EqPtS A A' n c c' W := by
  intro d
  induction d with
  | zero =>
    intro A A' n c c' xs w0 ha hb W hw
    obtain ⟨rfl, rfl⟩ := ha
    go_enter Try.func39, Try.ntmps39
    go_wp2
    go_loopw [5] (fun i wr => i = .int .i64 0 ∧ Hid (Below W.heap.size W wr)) (fun _ _ => 0)
    case atStart => exact ⟨rfl, Below.refl _ _⟩
    case round =>
      obtain ⟨rfl, HW⟩ := hrel
      go_wp2_with fail
      go_ret
      exact ⟨rfl, HW.out⟩
  | succ d ih =>
    intro A A' n c c' xs w0 ha hb W hw
    have HIH := Lib.hid ih
    have HA := Lib.hid (ha.go hw)
    have HB := Lib.hid (hb.go hw)
    have hn := ha.2.1
    unfold maxLen at hn
    clear ha hb hw ih
    go_enter Try.func39, Try.ntmps39
    go_wp2
    go_loopw [5] (fun i wr => ∃ k : Nat, k ≤ n ∧ i = .int .i64 k ∧ Hid (Below W.heap.size W wr)) (fun i _ => n - (intOf i).toNat)
    case atStart => exact ⟨0, Nat.zero_le _, rfl, Below.refl _ _⟩
    case round =>
      obtain ⟨k, hk, rfl, HW⟩ := hrel
      by_cases hlt : k < n
      · obtain ⟨b, off, x, A1, n1, c1, rfl, _, hg, hx, _, h1, hs1, hv1⟩ := (HA.out.go HW.out).at_ hlt
        obtain ⟨b', off', x', A2, n2, c2, rfl, _, hg', hx', _, h2, hs2, hv2⟩ := (HB.out.go HW.out).at_ hlt
        obtain rfl : x = x' := Option.some.inj (hx.symm.trans hx')
        obtain rfl : n1 = n2 := hv1.len.1.symm.trans hv2.len.1
        have H0 := Lib.hid (show TwoPt wr d d b b' (off + k * 4) (off' + k * 4) x x A1 A2 n1 n1 c1 c2 wr from ⟨h1, h2, ⟨hs1, hv1⟩, ⟨hs2, hv2⟩, Below.refl _ _, hg, hg'⟩)
        have b0 : (0 : Int) ≤ (k : Int) := by omega
        have b1 : (k : Int) < (n : Int) := by omega
        clear h1 h2 hv1 hv2 hx hx' hg hg' hs1 hs2
        go_wp2_with fail
        go_region_held3 (fun w' => FlatPt wr d d b b' (off + k * 4) (off' + k * 4) x x A1 A2 n1 n1 c1 c2 w')
          (first | exact H0.out.drew.flat | exact (TwoPt.grow H0.out.drew hb).flat | go_keep)
          ((go_at_call 13; have HS := H0.out.drew; refine Calls.mono (eqPattern_of x A1 A2 n1 c1 c2 _ (HIH.out A1 A2 n1 c1 c2 x.kids _ HS.2.2.1.2 HS.2.2.2.1.2)) ?_; rintro e w1 ⟨rfl, hb⟩))
        go_wp2_with fail
        go_split_ands
        have h2 : TwoPt wr d d b b' (off + k * 4) (off' + k * 4) x x A1 A2 n1 n1 c1 c2 _ := ‹_›
        go_roundw
        case rel => exact ⟨k + 1, by omega, by go_num, HW.out.trans (h2.2.2.2.2.1.mono HW.out.size)⟩
        case measure => simp [intOf]; omega
      · go_wp2_with fail
        go_ret
        exact ⟨rfl, HW.out⟩
theorem eqPattern_same (d : Nat) (x : Pt) (A A' : Option Addr) (n c c' : Nat) (W : World) (h : PtV W 0 W.heap.size d x A n) (h' : PtV W 0 W.heap.size d x A' n) :
    Calls Try.prog 13 #[x.ag A n c, x.ag A' n c'] W fun e w' => e = .returned (.bool true) ∧ Below W.heap.size W w' :=
  eqPattern_of x A A' n c c' W (eqPatternS_same d A A' n c c' x.kids W h.2 h'.2)
end Go.Proofs.Ytbaadphgbhaboaa
