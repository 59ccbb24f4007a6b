/- laws.eqNamed, laws.eqNamedS where both are the same. No condition. -/
import Derived.Test.YtjeiiljdhnmofaaDoorNmsTo
namespace Go.Proofs.YtjeiiljdhnmofaaDoor
open Go Go.RowKit

set_option maxHeartbeats 1000000 in
set_option maxRecDepth 100000 in
theorem eqNamed_same (d : Nat) (x : Nm) (A A' : Option Addr) (n n' c c' : Nat) (W : World) (ho : NmV W 0 W.heap.size d x A n) (ho' : NmV W 0 W.heap.size d x A' n') :
    Calls Tryd.prog 58 #[x.ag A n c, x.ag A' n' c'] W fun e w' => e = .returned (.bool true) ∧ Below W.heap.size W w' := by
  obtain ⟨nm, k, m, t, ks⟩ := x
  obtain rfl : n = n' := ho.2.2.len.1.symm.trans ho'.2.2.len.1
  have HQ := Lib.hid (fun X (hX : Below W.heap.size W X) => eqPattern_same d (.node k m t ks) A A' n c c' X ((show PtV W 0 W.heap.size d (.node k m t ks) A n from ho.2).go hX) ((show PtV W 0 W.heap.size d (.node k m t ks) A' n from ho'.2).go hX))
  clear ho ho'
  have HC := Lib.hid (two_new W 78 #[.string nm, .int .i64 k, .int .i64 m, .string t, .slice A n c] #[.string nm, .int .i64 k, .int .i64 m, .string t, .slice A' n c'])
  show Calls Tryd.prog 58 #[.agg #[.string nm, .int .i64 k, .int .i64 m, .string t, .slice A n c], .agg #[.string nm, .int .i64 k, .int .i64 m, .string t, .slice A' n c']] W _
  go_enter Tryd.func58, Tryd.ntmps58
  go_wp2_with (go_at_call 14; obtain ⟨g0, g1, g2, g3⟩ := HC.out _ rfl; refine Calls.mono (HQ.out _ g2) ?_; clear HQ; rintro e w1 ⟨rfl, hb⟩; have HB1 := Lib.hid (g2.trans (hb.mono g2.size)); clear g0 g1 g2 g3 hb)
  all_goals go_ret
  all_goals exact ⟨rfl, HB1.out⟩

/-- Two in two blocks, and their Kids. -/
def TwoNm (wr : World) (d b b' p p' : Nat) (x y : Nm) (A A' : Option Addr) (n n' c c' : Nat) (w : World) : Prop := NmAt w b p x A n c ∧ NmAt w b' p' y A' n' c' ∧ NmV w 0 w.heap.size d x A n ∧ NmV w 0 w.heap.size d y A' n' ∧ Below wr.heap.size wr w ∧ b < w.heap.size ∧ b' < w.heap.size
theorem TwoNm.grow {wr : World} {d b b' p p' : Nat} {x y : Nm} {A A' : Option Addr} {n n' c c' : Nat} {w w' : World} (h : TwoNm wr d b b' p p' x y A A' n n' c c' w) (hb : Below w.heap.size w w') : TwoNm wr d b b' p p' x y A A' n n' c c' w' :=
  ⟨h.1.below hb h.2.2.2.2.2.1, h.2.1.below hb h.2.2.2.2.2.2, h.2.2.1.go hb, h.2.2.2.1.go hb, h.2.2.2.2.1.trans (hb.mono h.2.2.2.2.1.size), Nat.lt_of_lt_of_le h.2.2.2.2.2.1 hb.size, Nat.lt_of_lt_of_le h.2.2.2.2.2.2 hb.size⟩
/-- .. cell by cell, as the walk of a region asks it. -/
abbrev FlatNm (wr : World) (d b b' p p' : Nat) (x y : Nm) (A A' : Option Addr) (n n' c c' : Nat) (w : World) : Prop := (w.cell? ⟨b, p, none⟩ = some (.string x.name) ∧ w.cell? ⟨b, p + 1, none⟩ = some (.int .i64 x.pt.k) ∧ w.cell? ⟨b, p + 2, none⟩ = some (.int .i64 x.pt.n) ∧ w.cell? ⟨b, p + 3, none⟩ = some (.string x.pt.t) ∧ w.cell? ⟨b, p + 4, none⟩ = some (.slice A n c)) ∧ (w.cell? ⟨b', p', none⟩ = some (.string y.name) ∧ w.cell? ⟨b', p' + 1, none⟩ = some (.int .i64 y.pt.k) ∧ w.cell? ⟨b', p' + 2, none⟩ = some (.int .i64 y.pt.n) ∧ w.cell? ⟨b', p' + 3, none⟩ = some (.string y.pt.t) ∧ w.cell? ⟨b', p' + 4, none⟩ = some (.slice A' n' c')) ∧ TwoNm wr d b b' p p' x y A A' n n' c c' w
theorem TwoNm.flat {wr : World} {d b b' p p' : Nat} {x y : Nm} {A A' : Option Addr} {n n' c c' : Nat} {w : World} (h : TwoNm wr d b b' p p' x y A A' n n' c c' w) : FlatNm wr d b b' p p' x y A A' n n' c c' w := ⟨h.1, h.2.1, h⟩
theorem TwoNm.drew {wr : World} {d b b' p p' : Nat} {x y : Nm} {A A' : Option Addr} {n n' c c' : Nat} (h : TwoNm wr d b b' p p' x y A A' n n' c c' wr) : TwoNm wr d b b' p p' x y A A' n n' c c' wr.drew := h.grow (Below.refl _ _).drew

set_option maxHeartbeats 1000000 in
set_option maxRecDepth 100000 in
theorem eqNamedS_same (d : Nat) (A A' : Option Addr) (n c c' : Nat) (xs : List Nm) (W : World) (ha : NmI W 0 W.heap.size d A n xs) (hb : NmI W 0 W.heap.size d A' n xs) :
    Calls Tryd.prog 23 #[.slice A n c, .slice A' n c'] W fun e w' => e = .returned (.bool true) ∧ Below W.heap.size W w' := by
  have HA := Lib.hid ha
  have HB := Lib.hid hb
  have hn := ha.2.1
  unfold maxLen at hn
  clear ha hb
  go_enter Tryd.func23, Tryd.ntmps23
  go_wp2
  go_loopw [5] (fun i wr => ∃ k : Nat, k ≤ n ∧ i = .int .i64 k ∧ Hid (Below W.heap.size W wr)) (fun i _ => n - (intOf i).toNat)
  case atStart => exact ⟨0, Nat.zero_le _, rfl, Below.refl _ _⟩
  case round =>
    obtain ⟨k, hk, rfl, HW⟩ := hrel
    by_cases hlt : k < n
    · obtain ⟨b, off, x, A1, n1, c1, rfl, _, hg, hx, _, h1, hv1⟩ := (HA.out.go HW.out).at_ hlt
      obtain ⟨b', off', x', A2, n2, c2, rfl, _, hg', hx', _, h2, hv2⟩ := (HB.out.go HW.out).at_ hlt
      obtain rfl : x = x' := Option.some.inj (hx.symm.trans hx')
      have H0 := Lib.hid (show TwoNm wr d b b' (off + k * 5) (off' + k * 5) x x A1 A2 n1 n2 c1 c2 wr from ⟨h1, h2, hv1, hv2, Below.refl _ _, hg, hg'⟩)
      have b0 : (0 : Int) ≤ (k : Int) := by omega
      have b1 : (k : Int) < (n : Int) := by omega
      clear h1 h2 hv1 hv2 hx hx' hg hg'
      go_wp2_with fail
      go_region_held3 (fun w' => FlatNm wr d b b' (off + k * 5) (off' + k * 5) x x A1 A2 n1 n2 c1 c2 w')
        (first | exact H0.out.drew.flat | exact (TwoNm.grow H0.out.drew hb).flat | go_keep)
        ((go_at_call 58; have HS := H0.out.drew; have HQ := eqNamed_same d x A1 A2 n1 n2 c1 c2 _ HS.2.2.1 HS.2.2.2.1; refine Calls.mono HQ ?_; clear HQ; rintro e w1 ⟨rfl, hb⟩))
      go_wp2_with fail
      go_split_ands
      have h2 : TwoNm wr d b b' (off + k * 5) (off' + k * 5) x x A1 A2 n1 n2 c1 c2 _ := ‹_›
      go_roundw
      case rel => exact ⟨k + 1, by omega, by go_num, HW.out.trans (h2.2.2.2.2.1.mono HW.out.size)⟩
      case measure => simp [intOf]; omega
    · go_wp2_with fail
      go_ret
      exact ⟨rfl, HW.out⟩
end Go.Proofs.YtjeiiljdhnmofaaDoor
