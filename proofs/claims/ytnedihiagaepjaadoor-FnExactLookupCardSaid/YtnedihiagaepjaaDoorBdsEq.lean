/- laws.eqBinding, laws.eqBindingS where both are the same. No condition. -/
import Derived.Test.YtnedihiagaepjaaDoorBds
import Derived.Test.YtnedihiagaepjaaDoorValEq
namespace Go.Proofs.YtnedihiagaepjaaDoor
open Go Go.RowKit

set_option maxRecDepth 100000 in
theorem eqBinding_same (x : Bd) (W : World) :
    Calls Tryd.prog 37 #[x.ag, x.ag] W fun e w' => e = .returned (.bool true) ∧ Below W.heap.size W w' := by
  obtain ⟨x0, x1, x2, x3, x4⟩ := x
  show Calls Tryd.prog 37 #[.agg #[.string x0, .int .i64 x1, .int .i64 x2, .string x3, .int .i64 x4], .agg #[.string x0, .int .i64 x1, .int .i64 x2, .string x3, .int .i64 x4]] W _
  have HC := Lib.hid (two_new W 63 #[.string x0, .int .i64 x1, .int .i64 x2, .string x3, .int .i64 x4] #[.string x0, .int .i64 x1, .int .i64 x2, .string x3, .int .i64 x4])
  go_enter Tryd.func37, Tryd.ntmps37
  go_wp2_with (go_at_call 9; obtain ⟨_, _, g2, _⟩ := HC.out _ rfl; refine (eqValue_same _ _ _ _ _).mono ?_; rintro e w1 ⟨rfl, hb⟩; have HB1 := Lib.hid (g2.trans (hb.mono g2.size)); clear g2 hb)
  all_goals go_ret
  all_goals exact ⟨rfl, HB1.out⟩

/-- Two of them in two blocks. -/
abbrev TwoBd (w : World) (b b' o o' : Nat) (x0 : ByteArray) (x1 : Int) (x2 : Int) (x3 : ByteArray) (x4 : Int) (y0 : ByteArray) (y1 : Int) (y2 : Int) (y3 : ByteArray) (y4 : Int) : Prop :=
  (w.cell? ⟨b, o, none⟩ = some (.string x0) ∧ w.cell? ⟨b, o + 1, none⟩ = some (.int .i64 x1) ∧ w.cell? ⟨b, o + 2, none⟩ = some (.int .i64 x2) ∧ w.cell? ⟨b, o + 3, none⟩ = some (.string x3) ∧ w.cell? ⟨b, o + 4, none⟩ = some (.int .i64 x4)) ∧ (w.cell? ⟨b', o', none⟩ = some (.string y0) ∧ w.cell? ⟨b', o' + 1, none⟩ = some (.int .i64 y1) ∧ w.cell? ⟨b', o' + 2, none⟩ = some (.int .i64 y2) ∧ w.cell? ⟨b', o' + 3, none⟩ = some (.string y3) ∧ w.cell? ⟨b', o' + 4, none⟩ = some (.int .i64 y4))
theorem twoBd_keep {wr wx w1 : World} {b b' o o' : Nat} {x0 : ByteArray} {x1 : Int} {x2 : Int} {x3 : ByteArray} {x4 : Int} {y0 : ByteArray} {y1 : Int} {y2 : Int} {y3 : ByteArray} {y4 : Int} (hg : b < wr.heap.size) (hg' : b' < wr.heap.size) (h : TwoBd wx b b' o o' x0 x1 x2 x3 x4 y0 y1 y2 y3 y4 ∧ Below wr.heap.size wr wx) (hb : Below wx.heap.size wx w1) :
    TwoBd w1 b b' o o' x0 x1 x2 x3 x4 y0 y1 y2 y3 y4 ∧ Below wr.heap.size wr w1 := by
  have l := Nat.lt_of_lt_of_le hg h.2.size
  have l' := Nat.lt_of_lt_of_le hg' h.2.size
  have a := BdAt.below (x := ⟨x0, x1, x2, x3, x4⟩) h.1.1 hb l
  have b := BdAt.below (x := ⟨y0, y1, y2, y3, y4⟩) h.1.2 hb l'
  exact ⟨⟨a, b⟩, h.2.trans (hb.mono h.2.size)⟩

set_option maxHeartbeats 1000000 in
set_option maxRecDepth 100000 in
theorem eqBindingS_same (A A' : Option Addr) (n c c' : Nat) (xs : List Bd) (W : World) (ha : BdI W W.heap.size A n xs) (hb : BdI W W.heap.size A' n xs) :
    Calls Tryd.prog 15 #[.slice A n c, .slice A' n c'] W fun e w' => e = .returned (.bool true) ∧ Below W.heap.size W w' := by
  have HA := Lib.hid ha
  have HB := Lib.hid hb
  have hn := ha.2.1
  unfold maxLen at hn
  clear ha hb
  go_enter Tryd.func15, Tryd.ntmps15
  go_wp2
  go_loopw [5] (fun i wr => ∃ k : Nat, k ≤ n ∧ i = .int .i64 k ∧ Hid (Below W.heap.size W wr)) (fun i _ => n - (intOf i).toNat)
  case atStart => exact ⟨0, Nat.zero_le _, rfl, Below.refl _ _⟩
  case round =>
    obtain ⟨k, hk, rfl, HW⟩ := hrel
    by_cases hlt : k < n
    · obtain ⟨b, off, x, rfl, hg, hx, h1, _⟩ := HA.out.at_ hlt
      obtain ⟨b', off', x', rfl, hg', hx', h2, _⟩ := HB.out.at_ hlt
      obtain rfl : x = x' := Option.some.inj (hx.symm.trans hx')
      obtain ⟨p0, p1, p2, p3, p4⟩ := h1.below HW.out hg
      obtain ⟨q0, q1, q2, q3, q4⟩ := h2.below HW.out hg'
      obtain ⟨x0, x1, x2, x3, x4⟩ := x
      dsimp only at p0 p1 p2 p3 p4 q0 q1 q2 q3 q4
      have b0 : (0 : Int) ≤ (k : Int) := by omega
      have b1 : (k : Int) < (n : Int) := by omega
      clear h1 h2 hx hx'
      have HG : Hid (b < wr.heap.size) := Nat.lt_of_lt_of_le hg HW.out.size
      have HG' : Hid (b' < wr.heap.size) := Nat.lt_of_lt_of_le hg' HW.out.size
      clear hg hg'
      go_wp2_with fail
      go_region_held3 (fun w' => TwoBd w' b b' (off + k * 5) (off' + k * 5) x0 x1 x2 x3 x4 x0 x1 x2 x3 x4 ∧ Below wr.heap.size wr w')
        (first | (exact ⟨⟨⟨p0, p1, p2, p3, p4⟩, ⟨q0, q1, q2, q3, q4⟩⟩, (Below.refl _ _).drew⟩) | (go_split_ands; exact twoBd_keep HG.out HG'.out ⟨⟨⟨by assumption, by assumption, by assumption, by assumption, by assumption⟩, ⟨by assumption, by assumption, by assumption, by assumption, by assumption⟩⟩, by assumption⟩ hb) | go_keep)
        ((go_at_call 37; refine (eqBinding_same ⟨x0, x1, x2, x3, x4⟩ _).mono ?_; rintro e w1 ⟨rfl, hb⟩))
      go_wp2_with fail
      go_split_ands
      go_roundw
      case rel => exact ⟨k + 1, by omega, by go_num, HW.out.trans (Below.mono (by assumption) HW.out.size)⟩
      case measure => simp [intOf]; omega
    · go_wp2_with fail
      go_ret
      exact ⟨rfl, HW.out⟩
end Go.Proofs.YtnedihiagaepjaaDoor
