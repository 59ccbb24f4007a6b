/- laws.eqValue, laws.eqValueS where both are the same. No condition. -/
import Derived.Test.YtbdmanadmckjjaaDoorVls
import Derived.Deep.QuietTactic
import Derived.Deep.RegionHeld3
namespace Go.Proofs.YtbdmanadmckjjaaDoor
open Go Go.RowKit

theorem eqValue_same (k n : Int) (t : ByteArray) (r : Int) (W : World) :
    Calls Tryd.prog 49 #[.agg #[.int .i64 k, .int .i64 n, .string t, .int .i64 r], .agg #[.int .i64 k, .int .i64 n, .string t, .int .i64 r]] W fun e w' => e = .returned (.bool true) ∧ Below W.heap.size W w' := by
  go_enter Tryd.func49, Tryd.ntmps49
  go_wp2
  all_goals go_ret
  all_goals exact ⟨rfl, by repeat (first | exact Below.refl _ _ | refine Below.alloc ?_ (by first | (simp; done) | (simp; omega)) _)⟩

/-- Two values in two blocks. -/
abbrev Two4 (w : World) (b b' o o' : Nat) (xk xn : Int) (xt : ByteArray) (xr yk yn : Int) (yt : ByteArray) (yr : Int) : Prop :=
  (w.cell? ⟨b, o, none⟩ = some (.int .i64 xk) ∧ w.cell? ⟨b, o + 1, none⟩ = some (.int .i64 xn) ∧ w.cell? ⟨b, o + 2, none⟩ = some (.string xt) ∧ w.cell? ⟨b, o + 3, none⟩ = some (.int .i64 xr)) ∧
  (w.cell? ⟨b', o', none⟩ = some (.int .i64 yk) ∧ w.cell? ⟨b', o' + 1, none⟩ = some (.int .i64 yn) ∧ w.cell? ⟨b', o' + 2, none⟩ = some (.string yt) ∧ w.cell? ⟨b', o' + 3, none⟩ = some (.int .i64 yr))
theorem two4_keep {wr wx w1 : World} {b b' o o' : Nat} {xk xn : Int} {xt : ByteArray} {xr yk yn : Int} {yt : ByteArray} {yr : Int} (hg : b < wr.heap.size) (hg' : b' < wr.heap.size) (h : Two4 wx b b' o o' xk xn xt xr yk yn yt yr ∧ Below wr.heap.size wr wx) (hb : Below wx.heap.size wx w1) :
    Two4 w1 b b' o o' xk xn xt xr yk yn yt yr ∧ Below wr.heap.size wr w1 := by
  have l := Nat.lt_of_lt_of_le hg h.2.size
  have l' := Nat.lt_of_lt_of_le hg' h.2.size
  have a := V4o.below (x := ⟨xk, xn, xt, xr⟩) h.1.1 hb l
  have b := V4o.below (x := ⟨yk, yn, yt, yr⟩) h.1.2 hb l'
  exact ⟨⟨a, b⟩, h.2.trans (hb.mono h.2.size)⟩

set_option maxHeartbeats 1000000 in
set_option maxRecDepth 100000 in
theorem eqValueS_same (A A' : Option Addr) (n c c' : Nat) (xs : List Vl) (W : World) (ha : VI W W.heap.size A n xs) (hb : VI W W.heap.size A' n xs) :
    Calls Tryd.prog 25 #[.slice A n c, .slice A' n c'] W fun e w' => e = .returned (.bool true) ∧ Below W.heap.size W w' := by
  have HA := Lib.hid ha
  have HB := Lib.hid hb
  have hn := ha.2.1
  unfold maxLen at hn
  clear ha hb
  go_enter Tryd.func25, Tryd.ntmps25
  go_wp2
  go_loopw [5] (fun i wr => ∃ k : Nat, k ≤ n ∧ i = .int .i64 k ∧ Hid (Below W.heap.size W wr)) (fun i _ => n - (intOf i).toNat)
  case atStart => exact ⟨0, Nat.zero_le _, rfl, Below.refl _ _⟩
  case round =>
    obtain ⟨k, hk, rfl, HW⟩ := hrel
    by_cases hlt : k < n
    · obtain ⟨b, off, x, rfl, hg, hx, h1, _⟩ := HA.out.at_ hlt
      obtain ⟨b', off', x', rfl, hg', hx', h2, _⟩ := HB.out.at_ hlt
      obtain rfl : x = x' := Option.some.inj (hx.symm.trans hx')
      obtain ⟨p0, p1, p2, p3⟩ := h1.below HW.out hg
      obtain ⟨q0, q1, q2, q3⟩ := h2.below HW.out hg'
      obtain ⟨xk, xn, xt, xr⟩ := x
      dsimp only at p0 p1 p2 p3 q0 q1 q2 q3
      have b0 : (0 : Int) ≤ (k : Int) := by omega
      have b1 : (k : Int) < (n : Int) := by omega
      clear h1 h2 hx hx'
      have HG : Hid (b < wr.heap.size) := Nat.lt_of_lt_of_le hg HW.out.size
      have HG' : Hid (b' < wr.heap.size) := Nat.lt_of_lt_of_le hg' HW.out.size
      clear hg hg'
      go_wp2_with fail
      go_region_held3 (fun w' => Two4 w' b b' (off + k * 4) (off' + k * 4) xk xn xt xr xk xn xt xr ∧ Below wr.heap.size wr w')
        (first | (exact ⟨⟨⟨p0, p1, p2, p3⟩, ⟨q0, q1, q2, q3⟩⟩, (Below.refl _ _).drew⟩) | (go_split_ands; exact two4_keep HG.out HG'.out ⟨⟨⟨by assumption, by assumption, by assumption, by assumption⟩, ⟨by assumption, by assumption, by assumption, by assumption⟩⟩, by assumption⟩ hb) | go_keep)
        ((go_at_call 49; refine (eqValue_same _ _ _ _ _).mono ?_; rintro e w1 ⟨rfl, hb⟩))
      go_wp2_with fail
      go_split_ands
      go_roundw
      case rel => exact ⟨k + 1, by omega, by go_num, HW.out.trans (Below.mono (by assumption) HW.out.size)⟩
      case measure => simp [intOf]; omega
    · go_wp2_with fail
      go_ret
      exact ⟨rfl, HW.out⟩
end Go.Proofs.YtbdmanadmckjjaaDoor
