/- Contracts of the model's draws: among, l06Name, pick of a large number. No condition. -/
import Derived.Test.YtpjjpfjnjhahcaaGreatDoorDrawW
namespace Go.Proofs.YtpjjpfjnjhahcaaGreatDoor
open Go Go.RowKit

set_option maxHeartbeats 1000000 in
theorem pick_big (g k : Nat) (n : Int) (W : World) (hs : Src W g k) (hk : k ≤ 1000000) (hn : 200 < n) (hn2 : n ≤ 1000000) :
    Calls Tryz.prog 9 #[.pointer (some ⟨g, 0, none⟩), .int .i64 n] W (Drew (fun r => 0 ≤ r ∧ (r < n ∨ r = 0)) g k W) := by
  have HS := Lib.hid hs
  have HK := Lib.hid hk
  clear hs hk
  have d1 : decide (n ≤ 1) = false := by simp; omega
  have d2 : decide (200 < n) = true := by simp; omega
  have h1 : ¬ n ≤ 1 := by omega
  go_enter Tryz.func9, Tryz.ntmps9
  have tk1 : True := trivial
  go_wp2_with (first
    | (go_at_call 21; have tk := tk1; refine (next_drew _ _ _ HS.out (by have := HK.out; omega)).mono ?_; rintro e w1 ⟨x, rfl, hx⟩; have hx0 := hx.out.1; have hx1 := hx.out.2.1; have HX := hx; have hw : wrap64 (x * 256) = x * 256 := (by unfold wrap64; omega); clear hx tk tk1)
    | (go_at_call 21; refine (next_drew _ _ _ HX.out.2.2.1 (by have := HK.out; omega)).mono ?_; rintro e w2 ⟨y, rfl, hy⟩; have hy0 := hy.out.1; have hy1 := hy.out.2.1; have HY := hy; have hw2 : wrap64 (x * 256 + y) = x * 256 + y := (by unfold wrap64; omega); clear hy))
  go_ret
  exact ⟨_, k + 1 + 1, rfl, ⟨Int.emod_nonneg _ (by omega), .inl (Int.emod_lt_of_pos _ (by omega))⟩, by omega, HY.out.2.2.1, draw_transT HX.out.2.2.2 HY.out.2.2.2⟩

theorem among_any (g k b c : Nat) (xs : List Int) (W : World) (hs : Src W g k) (hk : k ≤ 1000000) (h0 : 0 < xs.length) (h1 : xs.length ≤ 200) (hb : b ≠ g)
    (hx : ∀ (j : Nat) (x : Int), xs[j]? = some x → W.cell? ⟨b, j, none⟩ = some (.int .i64 x)) :
    Calls Tryz.prog 11 #[.pointer (some ⟨g, 0, none⟩), .slice (some ⟨b, 0, none⟩) xs.length c] W fun e w' => ∃ (x : Int) (k' : Nat), e = .returned (.int .i64 x) ∧ Hid (k' ≤ k + 2 ∧ Src w' g k' ∧ W.grownBy w' (some g)) := by
  have HS := Lib.hid hs
  have HK := Lib.hid hk
  have HX := Lib.hid hx
  have HB := Lib.hid hb
  have HN : Hid ((xs.length : Int) ≤ 200) := by show _ ≤ _; omega
  clear hs hk hx hb
  go_enter Tryz.func11, Tryz.ntmps11
  go_wp2_with (go_at_call 9; refine (pick_any _ _ _ _ HS.out HK.out HN.out).mono ?_; rintro e w1 ⟨r, k', rfl, hr, hk', hs', hb'⟩; have hr0 := hr.1; have hr1 : r < (xs.length : Int) := (by have := hr.2; omega); have hl : r.toNat < xs.length := (by omega); have hc := hb'.cell (HX.out r.toNat _ (List.getElem?_eq_getElem hl)) (by simpa using HB.out); have F : Hid (k' ≤ k + 2 ∧ Src w1 g k' ∧ W.grownBy w1 (some g)) := ⟨hk', hs', hb'⟩; generalize xs[r.toNat] = x at hc; clear hr hk' hs' hb')
  go_ret
  exact ⟨x, k', rfl, F.out⟩
/-- The slice of numbers that is laid for a choice. -/
theorem among_of (g k c : Nat) (cs : Array Value) (n : Nat) (xs : List Int) (w : World) (hs : Src w g k) (hk : k ≤ 1000000) (hcs : cs = (xs.map (Value.int .i64)).toArray) (hn : n = xs.length) (h0 : 0 < xs.length) (h1 : xs.length ≤ 200) :
    Calls Tryz.prog 11 #[.pointer (some ⟨g, 0, none⟩), .slice (some ⟨w.heap.size, 0, none⟩) n c] (w.alloc (.cells cs 2)) fun e w' => ∃ x, e = .returned (.int .i64 x) ∧ ∃ k', Hid (k' ≤ k + 2 ∧ Src w' g k' ∧ w.grownBy w' (some g)) := by
  subst hn
  refine (among_any g k w.heap.size c xs _ (hs.alloc _) hk h0 h1 (by have := hs.lt; omega) (fun j x hx => ?_)).mono ?_
  · subst hcs
    have := (MapKept.heap_alloc w (.cells (xs.map (Value.int .i64)).toArray 2)).1
    rw [cell_of_row _ w.heap.size j _ _ (0, 0) this, List.getElem?_toArray, List.getElem?_map, hx]
    rfl
  · rintro e w' ⟨x, k', rfl, hp⟩
    obtain ⟨h1, h2, h3⟩ := hp.out
    exact ⟨x, rfl, k', Lib.hid ⟨h1, h2, draw_transT (World.grownBy_alloc w _ _) h3⟩⟩
def names8 : List ByteArray := [⟨#[65]⟩, ⟨#[66]⟩, ⟨#[88]⟩, ⟨#[79, 85, 84]⟩, ⟨#[110, 49]⟩, ⟨#[70, 111, 111, 95, 50]⟩, ⟨#[65, 66, 67, 68, 69, 70, 71, 72, 73, 74, 75, 76]⟩, ⟨#[90, 57]⟩]
theorem names8_size : ∀ x ∈ names8, x.size ≤ 12 := by decide
theorem l06Name_any (g k : Nat) (W : World) (hs : Src W g k) (hk : k ≤ 900) :
    Calls Tryz.prog 46 #[.pointer (some ⟨g, 0, none⟩)] W fun e w' => ∃ x, e = .returned (.string x) ∧ ∃ k', Hid (x.size ≤ 12 ∧ k' ≤ k + 2 ∧ Src w' g k' ∧ W.grownBy w' (some g)) := by
  have HS := Lib.hid hs
  have HK := Lib.hid hk
  clear hs hk
  go_enter Tryz.func46, Tryz.ntmps46
  go_wp2_with (go_at_call 23; refine (text_of g k 8 _ _ names8 W HS.out (by have := HK.out; omega) rfl rfl (by decide) (by decide)).mono ?_; rintro e w2 ⟨x, rfl, k2, hq⟩)
  go_ret
  obtain ⟨h1, h2, h3, h4⟩ := hq.out
  exact ⟨x, rfl, k2, Lib.hid ⟨names8_size x h1, h2, h3, h4⟩⟩
end Go.Proofs.YtpjjpfjnjhahcaaGreatDoor
