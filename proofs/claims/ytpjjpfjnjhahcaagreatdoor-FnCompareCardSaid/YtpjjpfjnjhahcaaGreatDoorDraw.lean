/- Contracts of the model's draws: next, pick, one, text: that they return, within their bounds, and turn nothing but the source of choices. -/
import Derived.Test.YtpjjpfjnjhahcaaGreatDoorChecked
import Derived.WalkKit
import Derived.WalkLawsBesides
import Derived.Lib.Hide
import Derived.Below
import Derived.Deep.QuietTactic
import Derived.BigQuiet
import Derived.IntWalk
import Derived.Laws.Bits64b
namespace Go.Proofs.YtpjjpfjnjhahcaaGreatDoor
open Go Go.RowKit

theorem and_255 (E : Int) (h0 : 0 ≤ E) (h1 : E ≤ 18446744073709551615) : bits BinOp.and IntKind.u64 E 255 = E % 256 := by
  have h := bits_and_u64_nat E.toNat 255 (by omega) (by omega)
  rw [show (255 : Nat) = 2 ^ 8 - 1 from rfl, Nat.and_two_pow_sub_one_eq_mod, Int.toNat_of_nonneg h0] at h
  have h2 : ((E.toNat % 2 ^ 8 : Nat) : Int) = E % 256 := by omega
  exact h.trans h2
theorem draw_bd (y : Int) : 0 ≤ wrap64 (bits BinOp.and IntKind.u64 (IntKind.u64.wrap y / 1099511627776) 255) ∧ wrap64 (bits BinOp.and IntKind.u64 (IntKind.u64.wrap y / 1099511627776) 255) ≤ 255 := by
  have hy : 0 ≤ IntKind.u64.wrap y ∧ IntKind.u64.wrap y ≤ 18446744073709551615 := by rw [IntKind.wrap_u64]; omega
  generalize IntKind.u64.wrap y = z at hy
  rw [and_255 (z / 1099511627776) (by omega) (by omega), ← IntWalk.i64_left, IntWalk.i64_in _ (by omega)]
  omega

/-- Bytes that lie below block g. -/
def Code (w : World) (g : Nat) (A : Option Addr) (n : Nat) : Prop :=
  0 < n → ∃ b off, A = some ⟨b, off, none⟩ ∧ b < g ∧ ∀ j, j < n → ∃ x : Int, w.cell? ⟨b, off + j, none⟩ = some (.int .u8 x) ∧ 0 ≤ x ∧ x ≤ 255
theorem Code.below {w w' : World} {g n : Nat} {A : Option Addr} (h : Code w g A n) (hb : Below g w w') : Code w' g A n := fun hn => by
  obtain ⟨b, off, e, hg, hc⟩ := h hn
  refine ⟨b, off, e, hg, fun j hj => ?_⟩
  obtain ⟨x, hx, r⟩ := hc j hj
  exact ⟨x, (hb.cell (p := ⟨b, off + j, none⟩) hg).trans hx, r⟩
/-- Block g is a source of choices that has made k of them. -/
def Src (w : World) (g k : Nat) : Prop := ∃ A n c, ∃ sd : Int, n ≤ 1048576 ∧ w.heap[g]? = some (.cells #[.slice A n c, .int .i64 k, .int .u64 sd] 53 (0, 0)) ∧ Code w g A n

theorem blk_set {w : World} {g : Nat} {t : TypeId} {cs : Array Value} (h : w.heap[g]? = some (.cells cs t (0, 0))) (i : Nat) (u : Value) : (w.setCell ⟨g, i, none⟩ u).heap[g]? = some (.cells (cs.setIfInBounds i u) t (0, 0)) := by
  simp [World.setCell, Array.getElem?_modify, h]
theorem src_next {W : World} {g k n c q : Nat} {A : Option Addr} {sd : Int} (hn : n ≤ 1048576) (hh : W.heap[g]? = some (.cells #[.slice A n c, .int .i64 k, .int .u64 sd] 53 (0, 0))) (hc : Code W g A n) (sd' : Int) (d : Nat) :
    Src ((((W.drewN d).setCell ⟨g, 1, none⟩ (.int .i64 ((k : Int) + 1))).setCell ⟨g, 2, none⟩ (.int .u64 sd')).drewN q) g (k + 1) ∧ W.grownBy ((((W.drewN d).setCell ⟨g, 1, none⟩ (.int .i64 ((k : Int) + 1))).setCell ⟨g, 2, none⟩ (.int .u64 sd')).drewN q) (some g) := by
  have hg : g < W.heap.size := by
    rcases Nat.lt_or_ge g W.heap.size with h | h
    · exact h
    · rw [Array.getElem?_eq_none h] at hh; cases hh
  have hb : Below g W ((((W.drewN d).setCell ⟨g, 1, none⟩ (.int .i64 ((k : Int) + 1))).setCell ⟨g, 2, none⟩ (.int .u64 sd')).drewN q) :=
    below_drewN (((below_drewN (Below.refl g W) d).setCell (Nat.le_refl _) _).setCell (Nat.le_refl _) _) q
  have ho : W.grownBy ((((W.drewN d).setCell ⟨g, 1, none⟩ (.int .i64 ((k : Int) + 1))).setCell ⟨g, 2, none⟩ (.int .u64 sd')).drewN q) (some g) := by
    refine ⟨rfl, rfl, rfl, by show W.heap.size ≤ _; simp [World.setCell, World.drewN], fun j hj hne => ?_⟩
    have hj' : j ≠ g := fun e => hne (by rw [e])
    exact (Below.heap_setCell _ _ _ j hj').trans (Below.heap_setCell (W.drewN d) _ _ j hj')
  refine ⟨⟨A, n, c, sd', hn, ?_, hc.below hb⟩, ho⟩
  have h1 : (W.drewN d).heap[g]? = some (.cells #[.slice A n c, .int .i64 k, .int .u64 sd] 53 (0, 0)) := hh
  have h2 := blk_set (blk_set h1 1 (.int .i64 ((k : Int) + 1))) 2 (.int .u64 sd')
  have e : ((k : Int) + 1) = ((k + 1 : Nat) : Int) := by omega
  rw [e] at h2 ⊢
  exact h2

set_option maxHeartbeats 2000000 in
set_option maxRecDepth 100000 in
theorem next_any (g k : Nat) (W : World) (hs : Src W g k) (hk : k ≤ 1000000000) :
    Calls Tryz.prog 21 #[.pointer (some ⟨g, 0, none⟩)] W fun e w' => (∃ x : Int, e = .returned (.int .i64 x) ∧ 0 ≤ x ∧ x ≤ 255) ∧ Src w' g (k + 1) ∧ W.grownBy w' (some g) := by
  obtain ⟨A, n, c, sd, hn, hh, hcode⟩ := hs
  have h0 : W.cell? ⟨g, 0, none⟩ = some (.slice A n c) := cell_of_row W g 0 _ _ (0, 0) hh
  have h1 : W.cell? ⟨g, 1, none⟩ = some (.int .i64 k) := cell_of_row W g 1 _ _ (0, 0) hh
  have h2 : W.cell? ⟨g, 2, none⟩ = some (.int .u64 sd) := cell_of_row W g 2 _ _ (0, 0) hh
  have f1 : W.frozen? ⟨g, 1, none⟩ = false := by simp [World.frozen?, hh]
  have f2 : W.frozen? ⟨g, 2, none⟩ = false := by simp [World.frozen?, hh]
  have HH := Lib.hid hh
  have HCode := Lib.hid hcode
  clear hh hcode
  by_cases hlt : k < n
  · obtain ⟨b, off, rfl, hbg, hc⟩ := HCode.out (by omega)
    obtain ⟨x, hx, hx0, hx1⟩ := hc k hlt
    clear hc
    have hd : decide ((k : Int) < (n : Int)) = true := by simp; omega
    have b0 : (0 : Int) ≤ (k : Int) := by omega
    have b1 : (k : Int) < (n : Int) := by omega
    go_enter Tryz.func21, Tryz.ntmps21
    go_wp2_with fail
    go_quiet (fail)
    go_wp2_with fail
    go_quiet (fail)
    go_wp2_with fail
    go_quiet (fail)
    go_wp2_with fail
    go_ret
    exact ⟨⟨x, rfl, hx0, hx1⟩, src_next hn HH.out HCode.out _ _⟩
  · have hd : decide ((k : Int) < (n : Int)) = false := by simp; omega
    have hd2 : decide ((k : Int) + 1 ≤ (n : Int)) = false := by simp; omega
    have b0 : (0 : Int) ≤ (k : Int) := by omega
    go_enter Tryz.func21, Tryz.ntmps21
    go_wp2_with fail
    go_quiet (fail)
    go_wp2_with fail
    go_quiet (fail)
    go_wp2_with fail
    go_ret
    exact ⟨⟨_, rfl, draw_bd _⟩, src_next hn HH.out HCode.out _ _⟩

/-- A number came back, and the source has made some choices more. -/
def Drew (P : Int → Prop) (g k : Nat) (W : World) (e : Ending) (w' : World) : Prop := ∃ (r : Int) (k' : Nat), e = .returned (.int .i64 r) ∧ P r ∧ k' ≤ k + 2 ∧ Src w' g k' ∧ W.grownBy w' (some g)
theorem next_drew (g k : Nat) (W : World) (hs : Src W g k) (hk : k ≤ 1000000000) :
    Calls Tryz.prog 21 #[.pointer (some ⟨g, 0, none⟩)] W fun e w' => ∃ x : Int, e = .returned (.int .i64 x) ∧ Hid (0 ≤ x ∧ x ≤ 255 ∧ Src w' g (k + 1) ∧ W.grownBy w' (some g)) :=
  (next_any g k W hs hk).mono fun _ _ ⟨⟨x, he, h0, h1⟩, h2, h3⟩ => ⟨x, he, h0, h1, h2, h3⟩

set_option maxHeartbeats 1000000 in
theorem pick_any (g k : Nat) (n : Int) (W : World) (hs : Src W g k) (hk : k ≤ 1000000) (hn : n ≤ 200) :
    Calls Tryz.prog 9 #[.pointer (some ⟨g, 0, none⟩), .int .i64 n] W (Drew (fun r => 0 ≤ r ∧ (r < n ∨ r = 0)) g k W) := by
  have HS := Lib.hid hs
  have HK := Lib.hid hk
  clear hs hk
  by_cases h1 : n ≤ 1
  · go_enter Tryz.func9, Tryz.ntmps9
    go_wp2_with fail
    go_ret
    exact ⟨0, k, rfl, ⟨by omega, .inr rfl⟩, by omega, HS.out, World.grownBy.refl W _⟩
  · have h2 : 2 ≤ n := by omega
    have d1 : decide (n ≤ 1) = false := by simp; omega
    have d2 : decide (200 < n) = false := by simp; omega
    clear h1
    go_enter Tryz.func9, Tryz.ntmps9
    go_wp2_with (go_at_call 21; refine (next_drew _ _ _ HS.out (by have := HK.out; omega)).mono ?_; rintro e w1 ⟨x, rfl, hx⟩; have hx0 := hx.out.1; have hx1 := hx.out.2.1)
    go_ret
    obtain ⟨_, _, h3, h4⟩ := hx.out
    exact ⟨_, k + 1, rfl, ⟨Int.emod_nonneg _ (by omega), .inl (Int.emod_lt_of_pos _ (by omega))⟩, by omega, h3, h4⟩
theorem one_any (g k : Nat) (n : Int) (W : World) (hs : Src W g k) (hk : k ≤ 1000000) (hn : n ≤ 200) :
    Calls Tryz.prog 10 #[.pointer (some ⟨g, 0, none⟩), .int .i64 n] W fun e w' => ∃ (b : Bool) (k' : Nat), e = .returned (.bool b) ∧ Hid (k' ≤ k + 2 ∧ Src w' g k' ∧ W.grownBy w' (some g)) := by
  have HS := Lib.hid hs
  have HK := Lib.hid hk
  have HN := Lib.hid hn
  clear hs hk hn
  go_enter Tryz.func10, Tryz.ntmps10
  go_wp2_with (go_at_call 9; refine (pick_any _ _ _ _ HS.out HK.out HN.out).mono ?_; rintro e w1 ⟨r, k', rfl, hr, hk', hs', hb'⟩; have F : Hid (k' ≤ k + 2 ∧ Src w1 g k' ∧ W.grownBy w1 (some g)) := ⟨hk', hs', hb'⟩; clear hr hk' hs' hb')
  go_ret
  exact ⟨_, k', rfl, F⟩

theorem text_any (g k b c : Nat) (xs : List ByteArray) (W : World) (hs : Src W g k) (hk : k ≤ 1000000) (h0 : 0 < xs.length) (h1 : xs.length ≤ 200) (hb : b ≠ g)
    (hx : ∀ (j : Nat) (x : ByteArray), xs[j]? = some x → W.cell? ⟨b, j, none⟩ = some (.string x)) :
    Calls Tryz.prog 23 #[.pointer (some ⟨g, 0, none⟩), .slice (some ⟨b, 0, none⟩) xs.length c] W fun e w' => ∃ (x : ByteArray) (k' : Nat), e = .returned (.string x) ∧ Hid (x ∈ xs ∧ k' ≤ k + 2 ∧ Src w' g k' ∧ W.grownBy w' (some g)) := by
  have HS := Lib.hid hs
  have HK := Lib.hid hk
  have HX := Lib.hid hx
  have HB := Lib.hid hb
  have HN : Hid ((xs.length : Int) ≤ 200) := by show _ ≤ _; omega
  clear hs hk hx hb
  go_enter Tryz.func23, Tryz.ntmps23
  go_wp2_with (go_at_call 9; refine (pick_any _ _ _ _ HS.out HK.out HN.out).mono ?_; rintro e w1 ⟨r, k', rfl, hr, hk', hs', hb'⟩; have hr0 := hr.1; have hr1 : r < (xs.length : Int) := (by have := hr.2; omega); have hl : r.toNat < xs.length := (by omega); have hc := hb'.cell (HX.out r.toNat _ (List.getElem?_eq_getElem hl)) (by simpa using HB.out); have F : Hid (k' ≤ k + 2 ∧ Src w1 g k' ∧ W.grownBy w1 (some g)) := ⟨hk', hs', hb'⟩; have HM : Hid (xs[r.toNat] ∈ xs) := List.getElem_mem hl; generalize xs[r.toNat] = x at hc HM; clear hr hk' hs' hb')
  go_ret
  exact ⟨x, k', rfl, HM.out, F.out⟩

theorem l00From_any (A : Option Addr) (n c : Nat) (W : World) (hn : n ≤ 1048576) (hc : Code W W.heap.size A n) :
    Calls Tryz.prog 8 #[.slice A n c] W fun e w' => e = .returned (.pointer (some ⟨W.heap.size, 0, none⟩)) ∧ Src w' W.heap.size 0 ∧ Below W.heap.size W w' := by
  go_enter Tryz.func8, Tryz.ntmps8
  go_wp2_with fail
  go_ret
  have hb : Below W.heap.size W (W.alloc (.cells #[.slice A n c, .int .i64 0, .int .u64 0] 53)) := (Below.refl _ _).alloc (Nat.le_refl _) _
  exact ⟨rfl, ⟨A, n, c, 0, hn, heap_alloc_new W _, hc.below hb⟩, hb⟩

theorem c2Long_any (A : Option Addr) (n c : Nat) (W : World) (hn : n ≤ 9223372036854775807) :
    Calls Tryz.prog 4 #[.slice A n c] W fun e w' => e = .returned (.bool (decide (1048576 < (n : Int)))) ∧ W = w' := by
  go_enter Tryz.func4, Tryz.ntmps4
  go_wp2_with fail
  all_goals go_ret
  all_goals exact ⟨rfl, rfl⟩
end Go.Proofs.YtpjjpfjnjhahcaaGreatDoor
