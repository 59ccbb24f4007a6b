/- Contracts of the model's draws of a value: l06Draw, l10Value. No condition. -/
import Derived.Test.YtpjjpfjnjhahcaaGreatDoorDrawV
import Derived.Test.YtpjjpfjnjhahcaaGreatDoorRw
import Derived.Deep.CutBlock
import Derived.Deep.RegionHeld3
import Derived.Laws.Rows
namespace Go.Proofs.YtpjjpfjnjhahcaaGreatDoor
open Go Go.RowKit

def pats5 : List ByteArray := [⟨#[114, 101, 109]⟩, ⟨#[97, 114, 98]⟩, ⟨#[108, 101, 110, 40, 51, 41]⟩, ⟨#[99, 97, 116, 40, 34, 97, 34, 44, 114, 101, 109, 41]⟩, ⟨#[97, 108, 116, 40, 34, 120, 34, 44, 115, 112, 97, 110, 40, 34, 97, 98, 34, 41, 41]⟩]
theorem pats5_size : ∀ x ∈ pats5, x.size ≤ 40 := by decide
def texts15 : List ByteArray := [⟨#[]⟩, ⟨#[48]⟩, ⟨#[55]⟩, ⟨#[45, 55]⟩, ⟨#[43, 55]⟩, ⟨#[48, 48, 55]⟩, ⟨#[49, 48, 48, 48, 48, 48, 48, 48, 48, 48, 48, 48, 48]⟩, ⟨#[45, 49, 48, 48, 48, 48, 48, 48, 48, 48, 48, 48, 48, 49]⟩, ⟨#[57, 57, 57, 57, 57, 57, 57, 57, 57, 57, 57, 57, 57]⟩, ⟨#[48, 48, 48, 48, 48, 48, 48, 48, 48, 48, 48, 48, 48, 48]⟩, ⟨#[43]⟩, ⟨#[45]⟩, ⟨#[49, 32]⟩, ⟨#[97]⟩, ⟨#[49, 50, 120]⟩]
theorem texts15_size : ∀ x ∈ texts15, x.size ≤ 40 := by decide
/-- A value that is being made lies in block b; the result's block, the source. -/
def DV (W : World) (g b m : Nat) (k n : Int) (t : ByteArray) (r : Int) (w : World) : Prop :=
  RW 25 w b #[.int .i64 k, .int .i64 n, .string t, .int .i64 r] ∧ RW 25 w W.heap.size #[.int .i64 0, .int .i64 0, .string ⟨#[]⟩, .int .i64 0] ∧ Src w g m ∧ W.grownBy w (some g) ∧ W.heap.size < b ∧ g < W.heap.size
section
variable {W w w' : World} {g b m m' : Nat} {k n : Int} {t : ByteArray} {r : Int}
theorem DV.draw (h : DV W g b m k n t r w) (hg : w.grownBy w' (some g)) (hs : Src w' g m') : DV W g b m' k n t r w' := by
  obtain ⟨h1, h2, h3, h4, h5, h6⟩ := h
  exact ⟨(hg.block b h1.lt (fun e => by have := Option.some.inj e; omega)).trans h1, (hg.block W.heap.size h2.lt (fun e => by have := Option.some.inj e; omega)).trans h2, hs, draw_transT h4 hg, h5, h6⟩
theorem grown_set (w : World) (b i : Nat) (u : Value) : w.grownBy (w.setCell ⟨b, i, none⟩ u) (some b) := ⟨rfl, rfl, rfl, by simp [World.setCell], fun k _ hne => Below.heap_setCell _ _ _ _ (fun e => hne (by rw [e]))⟩
theorem DV.set (h : DV W g b m k n t r w) (i : Nat) (u : Value) {k' n' : Int} {t' : ByteArray} {r' : Int} (e : (#[.int .i64 k, .int .i64 n, .string t, .int .i64 r] : Array Value).setIfInBounds i u = #[.int .i64 k', .int .i64 n', .string t', .int .i64 r']) : DV W g b m k' n' t' r' (w.setCell ⟨b, i, none⟩ u) := by
  obtain ⟨h1, h2, h3, h4, h5, h6⟩ := h
  refine ⟨?_, h2.other (by dsimp only; omega) u, h3.grown (grown_set w b i u) (fun c hc => by have := Option.some.inj hc; omega), grow_own h4 (grown_set w b i u) (fun c hc => by have := Option.some.inj hc; omega), h5, h6⟩
  have := h1.set_ i u
  rw [e] at this
  exact this
theorem DV.drew (h : DV W g b m k n t r w) : DV W g b m k n t r w.drew :=
  h.draw ⟨rfl, rfl, rfl, Nat.le_refl _, fun _ _ _ => rfl⟩ (h.2.2.1.grown (row := none) ⟨rfl, rfl, rfl, Nat.le_refl _, fun _ _ _ => rfl⟩ (fun _ e => by cases e))
theorem DV.fin (h : DV W g b m k n t r w) (u0 u1 u2 u3 : Value) : RW 25 ((((w.setCell ⟨W.heap.size, 0, none⟩ u0).setCell ⟨W.heap.size, 1, none⟩ u1).setCell ⟨W.heap.size, 2, none⟩ u2).setCell ⟨W.heap.size, 3, none⟩ u3) W.heap.size #[u0, u1, u2, u3] ∧ Src ((((w.setCell ⟨W.heap.size, 0, none⟩ u0).setCell ⟨W.heap.size, 1, none⟩ u1).setCell ⟨W.heap.size, 2, none⟩ u2).setCell ⟨W.heap.size, 3, none⟩ u3) g m ∧ W.grownBy ((((w.setCell ⟨W.heap.size, 0, none⟩ u0).setCell ⟨W.heap.size, 1, none⟩ u1).setCell ⟨W.heap.size, 2, none⟩ u2).setCell ⟨W.heap.size, 3, none⟩ u3) (some g) := by
  obtain ⟨h1, h2, h3, h4, h5, h6⟩ := h
  have hr : ∀ c : Nat, some W.heap.size = some c → g < c := fun c hc => by have := Option.some.inj hc; omega
  have hl : ∀ c : Nat, some W.heap.size = some c → W.heap.size ≤ c := fun c hc => by have := Option.some.inj hc; omega
  refine ⟨(((h2.set_ 0 u0).set_ 1 u1).set_ 2 u2).set_ 3 u3, ?_, ?_⟩
  · exact (((h3.grown (grown_set w _ 0 u0) hr).grown (grown_set _ _ 1 u1) hr).grown (grown_set _ _ 2 u2) hr).grown (grown_set _ _ 3 u3) hr
  · exact grow_own (grow_own (grow_own (grow_own h4 (grown_set w _ 0 u0) hl) (grown_set _ _ 1 u1) hl) (grown_set _ _ 2 u2) hl) (grown_set _ _ 3 u3) hl
end

set_option maxHeartbeats 8000000 in
set_option maxRecDepth 100000 in
theorem l06Draw_any (g q : Nat) (W : World) (hs : Src W g q) (hq : q ≤ 500) :
    Calls Tryz.prog 22 #[.pointer (some ⟨g, 0, none⟩)] W fun e w' => ∃ k n t r, e = .returned (.agg #[.int .i64 k, .int .i64 n, .string t, .int .i64 r]) ∧ ∃ q', Hid (ByteArray.size t ≤ 300 ∧ q' ≤ q + 60 ∧ Src w' g q' ∧ W.grownBy w' (some g)) := by
  have HS := Lib.hid hs
  have HQ := Lib.hid hq
  have HG := Lib.hid hs.lt
  clear hs hq
  go_enter Tryz.func22, Tryz.ntmps22
  go_upto_block 0 with (go_at_call 9; refine (pick_any g q 8 _ (HS.out.alloc _) (by have := HQ.out; omega) (by decide)).mono ?_; rintro e w1 ⟨x, k', rfl, hr, hk', hs', hb'⟩; have hx0 := hr.1; have hx1 : x < 8 := (by have := hr.2; omega); have HS1 := Lib.hid hs'; have HK1 := Lib.hid hk'; have HB1 := Lib.hid hb'; have hw : wrap64 (1 + x) = 1 + x := (by unfold wrap64; omega); clear hr hk' hs' hb')
  have HD1 : Hid (DV W g w1.heap.size k' (1 + x) 0 ⟨#[]⟩ 0 (w1.alloc (.cells #[.int .i64 (1 + x), .int .i64 0, .string ⟨#[]⟩, .int .i64 0] 25))) := by
    have hz := RW.new W #[.int .i64 0, .int .i64 0, .string ⟨#[]⟩, .int .i64 0] 25
    have hz1 : RW 25 w1 W.heap.size #[.int .i64 0, .int .i64 0, .string ⟨#[]⟩, .int .i64 0] := (HB1.out.block W.heap.size hz.lt (fun e => by have := Option.some.inj e; have := HG.out; omega)).trans hz
    exact ⟨RW.new w1 _ _, hz1.alloc _, HS1.out.alloc _, draw_transT (draw_transT (World.grownBy_alloc W _ _) HB1.out) (World.grownBy_alloc w1 _ _), hz1.lt, HG.out⟩
  obtain ⟨w2, hw2⟩ : ∃ w2, w1.alloc (.cells #[.int .i64 (1 + x), .int .i64 0, .string ⟨#[]⟩, .int .i64 0] 25) = w2 := ⟨_, rfl⟩
  rw [hw2] at HD1 ⊢
  obtain ⟨b, hb⟩ : ∃ b, w1.heap.size = b := ⟨_, rfl⟩
  rw [hb] at HD1 ⊢
  have HK2 : Hid (k' ≤ q + 2) := HK1.out
  clear hw2 hb HB1 HS1 HK1
  go_cut [] from 10 to 41 (fun wx => ∃ k n t r, ∃ q', Hid (DV W g b q' k n t r wx ∧ ByteArray.size t ≤ 60 ∧ q' ≤ q + 30))
  case first =>
    have hx8 : x = 0 ∨ x = 1 ∨ x = 2 ∨ x = 3 ∨ x = 4 ∨ x = 5 ∨ x = 6 ∨ x = 7 := by omega
    clear hx0 hx1 hw
    rcases hx8 with rfl | rfl | rfl | rfl | rfl | rfl | rfl | rfl
    · go_wp2_with (go_at_call 24; refine (l06Text_any g k' w2 HD1.out.2.2.1 (by have := HK2.out; have := HQ.out; omega)).mono ?_; rintro e w3 ⟨s, rfl, q3, h⟩; obtain ⟨h1, h2, h3, h4⟩ := h.out; have HD3 := Lib.hid (HD1.out.draw h4 h3); have HK3 := Lib.hid h2; have HT3 : Hid (ByteArray.size s ≤ 60) := Nat.le_trans h1 (by decide); have z2 : w3.cell? ⟨b, 2, none⟩ = some (.string ⟨#[]⟩) := HD3.out.1.cell 2; have zf2 : w3.frozen? ⟨b, 2, none⟩ = false := HD3.out.1.frozen 2; clear h h1 h2 h3 h4)
      go_meet
      case rel => exact ⟨_, _, _, _, q3, Lib.hid ⟨HD3.out.set 2 (.string s) rfl, HT3.out, by have := HK2.out; have := HK3.out; omega⟩⟩
    · have tk1 : True := trivial
      go_wp2_with (first
        | (go_at_call 9; have tk := tk1; refine (pick_big g k' 100000 w2 HD1.out.2.2.1 (by have := HK2.out; have := HQ.out; omega) (by decide) (by decide)).mono ?_; rintro e wa ⟨y, qa, rfl, hr, hk, hs, hb⟩; have hy0 := hr.1; have hy1 : y < 100000 := (by have := hr.2; omega); have HDA := Lib.hid (HD1.out.draw hb hs); have HKA := Lib.hid hk; clear hr hk hs hb tk tk1)
        | (go_at_call 9; refine (pick_big g qa 1000 wa HDA.out.2.2.1 (by have := HKA.out; have := HK2.out; have := HQ.out; omega) (by decide) (by decide)).mono ?_; rintro e wb ⟨z, qb, rfl, hr, hk, hs, hb⟩; have HDB := Lib.hid (HDA.out.draw hb hs); have HKB := Lib.hid hk; clear hr hk hs hb)
        | (go_at_call 11; refine (among_of g qb 10 _ _ [0, 1, -1, 7, 42, -300, 1000000000000, -1000000000000, y, wrap64 (-z)] wb HDB.out.2.2.1 (by have := HKB.out; have := HKA.out; have := HK2.out; have := HQ.out; omega) rfl rfl (by simp) (by simp)).mono ?_; rintro e w3 ⟨s, rfl, q3, h⟩; obtain ⟨h1, h2, h3⟩ := h.out; have HD3 := Lib.hid (HDB.out.draw h3 h2); have HK3 : Hid (q3 ≤ k' + 6) := (by have := HKB.out; have := HKA.out; show _ ≤ _; omega); have HT3 : Hid (ByteArray.size ⟨#[]⟩ ≤ 60) := Lib.hid (by decide); have z1 : w3.cell? ⟨b, 1, none⟩ = some (.int .i64 0) := HD3.out.1.cell 1; have zf1 : w3.frozen? ⟨b, 1, none⟩ = false := HD3.out.1.frozen 1; clear h h1 h2 h3))
      go_meet
      case rel => exact ⟨_, _, _, _, q3, Lib.hid ⟨HD3.out.set 1 (.int .i64 s) rfl, HT3.out, by have := HK2.out; have := HK3.out; omega⟩⟩
    · go_wp2_with (go_at_call 23; refine (text_of g k' 5 _ _ pats5 w2 HD1.out.2.2.1 (by have := HK2.out; have := HQ.out; omega) rfl rfl (by decide) (by decide)).mono ?_; rintro e w3 ⟨s, rfl, q3, h⟩; obtain ⟨h1, h2, h3, h4⟩ := h.out; have HD3 := Lib.hid (HD1.out.draw h4 h3); have HK3 : Hid (q3 ≤ k' + 6) := (by show _ ≤ _; omega); have HT3 : Hid (ByteArray.size s ≤ 60) := Nat.le_trans (pats5_size s h1) (by decide); have z2 : w3.cell? ⟨b, 2, none⟩ = some (.string ⟨#[]⟩) := HD3.out.1.cell 2; have zf2 : w3.frozen? ⟨b, 2, none⟩ = false := HD3.out.1.frozen 2; clear h h1 h2 h3 h4)
      go_meet
      case rel => exact ⟨_, _, _, _, q3, Lib.hid ⟨HD3.out.set 2 (.string s) rfl, HT3.out, by have := HK2.out; have := HK3.out; omega⟩⟩
    · go_wp2_with (go_at_call 9; refine (pick_any g k' 9 w2 HD1.out.2.2.1 (by have := HK2.out; have := HQ.out; omega) (by decide)).mono ?_; rintro e w3 ⟨s, q3, rfl, hr, hk, hs, hb⟩; have hs0 := hr.1; have hs1 : s < 9 := (by have := hr.2; omega); have hws : wrap64 (1 + s) = 1 + s := (by unfold wrap64; omega); have HD3 := Lib.hid (HD1.out.draw hb hs); have HK3 : Hid (q3 ≤ k' + 6) := (by show _ ≤ _; omega); have HT3 : Hid (ByteArray.size ⟨#[]⟩ ≤ 60) := Lib.hid (by decide); have z3 : w3.cell? ⟨b, 3, none⟩ = some (.int .i64 0) := HD3.out.1.cell 3; have zf3 : w3.frozen? ⟨b, 3, none⟩ = false := HD3.out.1.frozen 3; clear hr hk hs hb)
      go_meet
      case rel => exact ⟨_, _, _, _, q3, Lib.hid ⟨HD3.out.set 3 (.int .i64 (1 + s)) rfl, HT3.out, by have := HK2.out; have := HK3.out; omega⟩⟩
    · go_wp2_with (go_at_call 9; refine (pick_any g k' 9 w2 HD1.out.2.2.1 (by have := HK2.out; have := HQ.out; omega) (by decide)).mono ?_; rintro e w3 ⟨s, q3, rfl, hr, hk, hs, hb⟩; have hs0 := hr.1; have hs1 : s < 9 := (by have := hr.2; omega); have hws : wrap64 (1 + s) = 1 + s := (by unfold wrap64; omega); have HD3 := Lib.hid (HD1.out.draw hb hs); have HK3 : Hid (q3 ≤ k' + 6) := (by show _ ≤ _; omega); have HT3 : Hid (ByteArray.size ⟨#[]⟩ ≤ 60) := Lib.hid (by decide); have z3 : w3.cell? ⟨b, 3, none⟩ = some (.int .i64 0) := HD3.out.1.cell 3; have zf3 : w3.frozen? ⟨b, 3, none⟩ = false := HD3.out.1.frozen 3; clear hr hk hs hb)
      go_meet
      case rel => exact ⟨_, _, _, _, q3, Lib.hid ⟨HD3.out.set 3 (.int .i64 (1 + s)) rfl, HT3.out, by have := HK2.out; have := HK3.out; omega⟩⟩
    · go_wp2_with (go_at_call 9; refine (pick_any g k' 9 w2 HD1.out.2.2.1 (by have := HK2.out; have := HQ.out; omega) (by decide)).mono ?_; rintro e w3 ⟨s, q3, rfl, hr, hk, hs, hb⟩; have hs0 := hr.1; have hs1 : s < 9 := (by have := hr.2; omega); have hws : wrap64 (1 + s) = 1 + s := (by unfold wrap64; omega); have HD3 := Lib.hid (HD1.out.draw hb hs); have HK3 : Hid (q3 ≤ k' + 6) := (by show _ ≤ _; omega); have HT3 : Hid (ByteArray.size ⟨#[]⟩ ≤ 60) := Lib.hid (by decide); have z3 : w3.cell? ⟨b, 3, none⟩ = some (.int .i64 0) := HD3.out.1.cell 3; have zf3 : w3.frozen? ⟨b, 3, none⟩ = false := HD3.out.1.frozen 3; clear hr hk hs hb)
      go_meet
      case rel => exact ⟨_, _, _, _, q3, Lib.hid ⟨HD3.out.set 3 (.int .i64 (1 + s)) rfl, HT3.out, by have := HK2.out; have := HK3.out; omega⟩⟩
    · go_wp2_with (go_at_call 46; refine (l06Name_any g k' w2 HD1.out.2.2.1 (by have := HK2.out; have := HQ.out; omega)).mono ?_; rintro e w3 ⟨s, rfl, q3, h⟩; obtain ⟨h1, h2, h3, h4⟩ := h.out; have HD3 := Lib.hid (HD1.out.draw h4 h3); have HK3 : Hid (q3 ≤ k' + 6) := (by show _ ≤ _; omega); have HT3 : Hid (ByteArray.size s ≤ 60) := Nat.le_trans h1 (by decide); have z2 : w3.cell? ⟨b, 2, none⟩ = some (.string ⟨#[]⟩) := HD3.out.1.cell 2; have zf2 : w3.frozen? ⟨b, 2, none⟩ = false := HD3.out.1.frozen 2; clear h h1 h2 h3 h4)
      go_meet
      case rel => exact ⟨_, _, _, _, q3, Lib.hid ⟨HD3.out.set 2 (.string s) rfl, HT3.out, by have := HK2.out; have := HK3.out; omega⟩⟩
    · go_wp2_with (go_at_call 46; refine (l06Name_any g k' w2 HD1.out.2.2.1 (by have := HK2.out; have := HQ.out; omega)).mono ?_; rintro e w3 ⟨s, rfl, q3, h⟩; obtain ⟨h1, h2, h3, h4⟩ := h.out; have HD3 := Lib.hid (HD1.out.draw h4 h3); have HK3 : Hid (q3 ≤ k' + 6) := (by show _ ≤ _; omega); have HT3 : Hid (ByteArray.size s ≤ 60) := Nat.le_trans h1 (by decide); have z2 : w3.cell? ⟨b, 2, none⟩ = some (.string ⟨#[]⟩) := HD3.out.1.cell 2; have zf2 : w3.frozen? ⟨b, 2, none⟩ = false := HD3.out.1.frozen 2; clear h h1 h2 h3 h4)
      go_meet
      case rel => exact ⟨_, _, _, _, q3, Lib.hid ⟨HD3.out.set 2 (.string s) rfl, HT3.out, by have := HK2.out; have := HK3.out; omega⟩⟩
  case rest =>
    obtain ⟨k, n, t, r, q2, HC⟩ := hcut
    have HD2 := Lib.hid HC.out.1
    have HT2 := Lib.hid HC.out.2.1
    have HQ2 := Lib.hid HC.out.2.2
    have hne : b ≠ W.heap.size := by have := HD2.out.2.2.2.2.1; omega
    have hne2 : W.heap.size ≠ b := fun e => hne e.symm
    clear HC HD1 HK2 hx0 hx1 hw
    go_upto_if 43 with (go_at_call 10; refine (one_any g q2 12 wc HD2.out.2.2.1 (by have := HQ2.out; have := HQ.out; omega) (by decide)).mono ?_; rintro e w3 ⟨b1, q3, rfl, h⟩; obtain ⟨h1, h2, h3⟩ := h.out; have HD3 := Lib.hid (HD2.out.draw h3 h2); have HQ3 : Hid (q3 ≤ q + 32) := (by have := HQ2.out; show _ ≤ _; omega); have z0 : w3.cell? ⟨b, 0, none⟩ = some (.int .i64 k) := HD3.out.1.cell 0; have zf0 : w3.frozen? ⟨b, 0, none⟩ = false := HD3.out.1.frozen 0; have z1 : w3.cell? ⟨b, 1, none⟩ = some (.int .i64 n) := HD3.out.1.cell 1; have zf1 : w3.frozen? ⟨b, 1, none⟩ = false := HD3.out.1.frozen 1; have z2 : w3.cell? ⟨b, 2, none⟩ = some (.string t) := HD3.out.1.cell 2; have zf2 : w3.frozen? ⟨b, 2, none⟩ = false := HD3.out.1.frozen 2; have z3 : w3.cell? ⟨b, 3, none⟩ = some (.int .i64 r) := HD3.out.1.cell 3; have zf3 : w3.frozen? ⟨b, 3, none⟩ = false := HD3.out.1.frozen 3; have y0 : w3.cell? ⟨W.heap.size, 0, none⟩ = some (.int .i64 0) := HD3.out.2.1.cell 0; have yf0 : w3.frozen? ⟨W.heap.size, 0, none⟩ = false := HD3.out.2.1.frozen 0; have y1 : w3.cell? ⟨W.heap.size, 1, none⟩ = some (.int .i64 0) := HD3.out.2.1.cell 1; have yf1 : w3.frozen? ⟨W.heap.size, 1, none⟩ = false := HD3.out.2.1.frozen 1; have y2 : w3.cell? ⟨W.heap.size, 2, none⟩ = some (.string ⟨#[]⟩) := HD3.out.2.1.cell 2; have yf2 : w3.frozen? ⟨W.heap.size, 2, none⟩ = false := HD3.out.2.1.frozen 2; have y3 : w3.cell? ⟨W.heap.size, 3, none⟩ = some (.int .i64 0) := HD3.out.2.1.cell 3; have yf3 : w3.frozen? ⟨W.heap.size, 3, none⟩ = false := HD3.out.2.1.frozen 3; clear h h1 h2 h3; cases b1)
    rotate_left
    · go_upto_block 1 with (go_at_call 9; refine (pick_any g q3 6 w3 HD3.out.2.2.1 (by have := HQ3.out; have := HQ.out; omega) (by decide)).mono ?_; rintro e w4 ⟨y, q4, rfl, hr, hk, hs, hb⟩; have hy0 := hr.1; have hy1 : y < 6 := (by have := hr.2; omega); have HD4 := Lib.hid (HD3.out.draw hb hs); have HQ4 : Hid (q4 ≤ q + 34) := (by have := HQ3.out; show _ ≤ _; omega); clear hr hk hs hb z0 zf0 y0 yf0 z1 zf1 y1 yf1 z2 zf2 y2 yf2 z3 zf3 y3 yf3; have z0 : w4.cell? ⟨b, 0, none⟩ = some (.int .i64 k) := HD4.out.1.cell 0; have zf0 : w4.frozen? ⟨b, 0, none⟩ = false := HD4.out.1.frozen 0; have z1 : w4.cell? ⟨b, 1, none⟩ = some (.int .i64 n) := HD4.out.1.cell 1; have zf1 : w4.frozen? ⟨b, 1, none⟩ = false := HD4.out.1.frozen 1; have z2 : w4.cell? ⟨b, 2, none⟩ = some (.string t) := HD4.out.1.cell 2; have zf2 : w4.frozen? ⟨b, 2, none⟩ = false := HD4.out.1.frozen 2; have z3 : w4.cell? ⟨b, 3, none⟩ = some (.int .i64 r) := HD4.out.1.cell 3; have zf3 : w4.frozen? ⟨b, 3, none⟩ = false := HD4.out.1.frozen 3; have y0 : w4.cell? ⟨W.heap.size, 0, none⟩ = some (.int .i64 0) := HD4.out.2.1.cell 0; have yf0 : w4.frozen? ⟨W.heap.size, 0, none⟩ = false := HD4.out.2.1.frozen 0; have y1 : w4.cell? ⟨W.heap.size, 1, none⟩ = some (.int .i64 0) := HD4.out.2.1.cell 1; have yf1 : w4.frozen? ⟨W.heap.size, 1, none⟩ = false := HD4.out.2.1.frozen 1; have y2 : w4.cell? ⟨W.heap.size, 2, none⟩ = some (.string ⟨#[]⟩) := HD4.out.2.1.cell 2; have yf2 : w4.frozen? ⟨W.heap.size, 2, none⟩ = false := HD4.out.2.1.frozen 2; have y3 : w4.cell? ⟨W.heap.size, 3, none⟩ = some (.int .i64 0) := HD4.out.2.1.cell 3; have yf3 : w4.frozen? ⟨W.heap.size, 3, none⟩ = false := HD4.out.2.1.frozen 3)
      have hy6 : y = 0 ∨ y = 1 ∨ y = 2 ∨ y = 3 ∨ y = 4 ∨ y = 5 := by omega
      clear hy0 hy1 HD2 HQ2 HQ3 HD3
      go_cut [] from 44 to 82 (fun wx => ∃ k n t r, ∃ q', Hid (DV W g b q' k n t r wx ∧ ByteArray.size t ≤ 300 ∧ q' ≤ q + 58))
      case first =>
        rcases hy6 with rfl | rfl | rfl | rfl | rfl | rfl
        · go_wp2_with (go_at_call 11; refine (among_of g q4 4 _ _ [0, 9, -1, 2] w4 HD4.out.2.2.1 (by have := HQ4.out; have := HQ.out; omega) rfl rfl (by simp) (by simp)).mono ?_; rintro e w5 ⟨s, rfl, q5, h⟩; obtain ⟨h1, h2, h3⟩ := h.out; have HD5 := Lib.hid (HD4.out.draw h3 h2); have HQ5 : Hid (q5 ≤ q + 36) := (by have := HQ4.out; show _ ≤ _; omega); clear h h1 h2 h3; clear z0 zf0 y0 yf0 z1 zf1 y1 yf1 z2 zf2 y2 yf2 z3 zf3 y3 yf3; have z0 : w5.cell? ⟨b, 0, none⟩ = some (.int .i64 k) := HD5.out.1.cell 0; have zf0 : w5.frozen? ⟨b, 0, none⟩ = false := HD5.out.1.frozen 0; have z1 : w5.cell? ⟨b, 1, none⟩ = some (.int .i64 n) := HD5.out.1.cell 1; have zf1 : w5.frozen? ⟨b, 1, none⟩ = false := HD5.out.1.frozen 1; have z2 : w5.cell? ⟨b, 2, none⟩ = some (.string t) := HD5.out.1.cell 2; have zf2 : w5.frozen? ⟨b, 2, none⟩ = false := HD5.out.1.frozen 2; have z3 : w5.cell? ⟨b, 3, none⟩ = some (.int .i64 r) := HD5.out.1.cell 3; have zf3 : w5.frozen? ⟨b, 3, none⟩ = false := HD5.out.1.frozen 3; have y0 : w5.cell? ⟨W.heap.size, 0, none⟩ = some (.int .i64 0) := HD5.out.2.1.cell 0; have yf0 : w5.frozen? ⟨W.heap.size, 0, none⟩ = false := HD5.out.2.1.frozen 0; have y1 : w5.cell? ⟨W.heap.size, 1, none⟩ = some (.int .i64 0) := HD5.out.2.1.cell 1; have yf1 : w5.frozen? ⟨W.heap.size, 1, none⟩ = false := HD5.out.2.1.frozen 1; have y2 : w5.cell? ⟨W.heap.size, 2, none⟩ = some (.string ⟨#[]⟩) := HD5.out.2.1.cell 2; have yf2 : w5.frozen? ⟨W.heap.size, 2, none⟩ = false := HD5.out.2.1.frozen 2; have y3 : w5.cell? ⟨W.heap.size, 3, none⟩ = some (.int .i64 0) := HD5.out.2.1.cell 3; have yf3 : w5.frozen? ⟨W.heap.size, 3, none⟩ = false := HD5.out.2.1.frozen 3)
          go_meet
          case rel => exact ⟨_, _, _, _, q5, Lib.hid ⟨HD5.out.set 0 (.int .i64 s) rfl, by have := HT2.out; omega, by have := HQ5.out; omega⟩⟩
        · go_wp2_with (go_at_call 11; refine (among_of g q4 3 _ _ [1, 1000000000001, -1000000000001] w4 HD4.out.2.2.1 (by have := HQ4.out; have := HQ.out; omega) rfl rfl (by simp) (by simp)).mono ?_; rintro e w5 ⟨s, rfl, q5, h⟩; obtain ⟨h1, h2, h3⟩ := h.out; have HD5 := Lib.hid (HD4.out.draw h3 h2); have HQ5 : Hid (q5 ≤ q + 36) := (by have := HQ4.out; show _ ≤ _; omega); clear h h1 h2 h3; clear z0 zf0 y0 yf0 z1 zf1 y1 yf1 z2 zf2 y2 yf2 z3 zf3 y3 yf3; have z0 : w5.cell? ⟨b, 0, none⟩ = some (.int .i64 k) := HD5.out.1.cell 0; have zf0 : w5.frozen? ⟨b, 0, none⟩ = false := HD5.out.1.frozen 0; have z1 : w5.cell? ⟨b, 1, none⟩ = some (.int .i64 n) := HD5.out.1.cell 1; have zf1 : w5.frozen? ⟨b, 1, none⟩ = false := HD5.out.1.frozen 1; have z2 : w5.cell? ⟨b, 2, none⟩ = some (.string t) := HD5.out.1.cell 2; have zf2 : w5.frozen? ⟨b, 2, none⟩ = false := HD5.out.1.frozen 2; have z3 : w5.cell? ⟨b, 3, none⟩ = some (.int .i64 r) := HD5.out.1.cell 3; have zf3 : w5.frozen? ⟨b, 3, none⟩ = false := HD5.out.1.frozen 3; have y0 : w5.cell? ⟨W.heap.size, 0, none⟩ = some (.int .i64 0) := HD5.out.2.1.cell 0; have yf0 : w5.frozen? ⟨W.heap.size, 0, none⟩ = false := HD5.out.2.1.frozen 0; have y1 : w5.cell? ⟨W.heap.size, 1, none⟩ = some (.int .i64 0) := HD5.out.2.1.cell 1; have yf1 : w5.frozen? ⟨W.heap.size, 1, none⟩ = false := HD5.out.2.1.frozen 1; have y2 : w5.cell? ⟨W.heap.size, 2, none⟩ = some (.string ⟨#[]⟩) := HD5.out.2.1.cell 2; have yf2 : w5.frozen? ⟨W.heap.size, 2, none⟩ = false := HD5.out.2.1.frozen 2; have y3 : w5.cell? ⟨W.heap.size, 3, none⟩ = some (.int .i64 0) := HD5.out.2.1.cell 3; have yf3 : w5.frozen? ⟨W.heap.size, 3, none⟩ = false := HD5.out.2.1.frozen 3)
          go_meet
          case rel => exact ⟨_, _, _, _, q5, Lib.hid ⟨HD5.out.set 1 (.int .i64 s) rfl, by have := HT2.out; omega, by have := HQ5.out; omega⟩⟩
        · go_wp2_with (go_at_call 11; refine (among_of g q4 4 _ _ [-1, 0, 1000000, 1000001] w4 HD4.out.2.2.1 (by have := HQ4.out; have := HQ.out; omega) rfl rfl (by simp) (by simp)).mono ?_; rintro e w5 ⟨s, rfl, q5, h⟩; obtain ⟨h1, h2, h3⟩ := h.out; have HD5 := Lib.hid (HD4.out.draw h3 h2); have HQ5 : Hid (q5 ≤ q + 36) := (by have := HQ4.out; show _ ≤ _; omega); clear h h1 h2 h3; clear z0 zf0 y0 yf0 z1 zf1 y1 yf1 z2 zf2 y2 yf2 z3 zf3 y3 yf3; have z0 : w5.cell? ⟨b, 0, none⟩ = some (.int .i64 k) := HD5.out.1.cell 0; have zf0 : w5.frozen? ⟨b, 0, none⟩ = false := HD5.out.1.frozen 0; have z1 : w5.cell? ⟨b, 1, none⟩ = some (.int .i64 n) := HD5.out.1.cell 1; have zf1 : w5.frozen? ⟨b, 1, none⟩ = false := HD5.out.1.frozen 1; have z2 : w5.cell? ⟨b, 2, none⟩ = some (.string t) := HD5.out.1.cell 2; have zf2 : w5.frozen? ⟨b, 2, none⟩ = false := HD5.out.1.frozen 2; have z3 : w5.cell? ⟨b, 3, none⟩ = some (.int .i64 r) := HD5.out.1.cell 3; have zf3 : w5.frozen? ⟨b, 3, none⟩ = false := HD5.out.1.frozen 3; have y0 : w5.cell? ⟨W.heap.size, 0, none⟩ = some (.int .i64 0) := HD5.out.2.1.cell 0; have yf0 : w5.frozen? ⟨W.heap.size, 0, none⟩ = false := HD5.out.2.1.frozen 0; have y1 : w5.cell? ⟨W.heap.size, 1, none⟩ = some (.int .i64 0) := HD5.out.2.1.cell 1; have yf1 : w5.frozen? ⟨W.heap.size, 1, none⟩ = false := HD5.out.2.1.frozen 1; have y2 : w5.cell? ⟨W.heap.size, 2, none⟩ = some (.string ⟨#[]⟩) := HD5.out.2.1.cell 2; have yf2 : w5.frozen? ⟨W.heap.size, 2, none⟩ = false := HD5.out.2.1.frozen 2; have y3 : w5.cell? ⟨W.heap.size, 3, none⟩ = some (.int .i64 0) := HD5.out.2.1.cell 3; have yf3 : w5.frozen? ⟨W.heap.size, 3, none⟩ = false := HD5.out.2.1.frozen 3)
          go_meet
          case rel => exact ⟨_, _, _, _, q5, Lib.hid ⟨HD5.out.set 3 (.int .i64 s) rfl, by have := HT2.out; omega, by have := HQ5.out; omega⟩⟩
        · have HDD := Lib.hid HD4.out.drew
          clear z0 zf0 y0 yf0 z1 zf1 y1 yf1 z2 zf2 y2 yf2 z3 zf3 y3 yf3; have z0 : w4.drew.cell? ⟨b, 0, none⟩ = some (.int .i64 k) := HDD.out.1.cell 0; have zf0 : w4.drew.frozen? ⟨b, 0, none⟩ = false := HDD.out.1.frozen 0; have z1 : w4.drew.cell? ⟨b, 1, none⟩ = some (.int .i64 n) := HDD.out.1.cell 1; have zf1 : w4.drew.frozen? ⟨b, 1, none⟩ = false := HDD.out.1.frozen 1; have z2 : w4.drew.cell? ⟨b, 2, none⟩ = some (.string t) := HDD.out.1.cell 2; have zf2 : w4.drew.frozen? ⟨b, 2, none⟩ = false := HDD.out.1.frozen 2; have z3 : w4.drew.cell? ⟨b, 3, none⟩ = some (.int .i64 r) := HDD.out.1.cell 3; have zf3 : w4.drew.frozen? ⟨b, 3, none⟩ = false := HDD.out.1.frozen 3; have y0 : w4.drew.cell? ⟨W.heap.size, 0, none⟩ = some (.int .i64 0) := HDD.out.2.1.cell 0; have yf0 : w4.drew.frozen? ⟨W.heap.size, 0, none⟩ = false := HDD.out.2.1.frozen 0; have y1 : w4.drew.cell? ⟨W.heap.size, 1, none⟩ = some (.int .i64 0) := HDD.out.2.1.cell 1; have yf1 : w4.drew.frozen? ⟨W.heap.size, 1, none⟩ = false := HDD.out.2.1.frozen 1; have y2 : w4.drew.cell? ⟨W.heap.size, 2, none⟩ = some (.string ⟨#[]⟩) := HDD.out.2.1.cell 2; have yf2 : w4.drew.frozen? ⟨W.heap.size, 2, none⟩ = false := HDD.out.2.1.frozen 2; have y3 : w4.drew.cell? ⟨W.heap.size, 3, none⟩ = some (.int .i64 0) := HDD.out.2.1.cell 3; have yf3 : w4.drew.frozen? ⟨W.heap.size, 3, none⟩ = false := HDD.out.2.1.frozen 3
          go_wp2_with (fail)
          go_region_with (go_at_call 24; refine (l06Text_any g q4 _ HDD.out.2.2.1 (by have := HQ4.out; have := HQ.out; omega)).mono ?_; rintro e w5 ⟨s, rfl, q5, h⟩; obtain ⟨h1, h2, h3, h4⟩ := h.out; have HD5 := Lib.hid (HDD.out.draw h4 h3); have HQ5 : Hid (q5 ≤ q + 58) := (by have := HQ4.out; show _ ≤ _; omega); have HT5 : Hid (ByteArray.size s ≤ 60) := Nat.le_trans h1 (by decide); clear h h1 h2 h3 h4; clear z0 zf0 y0 yf0 z1 zf1 y1 yf1 z2 zf2 y2 yf2 z3 zf3 y3 yf3; have z0 : w5.cell? ⟨b, 0, none⟩ = some (.int .i64 k) := HD5.out.1.cell 0; have zf0 : w5.frozen? ⟨b, 0, none⟩ = false := HD5.out.1.frozen 0; have z1 : w5.cell? ⟨b, 1, none⟩ = some (.int .i64 n) := HD5.out.1.cell 1; have zf1 : w5.frozen? ⟨b, 1, none⟩ = false := HD5.out.1.frozen 1; have z2 : w5.cell? ⟨b, 2, none⟩ = some (.string t) := HD5.out.1.cell 2; have zf2 : w5.frozen? ⟨b, 2, none⟩ = false := HD5.out.1.frozen 2; have z3 : w5.cell? ⟨b, 3, none⟩ = some (.int .i64 r) := HD5.out.1.cell 3; have zf3 : w5.frozen? ⟨b, 3, none⟩ = false := HD5.out.1.frozen 3; have y0 : w5.cell? ⟨W.heap.size, 0, none⟩ = some (.int .i64 0) := HD5.out.2.1.cell 0; have yf0 : w5.frozen? ⟨W.heap.size, 0, none⟩ = false := HD5.out.2.1.frozen 0; have y1 : w5.cell? ⟨W.heap.size, 1, none⟩ = some (.int .i64 0) := HD5.out.2.1.cell 1; have yf1 : w5.frozen? ⟨W.heap.size, 1, none⟩ = false := HD5.out.2.1.frozen 1; have y2 : w5.cell? ⟨W.heap.size, 2, none⟩ = some (.string ⟨#[]⟩) := HD5.out.2.1.cell 2; have yf2 : w5.frozen? ⟨W.heap.size, 2, none⟩ = false := HD5.out.2.1.frozen 2; have y3 : w5.cell? ⟨W.heap.size, 3, none⟩ = some (.int .i64 0) := HD5.out.2.1.cell 3; have yf3 : w5.frozen? ⟨W.heap.size, 3, none⟩ = false := HD5.out.2.1.frozen 3; have hcc : ¬ 9223372036854775807 < ByteArray.size t + ByteArray.size s := (by have := HT2.out; have := HT5.out; omega))
          all_goals (go_wp2_with fail; go_meet)
          all_goals exact ⟨_, _, _, _, q5, Lib.hid ⟨HD5.out.set 2 (.string (t ++ s)) rfl, by have := HT2.out; have := HT5.out; rw [ByteArray.size_append]; omega, by have := HQ5.out; omega⟩⟩

        · clear z0 zf0 y0 yf0 z1 zf1 y1 yf1 z2 zf2 y2 yf2 z3 zf3 y3 yf3
          go_wp2_with (fail)
          go_loopg [] 202 (fun gk wr => ∃ tt : ByteArray, Hid (DV W g b q4 k n tt r wr ∧ ByteArray.size tt ≤ 300) ∧ Hid (202 ≤ ByteArray.size tt + gk))
          case atStart => exact ⟨t, Lib.hid ⟨HD4.out, by have := HT2.out; omega⟩, Lib.hid (by show 202 ≤ _; omega)⟩
          case round =>
            obtain ⟨tt, HX, HM⟩ := hrel
            have z2 := HX.out.1.1.cell 2
            have zf2 := HX.out.1.1.frozen 2
            by_cases hlt : ByteArray.size tt ≤ 201
            · have d1 : decide ((ByteArray.size tt : Int) ≤ 201) = true := by simp; omega
              have hcc : ¬ 9223372036854775807 < ByteArray.size tt + 11 := by omega
              have hsz : ByteArray.size (tt ++ ⟨#[108, 111, 110, 103, 32, 116, 101, 120, 116, 44, 32]⟩) = ByteArray.size tt + 11 := ByteArray.size_append
              go_wp2_with (fail)
              go_roundg (gk - 1)
              case measure => have := HM.out; omega
              case rel => exact ⟨_, Lib.hid ⟨HX.out.1.set 2 (.string (tt ++ ⟨#[108, 111, 110, 103, 32, 116, 101, 120, 116, 44, 32]⟩)) rfl, by rw [hsz]; omega⟩, Lib.hid (by rw [hsz]; have := HM.out; omega)⟩
            · have d1 : decide ((ByteArray.size tt : Int) ≤ 201) = false := by simp; omega
              go_wp2_with (fail)
              go_meet
              case rel => exact ⟨_, _, _, _, q4, Lib.hid ⟨HX.out.1, HX.out.2, by have := HQ4.out; omega⟩⟩

        · go_wp2_with (fail)
          go_meet
          case rel => exact ⟨_, _, _, _, q4, Lib.hid ⟨HD4.out.set 2 (.string ⟨#[]⟩) rfl, by decide, by have := HQ4.out; omega⟩⟩
      case rest =>
        obtain ⟨k, n, t, r, q5, HC⟩ := hcut
        have HD5 := Lib.hid HC.out.1
        have HT5 := Lib.hid HC.out.2.1
        have HQ5 := Lib.hid HC.out.2.2
        clear HC HD4 HQ4 HT2; clear z0 zf0 y0 yf0 z1 zf1 y1 yf1 z2 zf2 y2 yf2 z3 zf3 y3 yf3; have z0 : wc.cell? ⟨b, 0, none⟩ = some (.int .i64 k) := HD5.out.1.cell 0; have zf0 : wc.frozen? ⟨b, 0, none⟩ = false := HD5.out.1.frozen 0; have z1 : wc.cell? ⟨b, 1, none⟩ = some (.int .i64 n) := HD5.out.1.cell 1; have zf1 : wc.frozen? ⟨b, 1, none⟩ = false := HD5.out.1.frozen 1; have z2 : wc.cell? ⟨b, 2, none⟩ = some (.string t) := HD5.out.1.cell 2; have zf2 : wc.frozen? ⟨b, 2, none⟩ = false := HD5.out.1.frozen 2; have z3 : wc.cell? ⟨b, 3, none⟩ = some (.int .i64 r) := HD5.out.1.cell 3; have zf3 : wc.frozen? ⟨b, 3, none⟩ = false := HD5.out.1.frozen 3; have y0 : wc.cell? ⟨W.heap.size, 0, none⟩ = some (.int .i64 0) := HD5.out.2.1.cell 0; have yf0 : wc.frozen? ⟨W.heap.size, 0, none⟩ = false := HD5.out.2.1.frozen 0; have y1 : wc.cell? ⟨W.heap.size, 1, none⟩ = some (.int .i64 0) := HD5.out.2.1.cell 1; have yf1 : wc.frozen? ⟨W.heap.size, 1, none⟩ = false := HD5.out.2.1.frozen 1; have y2 : wc.cell? ⟨W.heap.size, 2, none⟩ = some (.string ⟨#[]⟩) := HD5.out.2.1.cell 2; have yf2 : wc.frozen? ⟨W.heap.size, 2, none⟩ = false := HD5.out.2.1.frozen 2; have y3 : wc.cell? ⟨W.heap.size, 3, none⟩ = some (.int .i64 0) := HD5.out.2.1.cell 3; have yf3 : wc.frozen? ⟨W.heap.size, 3, none⟩ = false := HD5.out.2.1.frozen 3
        go_wp2_with (fail)
        clear z0 zf0 y0 yf0 z1 zf1 y1 yf1 z2 zf2 y2 yf2 z3 zf3 y3 yf3
        have HFN := HD5.fin (.int .i64 k) (.int .i64 n) (.string t) (.int .i64 r)
        refine bodyPost_ret (v := .agg #[.int .i64 k, .int .i64 n, .string t, .int .i64 r]) (results_cell_row Tryz.results22 _ _ W.heap.size 25 _ (0, 0) _ rfl HFN.1 Tryz.underlying25 rfl (by kernel_rfl)) rfl ?_
        · exact ⟨_, _, _, _, rfl, q5, Lib.hid ⟨HT5.out, by have := HQ5.out; omega, HFN.2.1, HFN.2.2⟩⟩
    · go_wp2_with (fail)
      have HFN := HD3.fin (.int .i64 k) (.int .i64 n) (.string t) (.int .i64 r)
      refine bodyPost_ret (v := .agg #[.int .i64 k, .int .i64 n, .string t, .int .i64 r]) (results_cell_row Tryz.results22 _ _ W.heap.size 25 _ (0, 0) _ rfl HFN.1 Tryz.underlying25 rfl (by kernel_rfl)) rfl ?_
      · exact ⟨_, _, _, _, rfl, q3, Lib.hid ⟨by have := HT2.out; omega, by have := HQ3.out; omega, HFN.2.1, HFN.2.2⟩⟩
end Go.Proofs.YtpjjpfjnjhahcaaGreatDoor
