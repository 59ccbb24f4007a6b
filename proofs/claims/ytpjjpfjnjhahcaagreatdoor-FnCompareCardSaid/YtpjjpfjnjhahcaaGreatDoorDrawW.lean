/- Contracts of the model's draws: word, l06Text: that they return texts of a few bytes, and turn nothing but the source of choices. -/
import Derived.Test.YtpjjpfjnjhahcaaGreatDoorDrawMore
import Derived.Test.YtpjjpfjnjhahcaaGreatDoorOwn1
namespace Go.Proofs.YtpjjpfjnjhahcaaGreatDoor
open Go Go.RowKit

theorem draw_transT {a b c : World} {g : Nat} (h : a.grownBy b (some g)) (h' : b.grownBy c (some g)) : a.grownBy c (some g) :=
  ⟨h'.os.trans h.os, h'.tape.trans h.tape, h'.output.trans h.output, Nat.le_trans h.size h'.size, fun j hj hne => (h'.block j (Nat.lt_of_lt_of_le hj h.size) hne).trans (h.block j hj hne)⟩
theorem grow_own {W wr w1 : World} {g : Nat} {row : Option Nat} (h : W.grownBy wr (some g)) (h' : wr.grownBy w1 row) (hb : ∀ k, row = some k → W.heap.size ≤ k) : W.grownBy w1 (some g) :=
  ⟨h'.os.trans h.os, h'.tape.trans h.tape, h'.output.trans h.output, Nat.le_trans h.size h'.size, fun j hj hne => (h'.block j (Nat.lt_of_lt_of_le hj h.size) (fun e => by have := hb j e.symm; omega)).trans (h.block j hj hne)⟩
theorem own_keepT {w w' : World} {base g n : Nat} {e : TypeId} {v : Value} {xs : List Value} (h : w.ownsRow base e 1 v n xs) (hg : w.grownBy w' (some g)) (hb : g < base) : w'.ownsRow base e 1 v n xs := by
  refine ⟨h.1, ?_⟩
  rcases h.2 with h0 | ⟨b, cap, cur, hv, hbb, hh, r⟩
  · exact .inl h0
  · refine .inr ⟨b, cap, cur, hv, hbb, ?_, r⟩
    have hl : b < w.heap.size := (Array.getElem?_eq_some_iff.1 hh).1
    exact (hg.block b hl (fun e => by have := Option.some.inj e; omega)).trans hh
theorem conv_ownX {w : World} {base n : Nat} {v : Value} {xs : List Int} (h : w.ownsRow base 5 1 v n (xs.map (Value.int .u8))) :
    ∃ y : ByteArray, y.size = n ∧ (convert 22 9 v).run Tryz.prog w = .ok (.string y) w := by
  have hl := h.1
  rcases h.2 with ⟨rfl, h0⟩ | ⟨g, cap, cur, rfl, hg, hh, hnc, hc, hcs, ht⟩
  · subst h0
    refine ⟨⟨#[]⟩, rfl, ?_⟩
    rw [run_convert_bytes_string (P := Tryz.prog) w 22 9 5 none 0 0 Tryz.underlying22 Tryz.underlying5 Tryz.underlying9]
    rfl
  · refine conv_bytes w g n cap xs (by simpa using hl) fun j v hv => ?_
    have hj : j < n := by have := (List.getElem?_eq_some_iff.1 hv).1; rw [List.length_map] at this; simp at hl; omega
    have h1 := congrArg (·[j]?) ht
    simp only [List.getElem?_take, Nat.mul_one, if_pos hj, hv, Array.getElem?_toList] at h1
    simp [World.cell?, hh, h1]

set_option maxHeartbeats 2000000 in
set_option maxRecDepth 100000 in
theorem word_any (g k : Nat) (W : World) (hs : Src W g k) (hk : k ≤ 1000) :
    Calls Tryz.prog 47 #[.pointer (some ⟨g, 0, none⟩), .int .i64 12] W fun e w' => ∃ (y : ByteArray) (k' : Nat), e = .returned (.string y) ∧ Hid (y.size ≤ 12 ∧ k' ≤ k + 20 ∧ Src w' g k' ∧ W.grownBy w' (some g)) := by
  obtain ⟨i0, hi0, hz0, hz1, hz2⟩ := info_parts byteInfoR
  have HS := Lib.hid hs
  have HK := Lib.hid hk
  have HG := Lib.hid hs.lt
  clear hs hk
  go_enter Tryz.func47, Tryz.ntmps47
  go_wp2_with (go_at_call 9; refine (pick_any g k 12 _ (HS.out.alloc _) (by have := HK.out; omega) (by decide)).mono ?_; rintro e w1 ⟨r, k1, rfl, hr, hk1, hs1, hg1⟩; have HR := Lib.hid hr; have HK1 := Lib.hid hk1; have HS1 := Lib.hid hs1; have HG1 : Hid (W.grownBy w1 (some g)) := draw_transT (World.grownBy_alloc W _ _) hg1; have HO1 : Hid (w1.ownsRow W.heap.size 5 1 (.slice (some ⟨W.heap.size, 0, none⟩) 0 0) 0 []) := own_keepT (World.ownsRow_lit W #[] 0 (Nat.le_refl _) (by decide) rfl) hg1 HG.out; clear hr hk1 hs1 hg1)
  go_loopw [5, 6] (fun v q wr => ∃ (m : Nat) (z : Int) (k' : Nat) (xs : List Int), q = .int .i64 z ∧ z + m ≤ 12 ∧ m ≤ 12 ∧ Hid (k' ≤ k + 2 + m) ∧ Hid (wr.ownsRow W.heap.size 5 1 v m (xs.map (Value.int .u8))) ∧ Hid (Src wr g k') ∧ Hid (W.grownBy wr (some g))) (fun _ q _ => (intOf q).toNat)
  case atStart => exact ⟨0, r, k1, [], rfl, by have := HR.out; omega, by omega, HK1.out, HO1, HS1, HG1⟩
  case round =>
    obtain ⟨m, z, k', xs, rfl, hzm, hm, HKK, HO, HSS, HGG⟩ := hrel
    by_cases h0 : 0 < z
    · have HLE : Hid (W.heap.size ≤ wr.heap.size) := HGG.out.size
      go_wp2_with (first
        | (go_at_call 21; refine (next_any g k' wr HSS.out (by have := HKK.out; have := HK.out; omega)).mono ?_; rintro e w2 ⟨⟨x, rfl, hx0, hx1⟩, hs2, hg2⟩; have HS2 := Lib.hid hs2; have HG2 := Lib.hid hg2; have HO2 := Lib.hid (own_keepT HO.out hg2 HG.out); have hxw : IntKind.u8.wrap x = x := IntWalk.u8_in x (by omega); have HLE2 : Hid (W.heap.size ≤ w2.heap.size) := Nat.le_trans HLE.out hg2.size; clear hs2 hg2)
        | (at_builtin; refine wpList_append_own _ rfl _ _ 22 rfl W.heap.size 5 i0 (.int .u8 0) 1 1 Tryz.underlying22 hi0 hz0 hz1 hz2 rfl (by decide) _ _ _ rfl (HO2.out.alloc _) ⟨w2.heap.size, 0, none⟩ 1 1 [.int .u8 x] rfl rfl (cell_one_new _ _ _) (fun x hx => by simp at hx; subst hx; rfl) (by unfold maxLen; omega) (by omega) (by have := HLE2.out; simp; omega) ?_; intro v1 w3 hown1 hgr1 _))
      go_roundw
      case rel =>
        refine ⟨m + 1, z - 1, k' + 1, xs ++ [x], by go_num, by omega, by omega, ?_, ?_, ?_, ?_⟩
        · show _ ≤ _; have := HKK.out; omega
        · exact Lib.hid (by simpa using hown1)
        · exact Lib.hid (((HS2.out.alloc _).grown hgr1 (fun b hb => by have := own_ge' HO2.out b hb; have := HG.out; omega)))
        · exact Lib.hid (grow_own (draw_transT (draw_transT HGG.out HG2.out) (World.grownBy_alloc w2 _ _)) hgr1 (own_ge' HO2.out))
      case measure => first | (simp [intOf]; done) | (simp [intOf]; omega)
    · obtain ⟨y, hy, hcv⟩ := conv_ownX HO.out
      have HY := Lib.hid hy
      clear hy
      go_wp2_with fail
      go_ret
      exact ⟨y, rfl, k', Lib.hid ⟨by have := HY.out; omega, by have := HKK.out; omega, HSS.out, HGG.out⟩⟩

/-- The slice of texts that is laid for a choice. -/
theorem text_of (g k c : Nat) (cs : Array Value) (n : Nat) (xs : List ByteArray) (w : World) (hs : Src w g k) (hk : k ≤ 1000000) (hcs : cs = (xs.map Value.string).toArray) (hn : n = xs.length) (h0 : 0 < xs.length) (h1 : xs.length ≤ 200) :
    Calls Tryz.prog 23 #[.pointer (some ⟨g, 0, none⟩), .slice (some ⟨w.heap.size, 0, none⟩) n c] (w.alloc (.cells cs 9)) fun e w' => ∃ x, e = .returned (.string x) ∧ ∃ k', Hid (x ∈ xs ∧ k' ≤ k + 2 ∧ Src w' g k' ∧ w.grownBy w' (some g)) := by
  subst hn
  refine (text_any g k w.heap.size c xs _ (hs.alloc _) hk h0 h1 (by have := hs.lt; omega) (fun j x hx => ?_)).mono ?_
  · subst hcs
    have := (MapKept.heap_alloc w (.cells (xs.map Value.string).toArray 9)).1
    rw [cell_of_row _ w.heap.size j _ _ (0, 0) this, List.getElem?_toArray, List.getElem?_map, hx]
    rfl
  · rintro e w' ⟨x, k', rfl, hp⟩
    obtain ⟨hx, h1, h2, h3⟩ := hp.out
    exact ⟨x, rfl, k', Lib.hid ⟨hx, h1, h2, draw_transT (World.grownBy_alloc w _ _) h3⟩⟩

def texts12 : List ByteArray := [⟨#[]⟩, ⟨#[97]⟩, ⟨#[97, 98]⟩, ⟨#[49, 50]⟩, ⟨#[45, 55]⟩, ⟨#[34]⟩, ⟨#[97, 34, 98]⟩, ⟨#[105, 116, 39, 115]⟩, ⟨#[32, 32, 120, 32]⟩, ⟨#[10]⟩, ⟨#[48, 48]⟩, ⟨#[104, 101, 108, 108, 111, 32, 119, 111, 114, 108, 100]⟩]
theorem texts12_size : ∀ x ∈ texts12, x.size ≤ 12 := by decide
set_option maxHeartbeats 1000000 in
theorem l06Text_any (g k : Nat) (W : World) (hs : Src W g k) (hk : k ≤ 900) :
    Calls Tryz.prog 24 #[.pointer (some ⟨g, 0, none⟩)] W fun e w' => ∃ x, e = .returned (.string x) ∧ ∃ k', Hid (x.size ≤ 12 ∧ k' ≤ k + 22 ∧ Src w' g k' ∧ W.grownBy w' (some g)) := by
  have HS := Lib.hid hs
  have HK := Lib.hid hk
  clear hs hk
  go_enter Tryz.func24, Tryz.ntmps24
  go_wp2_with (first
    | (go_at_call 10; refine (one_any g k 3 _ HS.out (by have := HK.out; omega) (by decide)).mono ?_; rintro e w1 ⟨b, k1, rfl, hp⟩; cases b)
    | (go_at_call 23; refine (text_of g k1 12 _ _ texts12 w1 hp.out.2.1 (by have := HK.out; have := hp.out.1; omega) rfl rfl (by decide) (by decide)).mono ?_; rintro e w2 ⟨x, rfl, k2, hq⟩)
    | (go_at_call 47; refine (word_any g k1 w1 hp.out.2.1 (by have := HK.out; have := hp.out.1; omega)).mono ?_; rintro e w2 ⟨x, k2, rfl, hq⟩))
  all_goals go_ret
  · obtain ⟨h1, h2, h3, h4⟩ := hq.out
    obtain ⟨g1, g2, g3⟩ := hp.out
    exact ⟨x, rfl, k2, Lib.hid ⟨h1, by omega, h3, draw_transT g3 h4⟩⟩
  · obtain ⟨h1, h2, h3, h4⟩ := hq.out
    obtain ⟨g1, g2, g3⟩ := hp.out
    exact ⟨x, rfl, k2, Lib.hid ⟨texts12_size x h1, by omega, h3, draw_transT g3 h4⟩⟩

end Go.Proofs.YtpjjpfjnjhahcaaGreatDoor
