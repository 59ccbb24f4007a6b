/- Plain facts on trimming and padding; the draws of texts to trim and to pad. No condition. -/
import Derived.Test.YtgagijddbokfhabDoorDrawW
import Derived.Test.YtgagijddbokfhabDoorTrimTxt
import Derived.Test.YtgagijddbokfhabDoorPadI
import Derived.Test.YtgagijddbokfhabDoorRevI
import Derived.OwnWalk
namespace Go.Proofs.YtgagijddbokfhabDoor
open Go Go.RowKit

theorem trim_ex (s : ByteArray) : ∀ m, m ≤ s.size → (∀ j, m ≤ j → j < s.size → PlainAid.bt s j = 32) → ∃ k, k ≤ s.size ∧ (∀ j, k ≤ j → j < s.size → PlainAid.bt s j = 32) ∧ (0 < k → ¬ PlainAid.bt s (k - 1) = 32)
  | 0, _, h => ⟨0, Nat.zero_le _, h, fun h => absurd h (by omega)⟩
  | m + 1, hm, h => by
    by_cases e : PlainAid.bt s m = 32
    · exact trim_ex s m (by omega) fun j hj hj2 => by
        rcases Nat.lt_or_ge m j with h1 | h1
        · exact h j h1 hj2
        · obtain rfl : j = m := by omega
          exact e
    · exact ⟨m + 1, hm, h, fun _ => e⟩
theorem ext0 (s : ByteArray) (k : Nat) (hk : k ≤ s.size) : (s.extract 0 k).size = k ∧ ∀ j, j < k → PlainAid.bt (s.extract 0 k) j = PlainAid.bt s j := by
  have hl : (s.extract 0 k).data.toList = s.data.toList.take k := by rw [← Lib.toList_data, Lib.extract_toList]; simp
  have hls : s.data.toList.length = s.size := (Lib.size_eq s).symm
  have h1 : (s.extract 0 k).size = k := by rw [Lib.size_eq, hl, List.length_take]; omega
  refine ⟨h1, fun j hj => ?_⟩
  rw [bt_data (s.extract 0 k) j (by rw [hl, List.length_take]; omega), bt_data s j (by omega)]
  have : (s.extract 0 k).data.toList[j]? = s.data.toList[j]? := by rw [hl, List.getElem?_take, if_pos hj]
  rw [List.getElem?_eq_getElem (by rw [hl, List.length_take]; omega), List.getElem?_eq_getElem (by omega)] at this
  rw [Option.some.inj this]
theorem trim_facts (s : ByteArray) : (trimE s).size ≤ s.size ∧ trimE (trimE s) = trimE s ∧ s.extract 0 (trimE s).size = trimE s := by
  obtain ⟨k, hk, h1, h2⟩ := trim_ex s s.size (Nat.le_refl _) fun j h h' => by omega
  have e := trim_at hk h1 h2
  obtain ⟨hz, hb⟩ := ext0 s k hk
  rw [← e]
  refine ⟨by omega, ?_, by rw [hz]⟩
  have e2 := trim_at (s := s.extract 0 k) (k := k) (by omega) (fun j h h' => by omega) (fun h0 => by rw [hb (k - 1) (by omega)]; exact h2 h0)
  rw [← e2]
  apply WideShapes.bytes_inj
  rw [← Lib.toList_data, ← Lib.toList_data, Lib.extract_toList, Lib.extract_toList]
  simp [List.take_take]
theorem pad_left (s f : ByteArray) (k : Nat) : (padE s f k true).extract ((padE s f k true).size - s.size) (padE s f k true).size = s := by
  show (repE f k ++ s).extract ((repE f k ++ s).size - s.size) (repE f k ++ s).size = s
  rw [ByteArray.size_append]
  apply WideShapes.bytes_inj
  rw [← Lib.toList_data, Lib.extract_toList]
  have h1 : (repE f k).size = (repE f k).data.toList.length := Lib.size_eq _
  have h2 : s.size = s.data.toList.length := Lib.size_eq _
  rw [Nat.add_sub_cancel, h1, h2]
  simp
  exact List.take_of_length_le (by omega)
theorem pad_right (s f : ByteArray) (k : Nat) : (padE s f k false).extract 0 s.size = s := by
  show (s ++ repE f k).extract 0 s.size = s
  apply WideShapes.bytes_inj
  rw [← Lib.toList_data, Lib.extract_toList]
  have h2 : s.size = s.data.toList.length := Lib.size_eq _
  simp

def ends5 : List ByteArray := [⟨#[]⟩, ⟨#[32]⟩, ⟨#[32, 32, 32]⟩, ⟨#[97, 32]⟩, ⟨#[32, 10]⟩]
theorem ends5_size : ∀ x ∈ ends5, x.size ≤ 3 := by decide
def fills5 : List ByteArray := [⟨#[48]⟩, ⟨#[32]⟩, ⟨#[120]⟩, ⟨#[]⟩, ⟨#[97, 98]⟩]
theorem fills5_size : ∀ x ∈ fills5, x.size ≤ 3 := by decide
set_option maxHeartbeats 1000000 in
theorem DrawTrimText_any (A : Option Addr) (n c : Nat) (W : World) (hn : n ≤ 1048576) (hc : Code W W.heap.size A n) :
    Calls Tryd.prog 8 #[.slice A n c] W fun e w' => ∃ x, e = .returned (.string x) ∧ Hid (x.size ≤ 15 ∧ Below W.heap.size W w') := by
  have HC := Lib.hid hc
  have HN := Lib.hid hn
  clear hc hn
  go_enter Tryd.func8, Tryd.ntmps8
  go_wp2_with (first
    | (go_at_call 13; refine (l00From_any A n c W HN.out HC.out).mono ?_; rintro e w1 ⟨rfl, hs, hb⟩; have HS1 := Lib.hid hs; have HB1 := Lib.hid hb; clear hs hb)
    | (go_at_call 14; refine (l06Text_any W.heap.size 0 w1 HS1.out (by decide)).mono ?_; rintro e w2 ⟨a, rfl, k2, ha⟩; have ha12 := ha.out.1)
    | (go_at_call 15; refine (text_of W.heap.size k2 5 _ _ ends5 w2 ha.out.2.2.1 (by have := ha.out.2.1; omega) rfl rfl (by decide) (by decide)).mono ?_; rintro e w3 ⟨f, rfl, k3, hf⟩; have hf3 := ends5_size f hf.out.1))
  go_ret
  obtain ⟨a1, a2, a3, a4⟩ := ha.out
  obtain ⟨f1, f2, f3, f4⟩ := hf.out
  exact ⟨a ++ f, rfl, Lib.hid ⟨by rw [ByteArray.size_append]; omega, HB1.out.grown (draw_transT a4 f4) HB1.out.size (fun k hk => by cases hk; exact Nat.le_refl _)⟩⟩

theorem among_cell {w w1 : World} {g : Nat} {r : Int} (hg : (w.alloc (.cells #[.int .i64 (-1), .int .i64 200, .int .i64 201] 2)).grownBy w1 (some g)) (hl : g < w.heap.size) (hr : 0 ≤ r ∧ (r < 3 ∨ r = 0)) :
    ∃ x : Int, w1.cell? ⟨w.heap.size, r.toNat, none⟩ = some (.int .i64 x) ∧ -1 ≤ x ∧ x ≤ 201 := by
  have hc : ∀ (i : Nat) v, (w.alloc (.cells #[.int .i64 (-1), .int .i64 200, .int .i64 201] 2)).cell? ⟨w.heap.size, i, none⟩ = some v → w1.cell? ⟨w.heap.size, i, none⟩ = some v := fun i v h => hg.cell h (by simp; omega)
  obtain h | h | h : r.toNat = 0 ∨ r.toNat = 1 ∨ r.toNat = 2 := by omega
  · rw [h]; exact ⟨-1, hc 0 _ (by simp), by omega, by omega⟩
  · rw [h]; exact ⟨200, hc 1 _ (by simp), by omega, by omega⟩
  · rw [h]; exact ⟨201, hc 2 _ (by simp), by omega, by omega⟩
set_option maxHeartbeats 1000000 in
theorem among3_any (g k c : Nat) (w : World) (hs : Src w g k) (hk : k ≤ 1000) :
    Calls Tryd.prog 19 #[.pointer (some ⟨g, 0, none⟩), .slice (some ⟨w.heap.size, 0, none⟩) 3 c] (w.alloc (.cells #[.int .i64 (-1), .int .i64 200, .int .i64 201] 2)) fun e w' => ∃ x : Int, e = .returned (.int .i64 x) ∧ ∃ k', Hid (-1 ≤ x ∧ x ≤ 201 ∧ k' ≤ k + 2 ∧ Src w' g k' ∧ w.grownBy w' (some g)) := by
  have HS := Lib.hid hs
  have HK := Lib.hid hk
  have HG := Lib.hid hs.lt
  clear hs hk
  go_enter Tryd.func19, Tryd.ntmps19
  go_wp2_with (go_at_call 17; refine (pick_any g k 3 _ (HS.out.alloc _) (by have := HK.out; omega) (by decide)).mono ?_; rintro e w1 ⟨r, k1, rfl, hr, hk1, hs1, hg1⟩; have HF : Hid (k1 ≤ k + 2 ∧ Src w1 g k1 ∧ w.grownBy w1 (some g)) := ⟨hk1, hs1, draw_transT (World.grownBy_alloc w _ _) hg1⟩; obtain ⟨x, hx, hx0, hx1⟩ : ∃ x : Int, w1.cell? ⟨w.heap.size, r.toNat, none⟩ = some (.int .i64 x) ∧ -1 ≤ x ∧ x ≤ 201 := among_cell hg1 HG.out hr; have hr0 := hr.1; have hr1 : r < 3 := (by have := hr.2; omega); clear hg1 hs1 hk1)
  go_ret
  exact ⟨x, rfl, k1, Lib.hid ⟨hx0, hx1, HF.out.1, HF.out.2.1, HF.out.2.2⟩⟩

set_option maxHeartbeats 2000000 in
theorem DrawPadText_any (A : Option Addr) (n c : Nat) (W : World) (hn : n ≤ 1048576) (hc : Code W W.heap.size A n) :
    Calls Tryd.prog 10 #[.slice A n c] W fun e w' => ∃ (x : ByteArray) (m : Int) (f : ByteArray) (left : Bool), e = .returned (.tuple #[.string x, .int .i64 m, .string f, .bool left]) ∧ Hid (x.size ≤ 12 ∧ -1 ≤ m ∧ m ≤ 201 ∧ f.size ≤ 3 ∧ Below W.heap.size W w') := by
  have HC := Lib.hid hc
  have HN := Lib.hid hn
  have T1 : True := trivial
  clear hc hn
  go_enter Tryd.func10, Tryd.ntmps10
  go_wp2_with (first
    | (go_at_call 13; refine (l00From_any A n c W HN.out HC.out).mono ?_; rintro e w1 ⟨rfl, hs, hb⟩; have HS1 := Lib.hid hs; have HB1 := Lib.hid hb; clear hs hb)
    | (go_at_call 17; refine (pick_any W.heap.size 0 24 w1 HS1.out (by decide) (by decide)).mono ?_; rintro e w2 ⟨r, k2, rfl, hr, hk2, hs2, hg2⟩; have HM := Lib.hid hr; have HD2 : Hid (k2 ≤ 2 ∧ Src w2 W.heap.size k2 ∧ w1.grownBy w2 (some W.heap.size)) := ⟨by omega, hs2, hg2⟩; clear hr hk2 hs2 hg2)
    | (go_at_call 18; have tk := T1; refine (one_any W.heap.size k2 8 w2 HD2.out.2.1 (by have := HD2.out.1; omega) (by decide)).mono ?_; clear T1 tk; rintro e w3 ⟨b, k3, rfl, hp⟩; have HD3 : Hid (k3 ≤ 4 ∧ Src w3 W.heap.size k3 ∧ w1.grownBy w3 (some W.heap.size)) := ⟨by have := hp.out.1; have := HD2.out.1; omega, hp.out.2.1, draw_transT HD2.out.2.2 hp.out.2.2⟩; clear hp; cases b)
    | (go_at_call 19; refine (among3_any W.heap.size k3 3 w3 HD3.out.2.1 (by have := HD3.out.1; omega)).mono ?_; rintro e w4 ⟨m4, rfl, k4, hp⟩; have HM4 : Hid (-1 ≤ m4 ∧ m4 ≤ 201) := ⟨hp.out.1, hp.out.2.1⟩; have HD4 : Hid (k4 ≤ 6 ∧ Src w4 W.heap.size k4 ∧ w1.grownBy w4 (some W.heap.size)) := ⟨by have := hp.out.2.2.1; have := HD3.out.1; omega, hp.out.2.2.2.1, draw_transT HD3.out.2.2 hp.out.2.2.2.2⟩; clear hp)
    | (go_at_call 14; (first
        | (have tk := HD4; refine (l06Text_any W.heap.size k4 w4 HD4.out.2.1 (by have := HD4.out.1; omega)).mono ?_; rintro e w5 ⟨a, rfl, k5, hp⟩; have HA : Hid (a.size ≤ 12) := hp.out.1; have HD5 : Hid (k5 ≤ 28 ∧ Src w5 W.heap.size k5 ∧ w1.grownBy w5 (some W.heap.size)) := ⟨by have := hp.out.2.1; have := HD4.out.1; omega, hp.out.2.2.1, draw_transT HD4.out.2.2 hp.out.2.2.2⟩; clear hp tk)
        | (refine (l06Text_any W.heap.size k3 w3 HD3.out.2.1 (by have := HD3.out.1; omega)).mono ?_; rintro e w5 ⟨a, rfl, k5, hp⟩; have HA : Hid (a.size ≤ 12) := hp.out.1; have HD5 : Hid (k5 ≤ 28 ∧ Src w5 W.heap.size k5 ∧ w1.grownBy w5 (some W.heap.size)) := ⟨by have := hp.out.2.1; have := HD3.out.1; omega, hp.out.2.2.1, draw_transT HD3.out.2.2 hp.out.2.2.2⟩; clear hp)))
    | (go_at_call 15; refine (text_of W.heap.size k5 5 _ _ fills5 w5 HD5.out.2.1 (by have := HD5.out.1; omega) rfl rfl (by decide) (by decide)).mono ?_; rintro e w6 ⟨f, rfl, k6, hp⟩; have HF : Hid (f.size ≤ 3) := fills5_size f hp.out.1; have HD6 : Hid (k6 ≤ 30 ∧ Src w6 W.heap.size k6 ∧ w1.grownBy w6 (some W.heap.size)) := ⟨by have := hp.out.2.1; have := HD5.out.1; omega, hp.out.2.2.1, draw_transT HD5.out.2.2 hp.out.2.2.2⟩; clear hp)
    | (go_at_call 18; refine (one_any W.heap.size k6 2 w6 HD6.out.2.1 (by have := HD6.out.1; omega) (by decide)).mono ?_; rintro e w7 ⟨left, k7, rfl, hp⟩; have HB7 : Hid (Below W.heap.size W w7) := HB1.out.grown (draw_transT HD6.out.2.2 hp.out.2.2) HB1.out.size (fun k hk => by cases hk; exact Nat.le_refl _); clear hp))
  · exact bodyPost_ret (v := .tuple #[.string a, .int .i64 r, .string f, .bool left]) (by simp [results, Tryd.results10, go_sem]) rfl ⟨a, r, f, left, rfl, Lib.hid ⟨HA.out, by have := HM.out; omega, by have := HM.out; omega, HF.out, HB7.out⟩⟩
  · exact bodyPost_ret (v := .tuple #[.string a, .int .i64 m4, .string f, .bool left]) (by simp [results, Tryd.results10, go_sem]) rfl ⟨a, m4, f, left, rfl, Lib.hid ⟨HA.out, HM4.out.1, HM4.out.2, HF.out, HB7.out⟩⟩
end Go.Proofs.YtgagijddbokfhabDoor
