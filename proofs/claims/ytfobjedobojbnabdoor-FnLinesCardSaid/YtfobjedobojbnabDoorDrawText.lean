/- The model's draw of a source text: some string of at most 1,000 bytes. Condition: the code's bytes. -/
import Derived.Test.YtfobjedobojbnabDoorDrawLines
namespace Go.Proofs.YtfobjedobojbnabDoor
open Go Go.RowKit

theorem conv5 (w : World) : ∃ y : ByteArray, y.size = 5 ∧ (convert 35 9 (.slice (some ⟨w.heap.size, 0, none⟩) 5 5)).run Tryd.prog (w.alloc (.cells #[.int .u8 0, .int .u8 0, .int .u8 0, .int .u8 0, .int .u8 0] 5)) = .ok (.string y) (w.alloc (.cells #[.int .u8 0, .int .u8 0, .int .u8 0, .int .u8 0, .int .u8 0] 5)) :=
  conv_bytes _ w.heap.size 5 5 [0, 0, 0, 0, 0] rfl fun j v hv => by
    rw [cell_of_row (w.alloc (.cells #[.int .u8 0, .int .u8 0, .int .u8 0, .int .u8 0, .int .u8 0] 5)) w.heap.size j #[.int .u8 0, .int .u8 0, .int .u8 0, .int .u8 0, .int .u8 0] 5 (0, 0) (heap_alloc_new w _), ← hv]
    simp
theorem make5 (w : World) : (Instr.makeSlice 35 (.int .i64 5) (.int .i64 5)).run Tryd.prog w = .ok (.slice (some ⟨w.heap.size, 0, none⟩) 5 5) (w.alloc (.cells #[.int .u8 0, .int .u8 0, .int .u8 0, .int .u8 0, .int .u8 0] 5)) := by kernel_rfl

set_option maxHeartbeats 2000000 in
set_option maxRecDepth 100000 in
theorem l01DrawText_any (g : Nat) (W : World) (hs : Src W g 0) :
    Calls Tryd.prog 44 #[.pointer (some ⟨g, 0, none⟩)] W fun e w' => ∃ x : ByteArray, e = .returned (.string x) ∧ Hid (x.size ≤ 1000 ∧ W.grownBy w' (some g)) := by
  have HS := Lib.hid hs
  clear hs
  go_enter Tryd.func44, Tryd.ntmps44
  go_wp2_with (go_at_call 71; refine (pick_any g 0 7 _ HS.out (by decide) (by decide)).mono ?_; rintro e w1 ⟨r, k1, rfl, hr, hk1, hs1, hg1⟩; have r0 := hr.1; have r1 : r ≤ 6 := (by have := hr.2; omega); have S1 := Lib.hid hs1; have K1 := Lib.hid hk1; have G1 := Lib.hid hg1; clear hr hk1 hs1 hg1)
  obtain ⟨k0, rfl⟩ : ∃ k0 : Nat, r = (k0 : Int) := ⟨r.toNat, by omega⟩
  have hk6 : k0 ≤ 6 := by omega
  go_loopw [3, 4] (fun o i wr => ∃ (k q : Nat) (X : ByteArray), k ≤ 6 ∧ i = .int .i64 k ∧ o = .string X ∧ X.size + 15 * k ≤ 90 ∧ Hid (q + 4 * k ≤ 26 ∧ Src wr g q ∧ W.grownBy wr (some g))) (fun _ i _ => (intOf i).toNat)
  case atStart => exact ⟨k0, k1, ⟨#[]⟩, hk6, rfl, rfl, by show 0 + _ ≤ _; omega, ⟨by have := K1.out; omega, S1.out, G1.out⟩⟩
  case round =>
    clear S1 K1 G1 r0 r1 hk6
    obtain ⟨k, q, X, hk, rfl, rfl, hX, HF⟩ := hrel
    by_cases h0 : k = 0
    · subst h0
      go_wp2_with (go_at_call 71; refine (pick_any g q 20 _ HF.out.2.1 (by have := HF.out.1; omega) (by decide)).mono ?_; rintro e w2 ⟨r2, k2, rfl, hr, hk2, hs2, hg2⟩; have r0 := hr.1; have G2 : Hid (W.grownBy w2 (some g)) := draw_trans HF.out.2.2 hg2; have hmk := make5 w2; obtain ⟨y5, hy5, hcv5⟩ := conv5 w2; have HY := Lib.hid hy5; have hy9 : y5.size ≤ 5 := (by omega); clear hr hk2 hs2 hg2)
      · go_ret
        exact ⟨_, rfl, Lib.hid ⟨by simp only [ByteArray.size_append]; have : (⟨#[9]⟩ : ByteArray).size = 1 := rfl; omega, G2.out⟩⟩
      · go_ret
        exact ⟨_, rfl, Lib.hid ⟨by simp only [ByteArray.size_append]; omega, draw_trans G2.out (World.grownBy_alloc _ _ _)⟩⟩
      · go_loopw [3, 5] (fun o i wr => ∃ (j : Nat) (Y : ByteArray), j ≤ 130 ∧ i = .int .i64 j ∧ o = .string Y ∧ Y.size ≤ 90 + j ∧ wr = w2) (fun _ i _ => 130 - (intOf i).toNat)
        case atStart => exact ⟨0, X, Nat.zero_le _, rfl, rfl, by omega, rfl⟩
        case round =>
          obtain ⟨j, Y, hj, rfl, rfl, hY, rfl⟩ := hrel
          by_cases hlt : j < 130
          · have b1 : (j : Int) < 130 := by omega
            go_wp2_with fail
            go_roundw
            case rel => exact ⟨j + 1, _, by omega, by go_num, rfl, by simp only [ByteArray.size_append]; have : (⟨#[10]⟩ : ByteArray).size = 1 := rfl; omega, trivial⟩
            case measure => simp [intOf]; omega
          · have b1 : ¬ (j : Int) < 130 := by omega
            go_wp2_with fail
            go_ret
            exact ⟨_, rfl, Lib.hid ⟨by omega, G2.out⟩⟩
      · go_ret
        exact ⟨_, rfl, Lib.hid ⟨by omega, G2.out⟩⟩
    · obtain ⟨m, rfl⟩ : ∃ m, k = m + 1 := ⟨k - 1, by omega⟩
      have e1 : ((m + 1 : Nat) : Int) - 1 = (m : Int) := by omega
      have e2 : (m : Int) + 1 - 1 = (m : Int) := by omega
      by_cases h1 : m = 0
      · subst h1
        go_wp2_with (first
          | (go_at_call 72; refine (l01DrawLine_any g q _ HF.out.2.1 (by have := HF.out.1; omega)).mono ?_; rintro e w2 ⟨x, q2, rfl, hp⟩; have hx := hp.out.1; have F2 : Hid (q2 ≤ q + 2 ∧ Src w2 g q2 ∧ W.grownBy w2 (some g)) := ⟨hp.out.2.1, hp.out.2.2.1, draw_trans HF.out.2.2 hp.out.2.2.2⟩; clear hp)
          | (go_at_call 73; refine (one_any g q2 2 _ F2.out.2.1 (by have := F2.out.1; have := HF.out.1; omega) (by decide)).mono ?_; rintro e w3 ⟨b, q3, rfl, hp⟩; have F3 : Hid (q3 ≤ q + 4 ∧ Src w3 g q3 ∧ W.grownBy w3 (some g)) := ⟨by have := hp.out.1; have := F2.out.1; omega, hp.out.2.1, draw_trans F2.out.2.2 hp.out.2.2⟩; clear hp))
        all_goals go_roundw
        all_goals first
          | exact ⟨0, q3, _, by omega, by go_num, rfl, by simp only [ByteArray.size_append]; have : (⟨#[10]⟩ : ByteArray).size = 1 := rfl; omega, ⟨by have := F3.out.1; have := HF.out.1; omega, F3.out.2⟩⟩
          | (simp [intOf]; done)
      · have e3 : (1 : Int) < (m : Int) + 1 := by omega
        go_wp2_with (go_at_call 72; refine (l01DrawLine_any g q _ HF.out.2.1 (by have := HF.out.1; omega)).mono ?_; rintro e w2 ⟨x, q2, rfl, hp⟩; have hx := hp.out.1; have F2 : Hid (q2 ≤ q + 2 ∧ Src w2 g q2 ∧ W.grownBy w2 (some g)) := ⟨hp.out.2.1, hp.out.2.2.1, draw_trans HF.out.2.2 hp.out.2.2.2⟩; clear hp)
        go_roundw
        case rel => exact ⟨m, q2, _, by omega, by go_num, rfl, by rw [ByteArray.size_append, ByteArray.size_append]; have : (⟨#[10]⟩ : ByteArray).size = 1 := rfl; omega, ⟨by have := F2.out.1; have := HF.out.1; omega, F2.out.2⟩⟩
        case measure => simp [intOf]

theorem DrawLogicalLines_any (A : Option Addr) (n c : Nat) (W : World) (hn : n ≤ 1048576) (hc : Code W W.heap.size A n) :
    Calls Tryd.prog 18 #[.slice A n c] W fun e w' => ∃ y : ByteArray, e = .returned (.string y) ∧ Hid (y.size ≤ 1000 ∧ Below W.heap.size W w') := by
  have HF := Lib.hid (l00From_any A n c W hn hc)
  clear hn hc
  obtain ⟨g, hg⟩ : ∃ g, W.heap.size = g := ⟨_, rfl⟩
  have HGW : Hid (W.heap.size = g) := hg
  go_enter Tryd.func18, Tryd.ntmps18
  go_wp2_with (first
    | (go_at_call 43; refine HF.out.mono ?_; rintro e w1 ⟨rfl, hs, hb⟩; have S1 : Hid (Src w1 g 0) := hg ▸ hs; have B1 : Hid (Below W.heap.size W w1) := hb; rw [hg]; clear hs hb HF hg)
    | (go_at_call 44; refine (l01DrawText_any g _ S1.out).mono ?_; rintro e w2 ⟨y, rfl, hp⟩; have F2 : Hid (y.size ≤ 1000 ∧ Below W.heap.size W w2) := ⟨hp.out.1, B1.out.grown hp.out.2 B1.out.size (fun k hk => by cases hk; rw [HGW.out]; exact Nat.le_refl _)⟩; clear hp))
  go_ret
  exact ⟨y, rfl, F2⟩
end Go.Proofs.YtfobjedobojbnabDoor
