/- Contract: JoinLines of the program; the law's walk. No condition. -/
import Derived.Test.YtfobjedobojbnabJoin
namespace Go.Proofs.Ytfobjedobojbnab
open Go Go.RowKit

theorem String_str (B b : Nat) (s : ByteArray) (w : World) (h : Lib.IsBuilder 37 5 B b (Lib.strCells s) w) (hBw : B ≤ w.heap.size) :
    Calls Try.prog 12 #[.pointer (some ⟨b, 0, none⟩)] w fun e w' => e = .returned (.string s) ∧ Below B w w' := by
  have h1 := Try.Builder_String_any B b s.data.toList w (by rw [← Lib.strCells_eq]; exact h) hBw
  rw [Lib.mk_data] at h1
  exact h1
set_option maxHeartbeats 1000000 in
set_option maxRecDepth 100000 in
theorem impl_JoinLines_any (A : Option Addr) (n c : Nat) (xs : List Lin) (W : World) (hr : LR W W.heap.size A n xs) (hn : n + sumL xs n ≤ 1048576) :
    Calls Try.prog 7 #[.slice A n c] W fun e w' => e = .returned (.string (joinT xs n)) ∧ Below W.heap.size W w' := by
  have HR := Lib.hid hr
  have HN := Lib.hid hn
  clear hr hn
  have HF : Hid (Lib.IsBuilder 37 5 W.heap.size W.heap.size [] (W.alloc (.cells #[.pointer none, .slice none 0 0] 37))) := Lib.hid (Lib.fresh_isBuilder _ _ W)
  have HB0 : Hid (Below W.heap.size W (W.alloc (.cells #[.pointer none, .slice none 0 0] 37))) := (Below.refl _ _).alloc (Nat.le_refl _) _
  have HW := Lib.hid (writeLines_any W.heap.size W.heap.size n c A xs _ (HR.out.below HB0.out) HF.out HB0.out.size HN.out)
  go_enter Try.func7, Try.ntmps7
  go_wp2_with (first
    | (go_at_call 11; refine HW.out.mono ?_; rintro e w1 ⟨rfl, hB1, hb1⟩; have HB1 := Lib.hid hB1; have HW1 : Hid (Below W.heap.size W w1) := HB0.out.trans hb1; clear hB1 hb1)
    | (go_at_call 12; refine (String_str _ _ (joinT xs n) _ HB1.out HW1.out.size).mono ?_; rintro e w2 ⟨rfl, hb⟩; have HW2 := Lib.hid (HW1.out.trans hb); clear hb))
  go_ret
  exact ⟨rfl, HW2.out⟩

theorem szLineS_fit (A : Option Addr) (n c : Nat) (xs : List Lin) (W : World) (hr : LI W W.heap.size A n xs) (hn : n ≤ maxLen) (hf : n + sumL xs n ≤ 1048576) :
    Calls Try.prog 4 #[.slice A n c, .int .i64 1048576] W fun e w' => e = .returned (.int .i64 (1048576 - (n : Int) - (sumL xs n : Int))) ∧ Below W.heap.size W w' :=
  (szLineS_any A n c xs W hr hn).mono fun e w' ⟨h, hb⟩ => ⟨by rcases h with h | h; exact h.2; omega, hb⟩
theorem szLineS_long (A : Option Addr) (n c : Nat) (xs : List Lin) (W : World) (hr : LI W W.heap.size A n xs) (hn : n ≤ maxLen) (hf : ¬ n + sumL xs n ≤ 1048576) :
    Calls Try.prog 4 #[.slice A n c, .int .i64 1048576] W fun e w' => e = .returned (.int .i64 (-1)) ∧ Below W.heap.size W w' :=
  (szLineS_any A n c xs W hr hn).mono fun e w' ⟨h, hb⟩ => ⟨by rcases h with h | h; omega; exact h.2, hb⟩

set_option maxHeartbeats 2000000 in
set_option maxRecDepth 100000 in
theorem walk_FnExactJoinLines (A0 : Option Addr) (n0 c0 : Nat) (w0 : n0 ≤ maxLen) (W : World) (hls : ∃ xs, LI W W.heap.size A0 n0 xs) :
    Calls Try.prog 3 #[.slice A0 n0 c0] W fun e w' => e = .returned (.bool true) ∧ Below W.heap.size W w' := by
  obtain ⟨xs, hr⟩ := hls
  have HR := Lib.hid hr
  have HM := Lib.hid w0
  clear hr w0
  by_cases hf : n0 + sumL xs n0 ≤ 1048576
  · have HF := Lib.hid hf
    have hn : n0 ≤ 1048576 := by omega
    have HN := Lib.hid hn
    have hlo : (0 : Int) ≤ 1048576 - (n0 : Int) - (sumL xs n0 : Int) := by omega
    have hd : decide (1048576 - (n0 : Int) - (sumL xs n0 : Int) < 0) = false := by simp; omega
    obtain ⟨p, hp⟩ : ∃ p, joinT xs n0 = p := ⟨_, rfl⟩
    have HP := Lib.hid hp
    have HSZ : Hid (∃ z : Int, 0 ≤ z ∧ decide (z < 0) = false ∧ Calls Try.prog 4 #[.slice A0 n0 c0, .int .i64 1048576] W fun e w' => e = .returned (.int .i64 z) ∧ Below W.heap.size W w') := ⟨_, hlo, hd, szLineS_fit A0 n0 c0 xs W HR.out HM.out HF.out⟩
    clear hp hf hn hlo hd
    obtain ⟨z, z0, z1, hz⟩ := HSZ.out
    have HZ := Lib.hid hz
    clear hz HSZ
    go_enter Try.func3, Try.ntmps3
    go_wp2_with (go_at_call 4; refine HZ.out.mono ?_; rintro e w1 ⟨rfl, hb⟩; have HB1 := Lib.hid hb; clear hb HZ)
    go_wp2_with (go_at_call 6; refine (toLineS_any _ n0 _ xs _ ((HR.out.below HB1.out).more HB1.out.size) HN.out).mono ?_; rintro e w2 ⟨g2, rfl, hl⟩; have L2 := Lib.hid hl.out.1; have HB2 := Lib.hid (HB1.out.trans (hl.out.2.mono HB1.out.size)); clear hl)
    go_wp2_with (go_at_call 5; refine (spec_JoinLines_any _ n0 _ xs _ L2.out HF.out).mono ?_; rintro e w' ⟨rfl, rfl⟩; rw [HP.out])
    go_wp2_with (go_at_call 6; refine (toLineS_any _ n0 _ xs _ ((HR.out.below HB2.out).more HB2.out.size) HN.out).mono ?_; rintro e w3 ⟨g3, rfl, hl⟩; have L3 := Lib.hid hl.out.1; have HB3 := Lib.hid (HB2.out.trans (hl.out.2.mono HB2.out.size)); clear hl)
    go_wp2_with (go_at_call 7; refine (impl_JoinLines_any _ n0 _ xs _ L3.out HF.out).mono ?_; rintro e w4 ⟨rfl, hb⟩; rw [HP.out]; have L4 := Lib.hid ((L3.out.below hb).more hb.size); have HB4 := Lib.hid (HB3.out.trans (hb.mono HB3.out.size)); clear hb)
    go_wp2_with (go_at_call 6; refine (toLineS_any _ n0 _ xs _ ((HR.out.below HB4.out).more HB4.out.size) HN.out).mono ?_; rintro e w5 ⟨g5, rfl, hl⟩; have L5 := Lib.hid hl.out.1; have L45 := Lib.hid ((L4.out.below hl.out.2).more hl.out.2.size); have HB5 := Lib.hid (HB4.out.trans (hl.out.2.mono HB4.out.size)); clear hl)
    go_wp2_with (go_at_call 8; refine (eqLineS_same _ _ n0 _ _ xs _ L45.out L5.out HN.out).mono ?_; rintro e w6 ⟨rfl, hb⟩; have HB6 := Lib.hid (HB5.out.trans (hb.mono HB5.out.size)); clear hb)
    all_goals go_ret
    all_goals exact ⟨rfl, HB6.out⟩
  · have HF := Lib.hid hf
    clear hf
    go_enter Try.func3, Try.ntmps3
    go_wp2_with (go_at_call 4; refine (szLineS_long _ _ _ _ _ HR.out HM.out HF.out).mono ?_; rintro e w1 ⟨rfl, hb⟩; have HB1 := Lib.hid hb; clear hb)
    go_ret
    exact ⟨rfl, HB1.out⟩
end Go.Proofs.Ytfobjedobojbnab
