/- The law's walk: FnExactPrintTokens. Condition: the tables hold what the program's text lays. -/
import Derived.Test.YtfobjedobojbnabDoorPrintSpec
import Derived.Test.YtfobjedobojbnabDoorTokIn
import Derived.Test.YtfobjedobojbnabDoorCards
import Derived.Stop.LaidErr
namespace Go.Proofs.YtfobjedobojbnabDoor
open Go Go.RowKit

theorem print_tabs {W : World} (hL : laidMetH Tryd.prog Rows.fnExactPrintTokensRow.laid W) : Classes W ∧ PowTab W := by
  have h1 : laidMet Tryd.prog [("math/bits.deBruijn32tab", Rows.laid_math_bits_deBruijn32tab), ("math/bits.deBruijn64tab", Rows.laid_math_bits_deBruijn64tab), ("internal/strconv.uint64pow10", Rows.laid_internal_strconv_uint64pow10), ("loop.example/g00873/impl.byteClasses", Rows.laid_loop_example_g00873_impl_byteClasses)] W := hL
  have h2 := h1.tail.tail
  exact ⟨Lib.tabIs_of_head (rest := []) gClasses (by kernel_rfl) Tryd.underlying107 Tryd.underlying5 (by kernel_rfl) (by kernel_rfl) h2.tail,
    Lib.tabIs_of_head gPow (by kernel_rfl) Tryd.underlying131 Tryd.underlying88 (by kernel_rfl) (by kernel_rfl) h2⟩
theorem szTokenS_fit (A : Option Addr) (n c : Nat) (xs : List Tok) (W : World) (hr : TI W W.heap.size A n xs) (hn : n ≤ maxLen) (hf : n + sumT xs n ≤ 1048576) :
    Calls Tryd.prog 12 #[.slice A n c, .int .i64 1048576] W fun e w' => e = .returned (.int .i64 (1048576 - (n : Int) - (sumT xs n : Int))) ∧ Below W.heap.size W w' :=
  (szTokenS_any A n c xs W hr hn).mono fun e w' ⟨h, hb⟩ => ⟨by rcases h with h | h; exact h.2; omega, hb⟩
theorem szTokenS_long (A : Option Addr) (n c : Nat) (xs : List Tok) (W : World) (hr : TI W W.heap.size A n xs) (hn : n ≤ maxLen) (hf : ¬ n + sumT xs n ≤ 1048576) :
    Calls Tryd.prog 12 #[.slice A n c, .int .i64 1048576] W fun e w' => e = .returned (.int .i64 (-1)) ∧ Below W.heap.size W w' :=
  (szTokenS_any A n c xs W hr hn).mono fun e w' ⟨h, hb⟩ => ⟨by rcases h with h | h; omega; exact h.2, hb⟩

set_option maxHeartbeats 2000000 in
set_option maxRecDepth 100000 in
theorem walk_FnExactPrintTokens (A0 : Option Addr) (n0 c0 : Nat) (w0 : n0 ≤ maxLen) (W : World) (hts : ∃ xs, TI W W.heap.size A0 n0 xs) (hL : laidMetH Tryd.prog Rows.fnExactPrintTokensRow.laid W) :
    Calls Tryd.prog 4 #[.slice A0 n0 c0] W fun e w' => e = .returned (.bool true) ∧ Below W.heap.size W w' := by
  obtain ⟨xs, hr⟩ := hts
  obtain ⟨hT, hP⟩ := print_tabs hL
  have HPT := Lib.hid hP
  have HG2 : Hid (2 < W.heap.size) := heap_pos (hP.cell gPow 0 (by decide))
  have HT := Lib.hid hT
  have HG : Hid (0 < W.heap.size) := heap_pos (hT.at_ 0 (by decide))
  have HR := Lib.hid hr
  have HM := Lib.hid w0
  clear hr w0 hL hT hP
  by_cases hf : n0 + sumT xs n0 ≤ 1048576
  · have HV : Hid (∀ (j : Nat) (x : Tok), xs[j]? = some x → x.t.size ≤ 1048576) := Lib.hid (fun j x hx => by
      have hj : j < n0 := by have := (List.getElem?_eq_some_iff.1 hx).1; have := HR.out.1; omega
      have := sumT_at hx hj
      omega)
    have hn : n0 ≤ 1048576 := by omega
    have HN := Lib.hid hn
    have hlo : (0 : Int) ≤ 1048576 - (n0 : Int) - (sumT xs n0 : Int) := by omega
    have hd : decide (1048576 - (n0 : Int) - (sumT xs n0 : Int) < 0) = false := by simp; omega
    obtain ⟨p, hp⟩ : ∃ p, printT xs = p := ⟨_, rfl⟩
    have HP := Lib.hid hp
    have HSZ : Hid (∃ z : Int, 0 ≤ z ∧ decide (z < 0) = false ∧ Calls Tryd.prog 12 #[.slice A0 n0 c0, .int .i64 1048576] W fun e w' => e = .returned (.int .i64 z) ∧ Below W.heap.size W w') := ⟨_, hlo, hd, szTokenS_fit A0 n0 c0 xs W HR.out HM.out hf⟩
    clear hp hf hn hlo hd
    obtain ⟨z, z0, z1, hz⟩ := HSZ.out
    have HZ := Lib.hid hz
    clear hz HSZ
    go_enter Tryd.func4, Tryd.ntmps4
    go_wp2_with (go_at_call 12; refine HZ.out.mono ?_; rintro e w1 ⟨rfl, hb⟩; have HB1 := Lib.hid hb; clear hb HZ)
    go_wp2_with (go_at_call 14; refine (toTokenS_any _ n0 _ xs _ ((HR.out.below HB1.out).more HB1.out.size) HN.out).mono ?_; rintro e w2 ⟨g2, rfl, hl⟩; have L2 := Lib.hid hl.out.1; have HB2 := Lib.hid (HB1.out.trans (hl.out.2.mono HB1.out.size)); clear hl)
    go_wp2_with (go_at_call 13; refine (spec_PrintTokens_any _ n0 _ xs _ L2.out HN.out HV.out).mono ?_; rintro e w3 ⟨rfl, hb⟩; rw [HP.out]; have HB3 := Lib.hid (HB2.out.trans (hb.mono HB2.out.size)); clear hb)
    go_wp2_with (go_at_call 14; refine (toTokenS_any _ n0 _ xs _ ((HR.out.below HB3.out).more HB3.out.size) HN.out).mono ?_; rintro e w4 ⟨g4, rfl, hl⟩; have L4 := Lib.hid hl.out.1; have HB4 := Lib.hid (HB3.out.trans (hl.out.2.mono HB3.out.size)); clear hl)
    go_wp2_with (go_at_call 15; refine (impl_PrintTokens_any _ n0 _ xs _ L4.out HN.out HV.out (HT.out.below HB4.out HG.out) (var?_below HB4.out gPow HG2.out HPT.out) (Nat.lt_of_lt_of_le HG.out HB4.out.size) (Nat.lt_of_lt_of_le HG2.out HB4.out.size)).mono ?_; rintro e w5 ⟨rfl, hb⟩; rw [HP.out]; have L5 := Lib.hid ((L4.out.below hb).more hb.size); have HB5 := Lib.hid (HB4.out.trans (hb.mono HB4.out.size)); clear hb)
    go_wp2_with (go_at_call 14; refine (toTokenS_any _ n0 _ xs _ ((HR.out.below HB5.out).more HB5.out.size) HN.out).mono ?_; rintro e w6 ⟨g6, rfl, hl⟩; have L6 := Lib.hid hl.out.1; have L56 := Lib.hid ((L5.out.below hl.out.2).more hl.out.2.size); have HB6 := Lib.hid (HB5.out.trans (hl.out.2.mono HB5.out.size)); clear hl)
    go_wp2_with (go_at_call 16; refine (eqTokenS_same _ _ n0 _ _ xs _ L56.out L6.out HN.out).mono ?_; rintro e w7 ⟨rfl, hb⟩; have HB7 := Lib.hid (HB6.out.trans (hb.mono HB6.out.size)); clear hb)
    all_goals go_ret
    all_goals exact ⟨rfl, HB7.out⟩
  · have HF := Lib.hid hf
    clear hf
    go_enter Tryd.func4, Tryd.ntmps4
    go_wp2_with (go_at_call 12; refine (szTokenS_long _ _ _ _ _ HR.out HM.out HF.out).mono ?_; rintro e w1 ⟨rfl, hb⟩; have HB1 := Lib.hid hb; clear hb)
    go_ret
    exact ⟨rfl, HB1.out⟩
end Go.Proofs.YtfobjedobojbnabDoor
