/- The law's walk: FnQuote. Conditions: the code's bytes; the table holds what the program's text lays. -/
import Derived.Test.YtdfikepfjdoooaaDoorDrawQuote
import Derived.Test.YtdfikepfjdoooaaDoorQuoteLit
import Derived.Test.YtdfikepfjdoooaaDoorScanImpl
import Derived.Test.YtdfikepfjdoooaaDoorCards
namespace Go.Proofs.YtdfikepfjdoooaaDoor
open Go Go.RowKit

theorem quote_no {s : ByteArray} (h : canB s = false) : quoteS s = ⟨#[]⟩ := by unfold quoteS; rw [if_neg (by rw [h]; decide)]
set_option maxHeartbeats 2000000 in
set_option maxRecDepth 100000 in
theorem walk_FnQuote (A0 : Option Addr) (n0 c0 : Nat) (w0 : n0 ≤ maxLen) (W : World) (hcode : Code W W.heap.size A0 n0) (hL : laidMetH Tryd.prog Rows.fnQuoteRow.laid W) :
    Calls Tryd.prog 7 #[.slice A0 n0 c0] W fun e w' => e = .returned (.bool true) ∧ Below W.heap.size W w' := by
  have hT : Classes W := Lib.tabIs_of_head (rest := []) gClasses (by kernel_rfl) Tryd.underlying118 Tryd.underlying5 (by kernel_rfl) (by kernel_rfl) hL
  have HT := Lib.hid hT
  have HG : Hid (0 < W.heap.size) := heap_pos (hT.at_ 0 (by decide))
  clear hL hT
  unfold maxLen at w0
  have HN : Hid (n0 ≤ 9223372036854775807) := by show _ ≤ _; omega
  by_cases h : (n0 : Int) ≤ 1048576
  · have HL0 : Hid (decide (1048576 < (n0 : Int)) = false) := decide_eq_false (by omega)
    have HD := Lib.hid (DrawCanQuote_any A0 n0 c0 W (by omega) hcode)
    clear h w0 hcode
    go_enter Tryd.func7, Tryd.ntmps7
    go_wp2_with (first
      | (go_at_call 27; refine (c2Long_any _ _ _ _ HN.out).mono ?_; rintro e w1 ⟨rfl, rfl⟩; rw [HL0.out])
      | (go_at_call 30; refine HD.out.mono ?_; rintro e w2 ⟨s, rfl, hp⟩; have HS : Hid (s.size ≤ maxLen) := (by show _ ≤ _; unfold maxLen; have := hp.out.1; omega); have B2 : Hid (Below W.heap.size W w2) := hp.out.2; clear hp))
    obtain ⟨x, hx⟩ : ∃ x, canB s = x := ⟨_, rfl⟩
    have HX := Lib.hid hx
    cases x
    · have HQ : Hid (quoteS s = ⟨#[]⟩) := quote_no hx
      clear hx
      go_wp2_with (first
        | (go_at_call 31; refine (impl_CanQuote_any _ _ HS.out).mono ?_; rintro e w3 ⟨rfl, hb⟩; rw [HX.out]; have B3 : Hid (Below W.heap.size W w3) := B2.out.trans (hb.mono B2.out.size); clear hb)
        | (go_at_call 32; refine (impl_QuoteString_any _ _ HS.out).mono ?_; rintro e w4 ⟨rfl, hb⟩; rw [HQ.out]; have B4 : Hid (Below W.heap.size W w4) := B3.out.trans (hb.mono B3.out.size); clear hb)
        | (go_at_call 33; refine (spec_CanQuote_any _ _ HS.out).mono ?_; rintro e w5 ⟨rfl, rfl⟩; rw [HX.out]))
      go_ret
      exact ⟨rfl, B4.out⟩
    · obtain ⟨hq, hz⟩ := tokens_quote s hx
      clear hx
      obtain ⟨t, ht⟩ : ∃ t, quoteS s = t := ⟨_, rfl⟩
      have HQ := Lib.hid ht
      rw [ht] at hq hz
      have HI : Hid (∀ w, Classes w → Calls Tryd.prog 14 #[.string t] w fun e w' => ∃ g c, e = .returned (.tuple #[.slice (some ⟨g, 0, none⟩) 1 c, .int .i64 0, .int .i64 0]) ∧ Hid (w'.cell? ⟨g, 0, none⟩ = some (.int .i64 3) ∧ w'.cell? ⟨g, 2, none⟩ = some (.string s) ∧ Below w.heap.size w w')) := fun w h => by
        have h0 := impl_ScanTokens_any t w (by omega) h
        rw [hq] at h0
        refine h0.mono fun e w' hh => ?_
        obtain ⟨A, c, rfl, hr, hb⟩ := hh
        obtain ⟨g, cs, rfl, h1, h2, h3, h4, h5⟩ := hr (Nat.zero_lt_succ _)
        have hc := h5.cell5 h3 (j := 0) (x := ⟨3, 0, s, true, true⟩) rfl
        exact ⟨g, c, rfl, Lib.hid ⟨by simpa using hc.1, by simpa using hc.2.2.1, hb⟩⟩
      clear hq ht hz
      go_wp2_with (first
        | (go_at_call 31; refine (impl_CanQuote_any _ _ HS.out).mono ?_; rintro e w3 ⟨rfl, hb⟩; rw [HX.out]; have B3 : Hid (Below W.heap.size W w3) := B2.out.trans (hb.mono B2.out.size); clear hb)
        | (go_at_call 32; refine (impl_QuoteString_any _ _ HS.out).mono ?_; rintro e w4 ⟨rfl, hb⟩; rw [HQ.out]; have B4 : Hid (Below W.heap.size W w4) := B3.out.trans (hb.mono B3.out.size); clear hb)
        | (go_at_call 14; refine (HI.out _ (HT.out.below B4.out HG.out)).mono ?_; rintro e w5 ⟨g, c, rfl, hp⟩; have p0 := hp.out.1; have p2 := hp.out.2.1; have B5 : Hid (Below W.heap.size W w5) := B4.out.trans (hp.out.2.2.mono B4.out.size); clear hp))
      go_ret
      exact ⟨rfl, B5.out⟩
  · have HL0 : Hid (decide (1048576 < (n0 : Int)) = true) := decide_eq_true (by omega)
    clear h w0 hcode
    go_enter Tryd.func7, Tryd.ntmps7
    go_wp2_with (go_at_call 27; refine (c2Long_any _ _ _ _ HN.out).mono ?_; rintro e w1 ⟨rfl, rfl⟩; rw [HL0.out])
    go_ret
    exact ⟨rfl, Below.refl _ _⟩
end Go.Proofs.YtdfikepfjdoooaaDoor
