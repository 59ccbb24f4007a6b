/- Contracts: SplitLines (any text), ValidSource of the model and of the program. -/
import Derived.Test.YtfobjedobojbnabDoorLines
import Derived.Test.YtfobjedobojbnabDoorLogSize
import Derived.Test.YtfobjedobojbnabDoorRowO0
import Derived.Test.YtfobjedobojbnabDoorPrint
import Derived.Laws.RangeAny
namespace Go.Proofs.YtfobjedobojbnabDoor
open Go Go.RowKit

theorem heap_pos {W : World} {o : Nat} {b : Nat} {v : Value} (h : W.cell? ⟨b, o, none⟩ = some v) : b < W.heap.size := by
  rcases Nat.lt_or_ge b W.heap.size with h1 | h1
  · exact h1
  · simp [World.cell?, Array.getElem?_eq_none h1] at h
theorem maxLen_cell {W : World} (h : W.ShapedOpen Tryd.prog) : ∃ m, W.cell? ⟨1, 0, none⟩ = some (.int .i64 m) := Tryd.laysM146.s1_3 W h

/-- How many lines a text has. -/
def lineCount (s : ByteArray) : Nat := if s.size = 0 then 0 else (linesOf s).length
/-- What ValidSource answers. -/
def sourceB (s : ByteArray) : Bool := decide (s.size ≤ 4000) && allB (prnB true) s && decide (lineCount s ≤ 120)
theorem lineCount_le (s : ByteArray) : lineCount s ≤ s.size + 1 := by
  unfold lineCount
  split
  · omega
  · exact (linesOf_length s).2
theorem empty_of {s : ByteArray} (h0 : s.size = 0) : s = ⟨#[]⟩ := by
  apply WideShapes.bytes_inj
  rw [Lib.size_eq] at h0
  exact List.eq_nil_of_length_eq_zero h0

/-- A slice of so many lines comes back. -/
def HasLen (W : World) (n : Nat) (e : Ending) (w' : World) : Prop := ∃ A c, e = Ending.returned (Value.slice A n c) ∧ Below W.heap.size W w'
theorem spec_lines_len (s : ByteArray) (W : World) (hs : s.size ≤ 1048576) : Calls Tryd.prog 25 #[.string s] W (HasLen W (lineCount s)) := by
  unfold lineCount
  by_cases h0 : s.size = 0
  · rw [if_pos h0, empty_of h0]
    exact (spec_SplitLines_nil W).mono fun e w' ⟨⟨A, c, he⟩, hb⟩ => ⟨A, c, he, hb⟩
  · rw [if_neg h0]
    exact (spec_SplitLines_any s W hs (by omega)).mono fun e w' ⟨g, c, _, he, _, _, _, _, _, hb⟩ => ⟨_, c, he, hb⟩
theorem impl_lines_len (s : ByteArray) (m : Int) (W : World) (hs : s.size ≤ 1048576) (hm : W.cell? ⟨1, 0, none⟩ = some (.int .i64 m)) : Calls Tryd.prog 32 #[.string s] W (HasLen W (lineCount s)) := by
  unfold lineCount
  by_cases h0 : s.size = 0
  · rw [if_pos h0, empty_of h0]
    exact (impl_SplitLines_nil W).mono fun e w' ⟨he, hw⟩ => ⟨none, 0, he, by rw [← hw]; exact Below.refl _ _⟩
  · rw [if_neg h0]
    exact (impl_SplitLines_any s m W hs (by omega) hm).mono fun e w' ⟨g, c, _, he, _, _, _, _, _, hb⟩ => ⟨_, c, he, hb⟩

theorem rets_o {W w' : World} {xs : List ByteArray} {e : Ending} (h : Rets W xs e w') : RetsO W xs e w' := by
  obtain ⟨g, c, cs, rfl, hg, hB, hl, hc, hx, hb⟩ := h
  exact ⟨_, c, rfl, fun _ => ⟨g, cs, rfl, hg, SB.lt hB, hB, hl, hx⟩, hb⟩
theorem spec_lines_o (s : ByteArray) (W : World) (hs : s.size ≤ 1048576) : Calls Tryd.prog 25 #[.string s] W (RetsO W (linesT s)) := by
  unfold linesT
  by_cases h0 : s.size = 0
  · rw [if_pos h0, empty_of h0]
    exact (spec_SplitLines_nil W).mono fun e w' ⟨⟨A, c, he⟩, hb⟩ => ⟨A, c, he, fun h => absurd h (Nat.lt_irrefl 0), hb⟩
  · rw [if_neg h0]
    exact (spec_SplitLines_any s W hs (by omega)).mono fun e w' h => rets_o h
theorem impl_lines_o (s : ByteArray) (m : Int) (W : World) (hs : s.size ≤ 1048576) (hm : W.cell? ⟨1, 0, none⟩ = some (.int .i64 m)) : Calls Tryd.prog 32 #[.string s] W (RetsO W (linesT s)) := by
  unfold linesT
  by_cases h0 : s.size = 0
  · rw [if_pos h0, empty_of h0]
    exact (impl_SplitLines_nil W).mono fun e w' ⟨he, hw⟩ => ⟨none, 0, he, fun h => absurd h (Nat.lt_irrefl 0), by rw [← hw]; exact Below.refl _ _⟩
  · rw [if_neg h0]
    exact (impl_SplitLines_any s m W hs (by omega) hm).mono fun e w' h => rets_o h

theorem spec_ValidSource_any (s : ByteArray) (W : World) (hs : s.size ≤ maxLen) :
    Calls Tryd.prog 24 #[.string s] W fun e w' => e = .returned (.bool (sourceB s)) ∧ Below W.heap.size W w' := by
  have HS : Hid (s.size ≤ maxLen) := hs
  unfold maxLen at hs
  obtain ⟨p, hp⟩ : ∃ p, allB (prnB true) s = p := ⟨_, rfl⟩
  have HP := Lib.hid hp
  by_cases h2 : s.size ≤ 4000
  · obtain ⟨n, hn⟩ : ∃ n, lineCount s = n := ⟨_, rfl⟩
    have HN := Lib.hid hn
    have hnb : n ≤ 4001 := by have := lineCount_le s; omega
    have e1 : sourceB s = (p && decide (n ≤ 120)) := by simp [sourceB, hp, h2, hn]
    have hd : decide ((n : Int) ≤ 120) = decide (n ≤ 120) := by rw [Bool.eq_iff_iff]; simp; omega
    have d : decide ((s.size : Int) ≤ 4000) = true := by simp; omega
    obtain ⟨q, hq⟩ : ∃ q, decide (n ≤ 120) = q := ⟨_, rfl⟩
    rw [e1, hq]
    rw [hq] at hd
    have H2 : Hid (s.size ≤ 1048576) := by show _ ≤ _; omega
    clear hp hq hn e1
    cases p
    · go_enter Tryd.func24, Tryd.ntmps24
      go_wp2_with (go_at_call 51; refine (l01Printable_any _ _ _ HS.out).mono ?_; rintro e w' ⟨rfl, rfl⟩; rw [HP.out])
      go_ret
      exact ⟨rfl, Below.refl _ _⟩
    · cases q
      all_goals
        go_enter Tryd.func24, Tryd.ntmps24
        go_wp2_with (first
          | (go_at_call 51; refine (l01Printable_any _ _ _ HS.out).mono ?_; rintro e w' ⟨rfl, rfl⟩; rw [HP.out])
          | (go_at_call 25; refine (spec_lines_len _ _ H2.out).mono ?_; rw [HN.out]; rintro e w1 ⟨A, c, rfl, hb⟩; have HB := Lib.hid hb; clear hb))
        go_ret
        exact ⟨rfl, HB.out⟩
  · have e1 : sourceB s = false := by simp [sourceB, h2]
    have d : decide ((s.size : Int) ≤ 4000) = false := by simp; omega
    rw [e1]
    clear hp e1
    go_enter Tryd.func24, Tryd.ntmps24
    go_wp2_with fail
    go_ret
    exact ⟨rfl, Below.refl _ _⟩

set_option maxHeartbeats 1000000 in
theorem impl_ValidSource_any (s : ByteArray) (m : Int) (W : World) (hs : s.size ≤ maxLen) (hm : W.cell? ⟨1, 0, none⟩ = some (.int .i64 m)) :
    Calls Tryd.prog 30 #[.string s] W fun e w' => e = .returned (.bool (sourceB s)) ∧ Below W.heap.size W w' := by
  unfold maxLen at hs
  have HM := Lib.hid hm
  have HG : Hid (1 < W.heap.size) := heap_pos hm
  clear hm
  by_cases h2 : s.size ≤ 4000
  · have H2 : Hid (s.size ≤ 1048576) := by show _ ≤ _; omega
    have hnb : lineCount s ≤ 4001 := by have := lineCount_le s; omega
    have HV : Hid (sourceB s = (allB (prnB true) s && decide (lineCount s ≤ 120))) := by show _ = _; simp [sourceB, h2]
    have d : decide (4000 < (s.size : Int)) = false := by simp; omega
    obtain ⟨n, hn⟩ : ∃ n, lineCount s = n := ⟨_, rfl⟩
    have HN := Lib.hid hn
    rw [hn] at hnb HV
    have hd : decide ((n : Int) ≤ 120) = decide (n ≤ 120) := by rw [Bool.eq_iff_iff]; simp; omega
    have HD := Lib.hid hd
    clear hn hd
    go_enter Tryd.func30, Tryd.ntmps30
    go_wp2_with fail
    go_loopw [] (fun w' => ∃ k : Nat, k ≤ s.size ∧ w' = W.iter s k ∧ Hid (∀ j, j < k → prnB true (PlainAid.bt s j) = true)) (fun w' => s.size - w'.iterPos W.heap.size)
    case atStart => exact ⟨0, Nat.zero_le _, rfl, fun _ h => absurd h (by omega)⟩
    case round =>
      obtain ⟨k, hk, rfl, hp⟩ := hrel
      by_cases hlt : k < s.size
      · have b0 := PlainAid.bt_nonneg s k
        have hb := PlainAid.get_bt s k hlt
        by_cases h1 : (32 ≤ PlainAid.bt s k ∧ PlainAid.bt s k ≤ 126) ∨ PlainAid.bt s k = 10
        · have hd := decode_ascii s k hlt (by omega)
          have hnx : ∀ ty, (Instr.next (.pointer (some ⟨W.heap.size, 0, none⟩)) true ty).run Tryd.prog (W.iter s k) = .ok (.tuple #[.bool true, .int .i64 k, .int .i32 (PlainAid.bt s k)]) (W.iter s (k + 1)) := fun ty => by
            rw [run_next_any W s k ty hlt, hd]
            simp only [hb]
          by_cases h10 : PlainAid.bt s k = 10
          · have HP : Hid (prnB true (PlainAid.bt s k) = true) := by rw [h10]; exact prnB_nl
            have e10 : (PlainAid.bt s k != 10) = false := by simp [h10]
            have e11 : (PlainAid.bt s k == 10) = true := by simp [h10]
            clear hd h1 hb h10
            go_wp2_with fail
            go_roundw
            case rel => exact ⟨k + 1, by omega, rfl, upto_succ hp.out HP.out⟩
            case measure => simp; omega
          · have h1' : 32 ≤ PlainAid.bt s k ∧ PlainAid.bt s k ≤ 126 := by omega
            have HP : Hid (prnB true (PlainAid.bt s k) = true) := prnB_yes h1'.1 h1'.2
            have HB : Hid (decide (32 ≤ PlainAid.bt s k ∧ PlainAid.bt s k ≤ 126) = true) := by show _ = _; simp [h1']
            have e10 : (PlainAid.bt s k != 10) = true := by simp [h10]
            have e11 : (PlainAid.bt s k == 10) = false := by simp [h10]
            clear hd h1 h1' hb h10
            go_wp2_with (go_at_call 57; refine (isPrintable_any _ _).mono ?_; rintro e w' ⟨rfl, rfl⟩; rw [HB.out])
            go_roundw
            case rel => exact ⟨k + 1, by omega, rfl, upto_succ hp.out HP.out⟩
            case measure => simp; omega
        · have HF : Hid (allB (prnB true) s = false) := allB_false k hlt (prnB_no' (by omega) (by omega))
          have hbad : ¬ (32 ≤ ((Utf8.decode s k).1 : Int) ∧ ((Utf8.decode s k).1 : Int) ≤ 126) ∧ ¬ ((Utf8.decode s k).1 : Int) = 10 := by
            by_cases ha : (s[k]'hlt).toNat < 128
            · rw [decode_ascii s k hlt ha]
              simp only [hb]
              omega
            · have := (decode_high s k hlt (by omega)).1
              omega
          have hnx : ∀ ty, (Instr.next (.pointer (some ⟨W.heap.size, 0, none⟩)) true ty).run Tryd.prog (W.iter s k) = _ := fun ty => run_next_any W s k ty hlt
          generalize (Utf8.decode s k).1 = r at hbad hnx
          generalize (Utf8.decode s k).2 = u at hnx
          have HB : Hid (decide (32 ≤ (r : Int) ∧ (r : Int) ≤ 126) = false) := by
            show _ = _
            simpa using hbad.1
          have e10 : ((r : Int) != 10) = true := by simpa using hbad.2
          have e11 : ((r : Int) == 10) = false := by simpa using hbad.2
          clear hbad h1 hb
          go_wp2_with (go_at_call 57; refine (isPrintable_any _ _).mono ?_; rintro e w' ⟨rfl, rfl⟩; rw [HB.out])
          go_ret
          exact ⟨bool_ret (by rw [HV.out, HF.out]; rfl), (Below.refl _ _).alloc (Nat.le_refl _) _⟩
      · obtain rfl : k = s.size := by omega
        have HT : Hid (allB (prnB true) s = true) := allB_true hp.out
        have hnx : ∀ ty, (Instr.next (.pointer (some ⟨W.heap.size, 0, none⟩)) true ty).run Tryd.prog (W.iter s s.size) = _ := fun ty => run_next_end W s s.size ty hlt
        have HW : Hid (Below W.heap.size W (W.iter s s.size)) := (Below.refl _ _).alloc (Nat.le_refl _) _
        have HM2 : Hid ((W.iter s s.size).cell? ⟨1, 0, none⟩ = some (.int .i64 m)) := (HW.out.cell (p := ⟨1, 0, none⟩) HG.out).trans HM.out
        go_wp2_with (go_at_call 32; refine (impl_lines_len _ _ _ H2.out HM2.out).mono ?_; rw [HN.out]; rintro e w1 ⟨A, c, rfl, hb⟩; have HB1 := Lib.hid (HW.out.trans (hb.mono HW.out.size)); clear hb)
        go_ret
        exact ⟨bool_ret (by rw [HV.out, HT.out, HD.out]; rfl), HB1.out⟩
  · have e1 : sourceB s = false := by simp [sourceB, h2]
    have d : decide (4000 < (s.size : Int)) = true := by simp; omega
    rw [e1]
    clear e1
    go_enter Tryd.func30, Tryd.ntmps30
    go_wp2_with fail
    go_ret
    exact ⟨rfl, Below.refl _ _⟩
end Go.Proofs.YtfobjedobojbnabDoor
