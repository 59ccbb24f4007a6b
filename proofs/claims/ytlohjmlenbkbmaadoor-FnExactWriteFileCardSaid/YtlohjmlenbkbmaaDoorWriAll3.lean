/- Contracts: letters, digits, the end of a name, IsName of the model and of the program. Condition of the last: the table holds what the program's text lays. Contract: l00In of the model. No condition. Contracts: l21File of the model, isFile of the program. Condition (the program's): the table holds what its text lays. toConsole, toConsoleS of the laws. No condition. laws.eqConsole, laws.eqConsoleS where both are the same. No condition. When a console is valid. Plain. Contracts: isElement, key of the program at files. Condition: the table holds what the program's text lays. Contract: isWithinLimit at File. Condition: the table holds what the program's text lays. Contract: ValidConsole of the program. Condition: the table holds what the program's text lays. Contract: cloneConsole of the program: a console of its own whose lists lie apart. Condition: lists of at most 2^20 elements. What changeConsole defers; results in two cells. No condition. Contract: changeConsole of the program at what is invalid. Condition: the table holds what the program's text lays. -/
import Derived.Test.YtlohjmlenbkbmaaDoorWriAll2
import Derived.Test.YtlohjmlenbkbmaaDoorWriAll1
import Derived.Below
import Derived.Deep.RegionHeld3
import Derived.Lib.QuietBelow
import Derived.BigQuiet
import Derived.Deep.QuietTactic
import Derived.Deep.RegionLaw
import Derived.Deep.CutBlock
import Derived.Laws.Rows
import Derived.Laws.ResultCell
import Derived.Defers
namespace Go.Proofs.YtlohjmlenbkbmaaDoor
open Go Go.RowKit

theorem l02Letter_any (c : Int) (W : World) (h0 : 0 ≤ c) (h1 : c ≤ 255) :
    Calls Tryd.prog 79 #[.int .u8 c] W fun e w' => e = .returned (.bool (letterB c)) ∧ W = w' := by
  rw [letterB_range h0 h1]
  by_cases a : 65 ≤ c
  · have da : decide (65 ≤ c) = true := by simp [a]
    by_cases b : c ≤ 90
    · have db : decide (c ≤ 90) = true := by simp [b]
      have e : (decide (65 ≤ c ∧ c ≤ 90) || decide (97 ≤ c ∧ c ≤ 122)) = true := by simp [a, b]
      rw [e]
      go_enter Tryd.func79, Tryd.ntmps79
      go_wp2
      all_goals go_ret
      all_goals exact ⟨rfl, rfl⟩
    · have db : decide (c ≤ 90) = false := by simp; omega
      by_cases x : 97 ≤ c
      · have dx : decide (97 ≤ c) = true := by simp [x]
        by_cases y : c ≤ 122
        · have dy : decide (c ≤ 122) = true := by simp [y]
          have e : (decide (65 ≤ c ∧ c ≤ 90) || decide (97 ≤ c ∧ c ≤ 122)) = true := by simp [x, y]
          rw [e]
          go_enter Tryd.func79, Tryd.ntmps79
          go_wp2
          all_goals go_ret
          all_goals exact ⟨rfl, rfl⟩
        · have dy : decide (c ≤ 122) = false := by simp; omega
          have e : (decide (65 ≤ c ∧ c ≤ 90) || decide (97 ≤ c ∧ c ≤ 122)) = false := by simp; omega
          rw [e]
          go_enter Tryd.func79, Tryd.ntmps79
          go_wp2
          all_goals go_ret
          all_goals exact ⟨rfl, rfl⟩
      · have dx : decide (97 ≤ c) = false := by simp; omega
        have e : (decide (65 ≤ c ∧ c ≤ 90) || decide (97 ≤ c ∧ c ≤ 122)) = false := by simp; omega
        rw [e]
        go_enter Tryd.func79, Tryd.ntmps79
        go_wp2
        all_goals go_ret
        all_goals exact ⟨rfl, rfl⟩
  · have da : decide (65 ≤ c) = false := by simp; omega
    have dx : decide (97 ≤ c) = false := by simp; omega
    have e : (decide (65 ≤ c ∧ c ≤ 90) || decide (97 ≤ c ∧ c ≤ 122)) = false := by simp; omega
    rw [e]
    go_enter Tryd.func79, Tryd.ntmps79
    go_wp2
    all_goals go_ret
    all_goals exact ⟨rfl, rfl⟩

theorem l02Digit_any (c : Int) (W : World) (h0 : 0 ≤ c) (h1 : c ≤ 255) :
    Calls Tryd.prog 80 #[.int .u8 c] W fun e w' => e = .returned (.bool (digitB c)) ∧ W = w' := by
  rw [digitB_range h0 h1]
  by_cases a : 48 ≤ c
  · have da : decide (48 ≤ c) = true := by simp [a]
    by_cases b : c ≤ 57
    · have db : decide (c ≤ 57) = true := by simp [b]
      have e : decide (48 ≤ c ∧ c ≤ 57) = true := by simp [a, b]
      rw [e]
      go_enter Tryd.func80, Tryd.ntmps80
      go_wp2
      all_goals go_ret
      all_goals exact ⟨rfl, rfl⟩
    · have db : decide (c ≤ 57) = false := by simp; omega
      have e : decide (48 ≤ c ∧ c ≤ 57) = false := by simp; omega
      rw [e]
      go_enter Tryd.func80, Tryd.ntmps80
      go_wp2
      all_goals go_ret
      all_goals exact ⟨rfl, rfl⟩
  · have da : decide (48 ≤ c) = false := by simp; omega
    have e : decide (48 ≤ c ∧ c ≤ 57) = false := by simp; omega
    rw [e]
    go_enter Tryd.func80, Tryd.ntmps80
    go_wp2
    all_goals go_ret
    all_goals exact ⟨rfl, rfl⟩

theorem nat_ret {a b : Nat} (h : a = b) : Ending.returned (.int .i64 (a : Int)) = .returned (.int .i64 (b : Int)) := by rw [h]

set_option maxHeartbeats 1000000 in
theorem l02NameEnd_any (s : ByteArray) (k : Nat) (W : World) (hs : s.size ≤ maxLen) (hk : k ≤ s.size) :
    Calls Tryd.prog 64 #[.string s, .int .i64 k] W fun e w' => e = .returned (.int .i64 (nameEnd s k)) ∧ W = w' := by
  unfold maxLen at hs
  have hb := PlainAid.get_bt s
  by_cases hlt : k < s.size
  · have b0 := PlainAid.bt_nonneg s k
    have b1 := PlainAid.bt_le s k
    have dl : decide (s.size ≤ k) = false := by simp; omega
    obtain ⟨p, hp⟩ : ∃ p, letterB (PlainAid.bt s k) = p := ⟨_, rfl⟩
    have HP := Lib.hid hp
    cases p
    · have HE : Hid (nameEnd s k = k) := nameEnd_no fun _ => hp
      clear hp
      go_enter Tryd.func64, Tryd.ntmps64
      go_wp2_with (go_at_call 79; refine (l02Letter_any _ _ (by omega) (by omega)).mono ?_; rintro e w' ⟨rfl, rfl⟩; rw [HP.out])
      go_ret
      exact ⟨nat_ret HE.out.symm, rfl⟩
    · have HE : Hid (nameEnd s k = runEnd contB s k) := nameEnd_yes hlt hp
      clear hp
      go_enter Tryd.func64, Tryd.ntmps64
      go_wp2_with (go_at_call 79; refine (l02Letter_any _ _ (by omega) (by omega)).mono ?_; rintro e w' ⟨rfl, rfl⟩; rw [HP.out])
      go_loop [1] (fun i => ∃ j : Nat, j ≤ s.size ∧ i = .int .i64 j ∧ Hid (runEnd contB s k = runEnd contB s j)) (fun i => s.size - (intOf i).toNat)
      case atStart => exact ⟨k, hk, rfl, rfl⟩
      case round =>
        obtain ⟨j, hj, rfl, hE⟩ := hrel
        clear b0 b1 dl hlt
        by_cases hlt : j < s.size
        · have b0 := PlainAid.bt_nonneg s j
          have b1 := PlainAid.bt_le s j
          obtain ⟨x, hx⟩ : ∃ x, letterB (PlainAid.bt s j) = x := ⟨_, rfl⟩
          obtain ⟨y, hy⟩ : ∃ y, digitB (PlainAid.bt s j) = y := ⟨_, rfl⟩
          obtain ⟨z, hz⟩ : ∃ z, (PlainAid.bt s j == 95) = z := ⟨_, rfl⟩
          have hc : contB (PlainAid.bt s j) = (x || y || z) := by rw [contB_parts b0 b1, hx, hy, hz]
          have HX := Lib.hid hx
          have HY := Lib.hid hy
          have HC := Lib.hid hc
          clear hx hy hc
          cases x <;> cases y <;> cases z
          all_goals
            go_wp2_with (first
              | (go_at_call 79; refine (l02Letter_any _ _ (by omega) (by omega)).mono ?_; rintro e w' ⟨rfl, rfl⟩; rw [HX.out])
              | (go_at_call 80; refine (l02Digit_any _ _ (by omega) (by omega)).mono ?_; rintro e w' ⟨rfl, rfl⟩; rw [HY.out]))
          · have HS : Hid (runEnd contB s j = j) := runEnd_stop fun _ => HC.out
            go_ret
            exact ⟨nat_ret (by rw [HE.out, hE.out, HS.out]), rfl⟩
          all_goals
            have HS : Hid (runEnd contB s j = runEnd contB s (j + 1)) := runEnd_step hlt HC.out
            go_round
            case rel => exact ⟨j + 1, by omega, by go_num, hE.out.trans HS.out⟩
            case measure => simp [intOf]; omega
        · have HS : Hid (runEnd contB s j = j) := runEnd_stop fun h => absurd h hlt
          go_wp2_with fail
          go_ret
          exact ⟨nat_ret (by rw [HE.out, hE.out, HS.out]), rfl⟩
  · have HE : Hid (nameEnd s k = k) := nameEnd_no fun h => absurd h hlt
    have dl : decide (s.size ≤ k) = true := by simp; omega
    go_enter Tryd.func64, Tryd.ntmps64
    go_wp2_with fail
    go_ret
    exact ⟨nat_ret HE.out.symm, rfl⟩

theorem l02NameEnd_zero (s : ByteArray) (W : World) (hs : s.size ≤ maxLen) :
    Calls Tryd.prog 64 #[.string s, .int .i64 0] W fun e w' => e = .returned (.int .i64 (nameEnd s 0)) ∧ W = w' := l02NameEnd_any s 0 W hs (Nat.zero_le _)

theorem spec_IsName_any (s : ByteArray) (W : World) (hs : s.size ≤ maxLen) :
    Calls Tryd.prog 29 #[.string s] W fun e w' => e = .returned (.bool (isNameB s)) ∧ W = w' := by
  have HS : Hid (s.size ≤ maxLen) := hs
  unfold maxLen at hs
  by_cases h0 : s.size = 0
  · rw [isName_out (.inl h0)]
    have e1 := nil_of_size h0
    have e2 := isEmpty_of_size h0
    go_enter Tryd.func29, Tryd.ntmps29
    go_wp2_with fail
    go_ret
    exact ⟨rfl, rfl⟩
  have hp : 0 < s.size := by omega
  have e1 := ne_nil_of_size hp
  have e2 := not_isEmpty_of_size hp
  by_cases h1 : s.size ≤ 12
  · rw [isName_end hp h1]
    have d1 : decide ((s.size : Int) ≤ 12) = true := by simp; omega
    have hr : ((nameEnd s 0 : Int) == (s.size : Int)) = decide (nameEnd s 0 = s.size) := by
      rw [Bool.eq_iff_iff]; simp; omega
    obtain ⟨x, hx⟩ : ∃ x, decide (nameEnd s 0 = s.size) = x := ⟨_, rfl⟩
    rw [hx] at hr ⊢
    clear hx h0
    have hn : (nameEnd s 0 : Int) ≤ s.size := by
      have := nameEnd_le (Nat.zero_le s.size)
      omega
    cases x
    all_goals
      go_enter Tryd.func29, Tryd.ntmps29
      go_wp2_with (go_at_call 64; refine (l02NameEnd_zero _ _ HS.out).mono ?_; rintro e w' ⟨rfl, rfl⟩)
      go_ret
      exact ⟨rfl, rfl⟩
  · rw [isName_out (.inr (by omega))]
    have d1 : decide ((s.size : Int) ≤ 12) = false := by simp; omega
    go_enter Tryd.func29, Tryd.ntmps29
    go_wp2_with fail
    go_ret
    exact ⟨rfl, rfl⟩

theorem continuesName_any (r : Int) (W : World) (hT : Classes W) :
    Calls Tryd.prog 71 #[.int .i32 r] W fun e w' => e = .returned (.bool (contB r)) ∧ W = w' := by
  unfold contB
  have HT : Hid (Classes W) := hT
  clear hT
  obtain ⟨c, hc⟩ : ∃ c, cls r = c := ⟨_, rfl⟩
  have HC := Lib.hid hc
  rw [hc]
  clear hc
  by_cases a : c = 1
  · subst a
    go_enter Tryd.func71, Tryd.ntmps71
    go_wp2_with (go_at_call 70; refine (classOf_any _ _ HT.out).mono ?_; rintro e w' ⟨rfl, rfl⟩; rw [HC.out])
    go_ret
    exact ⟨rfl, rfl⟩
  by_cases b : c = 2
  · subst b
    go_enter Tryd.func71, Tryd.ntmps71
    go_wp2_with (go_at_call 70; refine (classOf_any _ _ HT.out).mono ?_; rintro e w' ⟨rfl, rfl⟩; rw [HC.out])
    go_ret
    exact ⟨rfl, rfl⟩
  by_cases d : c = 11
  · subst d
    go_enter Tryd.func71, Tryd.ntmps71
    go_wp2_with (go_at_call 70; refine (classOf_any _ _ HT.out).mono ?_; rintro e w' ⟨rfl, rfl⟩; rw [HC.out])
    go_ret
    exact ⟨rfl, rfl⟩
  have ha : (c == 1) = false := by simpa using a
  have hb : (c == 2) = false := by simpa using b
  have hd : (c == 11) = false := by simpa using d
  have hz : (c == 1 || c == 2 || c == 11) = false := by rw [ha, hb, hd]; rfl
  rw [hz]
  clear a b d hz
  go_enter Tryd.func71, Tryd.ntmps71
  go_wp2_with (go_at_call 70; refine (classOf_any _ _ HT.out).mono ?_; rintro e w' ⟨rfl, rfl⟩; rw [HC.out])
  go_ret
  exact ⟨rfl, rfl⟩

theorem impl_IsName_any (s : ByteArray) (W : World) (hs : s.size ≤ maxLen) (hT : Classes W) :
    Calls Tryd.prog 37 #[.string s] W fun e w' => e = .returned (.bool (isNameB s)) ∧ Below W.heap.size W w' := by
  unfold maxLen at hs
  have HT : Hid (Classes W) := hT
  have HG : Hid (0 < W.heap.size) := heap_pos (hT.at_ 0 (by decide))
  have hb := PlainAid.get_bt s
  clear hT
  by_cases h0 : s.size = 0
  · rw [isName_out (.inl h0)]
    have e1 := nil_of_size h0
    have e2 := isEmpty_of_size h0
    go_enter Tryd.func37, Tryd.ntmps37
    go_wp2_with fail
    go_ret
    exact ⟨rfl, Below.refl _ _⟩
  have hp : 0 < s.size := by omega
  have e1 := ne_nil_of_size hp
  have e2 := not_isEmpty_of_size hp
  by_cases h1 : s.size ≤ 12
  · rw [isName_in hp h1]
    have d1 : decide (12 < (s.size : Int)) = false := by simp; omega
    have b0 := PlainAid.bt_nonneg s 0
    have b1 := PlainAid.bt_le s 0
    obtain ⟨x, hx⟩ : ∃ x, letterB (PlainAid.bt s 0) = x := ⟨_, rfl⟩
    rw [hx]
    cases x
    · have hx' : (cls (PlainAid.bt s 0) == 1) = false := hx
      have hx2 : (cls (PlainAid.bt s 0) != 1) = true := by rw [bne, hx']; rfl
      clear hx h0
      go_enter Tryd.func37, Tryd.ntmps37
      go_wp2_with (go_at_call 70; refine (classOf_any _ _ HT.out).mono ?_; rintro e w' ⟨rfl, rfl⟩)
      go_ret
      exact ⟨rfl, Below.refl _ _⟩
    · have hx' : (cls (PlainAid.bt s 0) == 1) = true := hx
      have hx2 : (cls (PlainAid.bt s 0) != 1) = false := by rw [bne, hx']; rfl
      clear hx h0
      go_enter Tryd.func37, Tryd.ntmps37
      go_wp2_with (go_at_call 70; refine (classOf_any _ _ HT.out).mono ?_; rintro e w' ⟨rfl, rfl⟩)
      clear hx' hx2 b0 b1 hb
      go_loopw [] (fun w' => ∃ k : Nat, k ≤ s.size ∧ w' = W.iter s k ∧ Hid (∀ j, j < k → contB (PlainAid.bt s j) = true)) (fun w' => s.size - w'.iterPos W.heap.size)
      case atStart => exact ⟨0, Nat.zero_le _, rfl, fun _ h => absurd h (by omega)⟩
      case round =>
        obtain ⟨k, hk, rfl, hq⟩ := hrel
        have HT2 : Hid (Classes (W.iter s k)) := HT.out.below (below_iter (Below.refl _ _) (Nat.le_refl _) _ _) HG.out
        by_cases hlt : k < s.size
        · have b0 := PlainAid.bt_nonneg s k
          have b1 := PlainAid.bt_le s k
          have hb := PlainAid.get_bt s k hlt
          by_cases h1 : contB (PlainAid.bt s k) = true
          · have HB : Hid (contB (PlainAid.bt s k) = true) := h1
            have hsmall : PlainAid.bt s k < 128 := by
              by_cases hh : 128 ≤ PlainAid.bt s k
              · rw [contB_high hh] at h1
                cases h1
              · omega
            have hd := decode_ascii s k hlt (by omega)
            have hnx : ∀ ty, (Instr.next (.pointer (some ⟨W.heap.size, 0, none⟩)) true ty).run Tryd.prog (W.iter s k) = .ok (.tuple #[.bool true, .int .i64 k, .int .i32 (PlainAid.bt s k)]) (W.iter s (k + 1)) := fun ty => by
              rw [run_next_any W s k ty hlt, hd]
              simp only [hb]
            clear hd h1 hb hsmall
            have HT3 : Hid (Classes (W.iter s (k + 1))) := HT.out.below (below_iter (Below.refl _ _) (Nat.le_refl _) _ _) HG.out
            go_wp2_with (go_at_call 71; refine (continuesName_any _ _ HT3.out).mono ?_; rintro e w' ⟨rfl, rfl⟩; rw [HB.out])
            go_roundw
            case rel => exact ⟨k + 1, by omega, rfl, upto_succ hq.out HB.out⟩
            case measure => simp; omega
          · have h2 : contB (PlainAid.bt s k) = false := by simpa using h1
            have HF : Hid (allB contB s = false) := allB_false k hlt h2
            have hbad : contB ((Utf8.decode s k).1 : Int) = false := by
              by_cases ha : (s[k]'hlt).toNat < 128
              · rw [decode_ascii s k hlt ha]
                simp only [hb]
                exact h2
              · exact contB_high (by have := (decode_high s k hlt (by omega)).1; omega)
            have hnx : ∀ ty, (Instr.next (.pointer (some ⟨W.heap.size, 0, none⟩)) true ty).run Tryd.prog (W.iter s k) = _ := fun ty => run_next_any W s k ty hlt
            generalize (Utf8.decode s k).1 = r at hbad hnx
            generalize (Utf8.decode s k).2 = u at hnx
            have HB := Lib.hid hbad
            have HT3 : Hid (Classes (W.iter s (k + u))) := HT.out.below (below_iter (Below.refl _ _) (Nat.le_refl _) _ _) HG.out
            clear hbad h1 h2 hb
            go_wp2_with (go_at_call 71; refine (continuesName_any _ _ HT3.out).mono ?_; rintro e w' ⟨rfl, rfl⟩; rw [HB.out])
            go_ret
            exact ⟨bool_ret (by rw [HF.out]; rfl), below_iter (Below.refl _ _) (Nat.le_refl _) _ _⟩
        · obtain rfl : k = s.size := by omega
          have HA : Hid (allB contB s = true) := allB_true hq.out
          have hnx : ∀ ty, (Instr.next (.pointer (some ⟨W.heap.size, 0, none⟩)) true ty).run Tryd.prog (W.iter s s.size) = _ := fun ty => run_next_end W s s.size ty hlt
          go_wp2_with fail
          go_ret
          exact ⟨bool_ret (by rw [HA.out]; rfl), below_iter (Below.refl _ _) (Nat.le_refl _) _ _⟩
  · rw [isName_out (.inr (by omega))]
    have d1 : decide (12 < (s.size : Int)) = true := by simp; omega
    go_enter Tryd.func37, Tryd.ntmps37
    go_wp2_with fail
    go_ret
    exact ⟨rfl, Below.refl _ _⟩
end Go.Proofs.YtlohjmlenbkbmaaDoor

namespace Go.Proofs.YtlohjmlenbkbmaaDoor
open Go Go.RowKit

theorem l00In_any (x lo hi : Int) (W : World) :
    Calls Tryd.prog 30 #[.int .i64 x, .int .i64 lo, .int .i64 hi] W fun e w' => e = .returned (.bool (decide (lo ≤ x ∧ x ≤ hi))) ∧ W = w' := by
  by_cases h0 : lo ≤ x
  · have d0 : decide (lo ≤ x) = true := by simp [h0]
    by_cases h1 : x ≤ hi
    · have d1 : decide (x ≤ hi) = true := by simp [h1]
      have e : decide (lo ≤ x ∧ x ≤ hi) = true := by simp [h0, h1]
      rw [e]
      go_enter Tryd.func30, Tryd.ntmps30
      go_wp2
      all_goals go_ret
      all_goals exact ⟨rfl, rfl⟩
    · have d1 : decide (x ≤ hi) = false := by simp; omega
      have e : decide (lo ≤ x ∧ x ≤ hi) = false := by simp; omega
      rw [e]
      go_enter Tryd.func30, Tryd.ntmps30
      go_wp2
      all_goals go_ret
      all_goals exact ⟨rfl, rfl⟩
  · have d0 : decide (lo ≤ x) = false := by simp; omega
    have e : decide (lo ≤ x ∧ x ≤ hi) = false := by simp; omega
    rw [e]
    go_enter Tryd.func30, Tryd.ntmps30
    go_wp2
    all_goals go_ret
    all_goals exact ⟨rfl, rfl⟩
end Go.Proofs.YtlohjmlenbkbmaaDoor

namespace Go.Proofs.YtlohjmlenbkbmaaDoor
open Go Go.RowKit

/-- Whether a file is valid. -/
def fileB (x : Fl) : Bool := isNameB x.name_ && (linesB x.lines_ 40 200 && (decide (0 ≤ x.mode_ ∧ x.mode_ ≤ 3) && (decide (0 ≤ x.at_ ∧ x.at_ ≤ (x.lines_.length : Int)) && ((x.mode_ == 1) || (x.at_ == 0)))))

set_option maxHeartbeats 4000000 in
set_option maxRecDepth 100000 in
theorem l21File_any (x : Fl) (l : FlLay) (W : World) (hx : FlV W W.heap.size x l) :
    Calls Tryd.prog 63 #[x.ag l] W fun e w' => e = .returned (.bool (fileB x)) ∧ Below W.heap.size W w' := by
  unfold fileB
  obtain ⟨x0, x1, x2, x3⟩ := x
  obtain ⟨A1, n1, c1, h1⟩ := l
  obtain ⟨k1, k0⟩ := hx
  dsimp only at k0 k1 ⊢
  have HK1 := Lib.hid k1
  have HS := Lib.hid k0
  have HL := Lib.hid k1.1
  have hn1 := k1.2.1
  unfold maxLen at hn1
  rw [k1.1]
  obtain ⟨a, ha⟩ : ∃ z, isNameB x0 = z := ⟨_, rfl⟩
  obtain ⟨b, hb⟩ : ∃ z, linesB x1 40 200 = z := ⟨_, rfl⟩
  obtain ⟨c, hc⟩ : ∃ z, decide (0 ≤ x2 ∧ x2 ≤ 3) = z := ⟨_, rfl⟩
  have HA := Lib.hid ha
  have HB := Lib.hid hb
  have HC := Lib.hid hc
  obtain ⟨d, hd⟩ : ∃ z, decide (0 ≤ x3 ∧ x3 ≤ (n1 : Int)) = z := ⟨_, rfl⟩
  obtain ⟨u, hu⟩ : ∃ z, (x2 == 1) = z := ⟨_, rfl⟩
  obtain ⟨v, hv⟩ : ∃ z, (x3 == 0) = z := ⟨_, rfl⟩
  have HD := Lib.hid hd
  rw [ha, hb, hc, hd, hu, hv]
  clear k0 k1 ha hb hc hd
  have HO := Lib.hid (fun X (e : X = W.alloc (.cells #[.string x0, .slice A1 n1 c1, .int .i64 x2, .int .i64 x3] 50)) => (one_new1 W 50 #[.string x0, .slice A1 n1 c1, .int .i64 x2, .int .i64 x3] X e).2.1)
  show Calls Tryd.prog 63 #[.agg #[.string x0, .slice A1 n1 c1, .int .i64 x2, .int .i64 x3]] W _
  cases a
  · skip
    have tk1 : True := trivial
    go_enter Tryd.func63, Tryd.ntmps63
    go_wp2_with (first | (go_at_call 29; refine Calls.mono (spec_IsName_any x0 _ HS.out) ?_; rintro e w1 ⟨rfl, rfl⟩; rw [HA.out]))
    go_ret
    exact ⟨rfl, HO.out _ rfl⟩
  cases b
  · skip
    have tk1 : True := trivial
    go_enter Tryd.func63, Tryd.ntmps63
    go_wp2_with (first | (go_at_call 29; refine Calls.mono (spec_IsName_any x0 _ HS.out) ?_; rintro e w1 ⟨rfl, rfl⟩; rw [HA.out]) | (go_at_call 62; refine Calls.mono (l21Lines_any A1 n1 c1 40 200 x1 _ (HK1.out.go (HO.out _ rfl)) (by decide) (by decide)) ?_; rintro e w1 ⟨rfl, rfl⟩; rw [HB.out]))
    go_ret
    exact ⟨rfl, HO.out _ rfl⟩
  cases c
  · skip
    have tk1 : True := trivial
    go_enter Tryd.func63, Tryd.ntmps63
    go_wp2_with (first | (go_at_call 29; refine Calls.mono (spec_IsName_any x0 _ HS.out) ?_; rintro e w1 ⟨rfl, rfl⟩; rw [HA.out]) | (go_at_call 62; refine Calls.mono (l21Lines_any A1 n1 c1 40 200 x1 _ (HK1.out.go (HO.out _ rfl)) (by decide) (by decide)) ?_; rintro e w1 ⟨rfl, rfl⟩; rw [HB.out]) | (go_at_call 30; have tk := tk1; refine Calls.mono (l00In_any x2 0 3 _) ?_; rintro e w1 ⟨rfl, rfl⟩; rw [HC.out]; clear tk tk1))
    go_ret
    exact ⟨rfl, HO.out _ rfl⟩
  cases d <;> cases u <;> cases v
  all_goals
    have tk1 : True := trivial
    go_enter Tryd.func63, Tryd.ntmps63
    go_wp2_with (first | (go_at_call 29; refine Calls.mono (spec_IsName_any x0 _ HS.out) ?_; rintro e w1 ⟨rfl, rfl⟩; rw [HA.out]) | (go_at_call 62; refine Calls.mono (l21Lines_any A1 n1 c1 40 200 x1 _ (HK1.out.go (HO.out _ rfl)) (by decide) (by decide)) ?_; rintro e w1 ⟨rfl, rfl⟩; rw [HB.out]) | (go_at_call 30; have tk := tk1; refine Calls.mono (l00In_any x2 0 3 _) ?_; rintro e w1 ⟨rfl, rfl⟩; rw [HC.out]; clear tk tk1) | (go_at_call 30; refine Calls.mono (l00In_any x3 0 (n1 : Int) _) ?_; rintro e w1 ⟨rfl, rfl⟩; rw [HD.out]))
    go_ret
    exact ⟨rfl, HO.out _ rfl⟩

theorem at_mode (m a : Int) (n : Nat) (p : Int) (h : p = if m = 1 then (n : Int) else 0) : decide (0 ≤ a ∧ a ≤ p) = (decide (0 ≤ a ∧ a ≤ (n : Int)) && ((m == 1) || (a == 0))) := by
  subst h
  rw [Bool.eq_iff_iff]
  simp only [Bool.and_eq_true, Bool.or_eq_true, decide_eq_true_eq, beq_iff_eq]
  split <;> omega
end Go.Proofs.YtlohjmlenbkbmaaDoor

namespace Go.Proofs.YtlohjmlenbkbmaaDoor
open Go Go.RowKit

/-- What toConsole answers. -/
def ToCn (x : Cn) (W : World) (e : Ending) (w' : World) : Prop := ∃ l, e = .returned (x.ag l) ∧ Hid (CnV w' w'.heap.size x l ∧ Below W.heap.size W w' ∧ l.n0 = x.input_.length ∧ l.n2 = x.output_.length ∧ l.n3 = x.files_.length ∧ l.n4 = x.trace_.length ∧ ∃ b0 b2 b3 b4, l.A0 = some ⟨b0, 0, none⟩ ∧ l.A2 = some ⟨b2, 0, none⟩ ∧ l.A3 = some ⟨b3, 0, none⟩ ∧ l.A4 = some ⟨b4, 0, none⟩ ∧ W.heap.size ≤ b0 ∧ W.heap.size ≤ b2 ∧ W.heap.size ≤ b3 ∧ W.heap.size ≤ b4)

set_option maxHeartbeats 2000000 in
set_option maxRecDepth 100000 in
theorem toConsole_any (x : Cn) (l : CnLay) (W : World) (ho : CnV W W.heap.size x l) (hsm : CnSmall x) :
    Calls Tryd.prog 11 #[x.ag l] W (ToCn x W) := by
  obtain ⟨x0, x1, x2, x3, x4⟩ := x
  obtain ⟨A0, n0, c0, h0, A2, n2, c2, h2, A3, n3, c3, h3, A4, n4, c4, h4⟩ := l
  obtain ⟨k0, k2, k3, k4⟩ := ho
  obtain ⟨s0, s2, s3, s4⟩ := hsm
  try unfold CnV at k0 k2 k3 k4
  try unfold CnSmall at s0 s2 s3 s4
  dsimp only at k0 k2 k3 k4 s0 s2 s3 s4
  rw [k0.1] at s0
  have HK0 := Lib.hid k0
  have HS0 := Lib.hid s0
  rw [k2.1] at s2
  have HK2 := Lib.hid k2
  have HS2 := Lib.hid s2
  rw [k3.1] at s3
  have HK3 := Lib.hid k3
  have HS3 := Lib.hid s3
  rw [k4.1] at s4
  have HK4 := Lib.hid k4
  have HS4 := Lib.hid s4
  clear k0 k2 k3 k4 s0 s2 s3 s4
  have HC := Lib.hid (fun (X Y : World) (T T' : TypeId) (c c' : Array Value) (eY : Y = W.alloc (.cells #[.slice A0 n0 c0, .int .i64 x1, .slice A2 n2 c2, .slice A3 n3 c3, .slice A4 n4 c4] T)) (eX : X = (Y.alloc (.cells c T')).alloc (.cells c' T')) =>
    (show RW T X W.heap.size #[.slice A0 n0 c0, .int .i64 x1, .slice A2 n2 c2, .slice A3 n3 c3, .slice A4 n4 c4] ∧ RW T' X (W.heap.size + 1 + 1) c' ∧ RW T' X (W.heap.size + 1) c ∧ Below W.heap.size W X ∧ X.heap.size = W.heap.size + 3 from by
      subst eX; subst eY
      refine ⟨((RW.new W _ T).alloc _).alloc _, ?_, ?_, ((below_alloc _ _).alloc (by simp) _).alloc (by simp; omega) _, by simp⟩
      · have := RW.new ((W.alloc (.cells #[.slice A0 n0 c0, .int .i64 x1, .slice A2 n2 c2, .slice A3 n3 c3, .slice A4 n4 c4] T)).alloc (.cells c T')) c' T'
        simpa using this
      · have := (RW.new (W.alloc (.cells #[.slice A0 n0 c0, .int .i64 x1, .slice A2 n2 c2, .slice A3 n3 c3, .slice A4 n4 c4] T)) c T').alloc (.cells c' T')
        simpa using this))
  show Calls Tryd.prog 11 #[.agg #[.slice A0 n0 c0, .int .i64 x1, .slice A2 n2 c2, .slice A3 n3 c3, .slice A4 n4 c4]] W _
  go_enter Tryd.func11, Tryd.ntmps11
  go_wp2_with (go_at_call 34; obtain ⟨g0, g1, g4, g2, g3⟩ := HC.out _ _ _ _ _ _ rfl rfl; have HQ := toStringS_any A0 n0 c0 x0 _ (HK0.out.go g2) HS0.out; refine Calls.mono HQ ?_; clear HQ; rintro e w1 ⟨rfl, h⟩; obtain ⟨hv, hb⟩ := h.out; have hd := hv.det; rw [g3] at hv hd; have HA1 := Lib.hid (g0.below hb (by omega)); have HR1 := Lib.hid (g1.below hb (by omega)); have HO1 := Lib.hid (g4.below hb (by omega)); have HB1 := Lib.hid (g2.trans (hb.mono g2.size)); have HV1_0 : Hid (Det (W.heap.size + 1 + 1 + 1) w1.heap.size w1 fun w => StI w w1.heap.size (some ⟨W.heap.size + 1 + 1 + 1, 0, none⟩) n0 x0) := hd; have HG1 : Hid (W.heap.size + 3 ≤ w1.heap.size) := (by have := hb.size; show _ ≤ _; omega); clear g0 g1 g2 g3 g4 h hv hd hb HK0; have q11 : w1.cell? ⟨W.heap.size, 1, none⟩ = some (.int .i64 x1) := HA1.out.cell 1; have q12 : w1.cell? ⟨W.heap.size, 2, none⟩ = some (.slice A2 n2 c2) := HA1.out.cell 2; have p10 : w1.cell? ⟨W.heap.size + 1 + 1, 0, none⟩ = some (.slice none 0 0) := HR1.out.cell 0; have f10 := HR1.out.frozen 0; have p11 : w1.cell? ⟨W.heap.size + 1 + 1, 1, none⟩ = some (.int .i64 0) := HR1.out.cell 1; have f11 := HR1.out.frozen 1)
  go_wp2_with (go_at_call 34; have hbs : Below (W.heap.size + 2) w1 ((w1.setCell ⟨W.heap.size + 1 + 1, 0, none⟩ (.slice (some ⟨W.heap.size + 1 + 1 + 1, 0, none⟩) n0 n0)).setCell ⟨W.heap.size + 1 + 1, 1, none⟩ (.int .i64 x1)) := (below_set w1 (p := ⟨W.heap.size + 1 + 1, 0, none⟩) (B := W.heap.size + 2) (Nat.le_refl _) (.slice (some ⟨W.heap.size + 1 + 1 + 1, 0, none⟩) n0 n0)).setCell (Nat.le_refl _) (.int .i64 x1); have hzz : ((w1.setCell ⟨W.heap.size + 1 + 1, 0, none⟩ (.slice (some ⟨W.heap.size + 1 + 1 + 1, 0, none⟩) n0 n0)).setCell ⟨W.heap.size + 1 + 1, 1, none⟩ (.int .i64 x1)).heap.size = w1.heap.size := (by simp [World.setCell]); have HQ := toStringS_any A2 n2 c2 x2 ((w1.setCell ⟨W.heap.size + 1 + 1, 0, none⟩ (.slice (some ⟨W.heap.size + 1 + 1 + 1, 0, none⟩) n0 n0)).setCell ⟨W.heap.size + 1 + 1, 1, none⟩ (.int .i64 x1)) (HK2.out.go (HB1.out.trans (hbs.mono (by omega)))) HS2.out; refine Calls.mono HQ ?_; clear HQ; rintro e w2 ⟨rfl, h⟩; obtain ⟨hv, hb⟩ := h.out; have hd := hv.det; rw [hzz] at hb hv hd; have hsz := hb.size; rw [hzz] at hsz; have hs1 := HG1.out; have HA2 := Lib.hid ((HA1.out.below hbs (by omega)).below hb (by omega)); have HR2 := Lib.hid ((((HR1.out).set_ 0 (.slice (some ⟨W.heap.size + 1 + 1 + 1, 0, none⟩) n0 n0)).set_ 1 (.int .i64 x1)).below hb (by omega)); have HO2 := Lib.hid ((HO1.out.below hbs (by omega)).below hb (by omega)); have HB2 := Lib.hid ((HB1.out.trans (hbs.mono (by omega))).trans (hb.mono (by omega))); have HG2 : Hid (W.heap.size + 3 ≤ w2.heap.size) := (Nat.le_trans hs1 hsz); have HV2_2 : Hid (Det (w1.heap.size) w2.heap.size w2 fun w => StI w w2.heap.size (some ⟨w1.heap.size, 0, none⟩) n2 x2) := hd; have HZ2 : Hid (w1.heap.size ≠ W.heap.size + 1 + 1) := (by show _ ≠ _; omega); have HV2_0 := Lib.hid ((((((HV1_0.out).set (p := ⟨W.heap.size + 1 + 1, 0, none⟩) (by have := HG1.out; dsimp only; omega) (.slice (some ⟨W.heap.size + 1 + 1 + 1, 0, none⟩) n0 n0)).set (p := ⟨W.heap.size + 1 + 1, 1, none⟩) (by have := HG1.out; dsimp only; omega) (.int .i64 x1)).below hb (by omega)).wide (Nat.le_refl _) hsz).imp fun w h => h.more hsz); clear hbs hzz hb hv hd h hsz hs1 HK2; have q23 : w2.cell? ⟨W.heap.size, 3, none⟩ = some (.slice A3 n3 c3) := HA2.out.cell 3; have p22 : w2.cell? ⟨W.heap.size + 1 + 1, 2, none⟩ = some (.slice none 0 0) := HR2.out.cell 2; have f22 := HR2.out.frozen 2)
  go_wp2_with (go_at_call 35; have hbs : Below (W.heap.size + 2) w2 (w2.setCell ⟨W.heap.size + 1 + 1, 2, none⟩ (.slice (some ⟨w1.heap.size, 0, none⟩) n2 n2)) := below_set w2 (p := ⟨W.heap.size + 1 + 1, 2, none⟩) (B := W.heap.size + 2) (Nat.le_refl _) (.slice (some ⟨w1.heap.size, 0, none⟩) n2 n2); have hzz : (w2.setCell ⟨W.heap.size + 1 + 1, 2, none⟩ (.slice (some ⟨w1.heap.size, 0, none⟩) n2 n2)).heap.size = w2.heap.size := (by simp [World.setCell]); have HQ := toFileS_any A3 n3 c3 x3 (w2.setCell ⟨W.heap.size + 1 + 1, 2, none⟩ (.slice (some ⟨w1.heap.size, 0, none⟩) n2 n2)) (HK3.out.go (HB2.out.trans (hbs.mono (by omega)))) HS3.out.1 HS3.out.2; refine Calls.mono HQ ?_; clear HQ; rintro e w3 ⟨rfl, h⟩; obtain ⟨hv, hb, hd⟩ := h.out; rw [hzz] at hb hv hd; have hsz := hb.size; rw [hzz] at hsz; have hs1 := HG2.out; have HA3 := Lib.hid ((HA2.out.below hbs (by omega)).below hb (by omega)); have HR3 := Lib.hid (((HR2.out).set_ 2 (.slice (some ⟨w1.heap.size, 0, none⟩) n2 n2)).below hb (by omega)); have HO3 := Lib.hid ((HO2.out.below hbs (by omega)).below hb (by omega)); have HB3 := Lib.hid ((HB2.out.trans (hbs.mono (by omega))).trans (hb.mono (by omega))); have HG3 : Hid (W.heap.size + 3 ≤ w3.heap.size) := (Nat.le_trans hs1 hsz); have HV3_3 : Hid (Det (w2.heap.size) w3.heap.size w3 fun w => FlI w w3.heap.size (some ⟨w2.heap.size, 0, none⟩) n3 x3) := hd; have HZ3 : Hid (w2.heap.size ≠ W.heap.size + 1 + 1) := (by show _ ≠ _; omega); have HV3_0 := Lib.hid (((((HV2_0.out).set (p := ⟨W.heap.size + 1 + 1, 2, none⟩) (by have := HG2.out; dsimp only; omega) (.slice (some ⟨w1.heap.size, 0, none⟩) n2 n2)).below hb (by omega)).wide (Nat.le_refl _) hsz).imp fun w h => h.more hsz); have HV3_2 := Lib.hid (((((HV2_2.out).set (p := ⟨W.heap.size + 1 + 1, 2, none⟩) (by have := HG1.out; dsimp only; omega) (.slice (some ⟨w1.heap.size, 0, none⟩) n2 n2)).below hb (by omega)).wide (Nat.le_refl _) hsz).imp fun w h => h.more hsz); clear hbs hzz hb hv hd h hsz hs1 HK3; have q34 : w3.cell? ⟨W.heap.size, 4, none⟩ = some (.slice A4 n4 c4) := HA3.out.cell 4; have p33 : w3.cell? ⟨W.heap.size + 1 + 1, 3, none⟩ = some (.slice none 0 0) := HR3.out.cell 3; have f33 := HR3.out.frozen 3)
  go_wp2_with (go_at_call 34; have hbs : Below (W.heap.size + 2) w3 (w3.setCell ⟨W.heap.size + 1 + 1, 3, none⟩ (.slice (some ⟨w2.heap.size, 0, none⟩) n3 n3)) := below_set w3 (p := ⟨W.heap.size + 1 + 1, 3, none⟩) (B := W.heap.size + 2) (Nat.le_refl _) (.slice (some ⟨w2.heap.size, 0, none⟩) n3 n3); have hzz : (w3.setCell ⟨W.heap.size + 1 + 1, 3, none⟩ (.slice (some ⟨w2.heap.size, 0, none⟩) n3 n3)).heap.size = w3.heap.size := (by simp [World.setCell]); have HQ := toStringS_any A4 n4 c4 x4 (w3.setCell ⟨W.heap.size + 1 + 1, 3, none⟩ (.slice (some ⟨w2.heap.size, 0, none⟩) n3 n3)) (HK4.out.go (HB3.out.trans (hbs.mono (by omega)))) HS4.out; refine Calls.mono HQ ?_; clear HQ; rintro e w4 ⟨rfl, h⟩; obtain ⟨hv, hb⟩ := h.out; have hd := hv.det; rw [hzz] at hb hv hd; have hsz := hb.size; rw [hzz] at hsz; have hs1 := HG3.out; have HA4 := Lib.hid ((HA3.out.below hbs (by omega)).below hb (by omega)); have HR4 := Lib.hid (((HR3.out).set_ 3 (.slice (some ⟨w2.heap.size, 0, none⟩) n3 n3)).below hb (by omega)); have HO4 := Lib.hid ((HO3.out.below hbs (by omega)).below hb (by omega)); have HB4 := Lib.hid ((HB3.out.trans (hbs.mono (by omega))).trans (hb.mono (by omega))); have HG4 : Hid (W.heap.size + 3 ≤ w4.heap.size) := (Nat.le_trans hs1 hsz); have HV4_4 : Hid (Det (w3.heap.size) w4.heap.size w4 fun w => StI w w4.heap.size (some ⟨w3.heap.size, 0, none⟩) n4 x4) := hd; have HZ4 : Hid (w3.heap.size ≠ W.heap.size + 1 + 1) := (by show _ ≠ _; omega); have HV4_0 := Lib.hid (((((HV3_0.out).set (p := ⟨W.heap.size + 1 + 1, 3, none⟩) (by have := HG3.out; dsimp only; omega) (.slice (some ⟨w2.heap.size, 0, none⟩) n3 n3)).below hb (by omega)).wide (Nat.le_refl _) hsz).imp fun w h => h.more hsz); have HV4_2 := Lib.hid (((((HV3_2.out).set (p := ⟨W.heap.size + 1 + 1, 3, none⟩) (by have := HG1.out; dsimp only; omega) (.slice (some ⟨w2.heap.size, 0, none⟩) n3 n3)).below hb (by omega)).wide (Nat.le_refl _) hsz).imp fun w h => h.more hsz); have HV4_3 := Lib.hid (((((HV3_3.out).set (p := ⟨W.heap.size + 1 + 1, 3, none⟩) (by have := HG2.out; dsimp only; omega) (.slice (some ⟨w2.heap.size, 0, none⟩) n3 n3)).below hb (by omega)).wide (Nat.le_refl _) hsz).imp fun w h => h.more hsz); clear hbs hzz hb hv hd h hsz hs1 HK4; have p44 : w4.cell? ⟨W.heap.size + 1 + 1, 4, none⟩ = some (.slice none 0 0) := HR4.out.cell 4; have f44 := HR4.out.frozen 4; have p40 : w4.cell? ⟨W.heap.size + 1 + 1, 0, none⟩ = some (.slice (some ⟨W.heap.size + 1 + 1 + 1, 0, none⟩) n0 n0) := HR4.out.cell 0; have p41 : w4.cell? ⟨W.heap.size + 1 + 1, 1, none⟩ = some (.int .i64 x1) := HR4.out.cell 1; have p42 : w4.cell? ⟨W.heap.size + 1 + 1, 2, none⟩ = some (.slice (some ⟨w1.heap.size, 0, none⟩) n2 n2) := HR4.out.cell 2; have p43 : w4.cell? ⟨W.heap.size + 1 + 1, 3, none⟩ = some (.slice (some ⟨w2.heap.size, 0, none⟩) n3 n3) := HR4.out.cell 3; have r0 : w4.cell? ⟨W.heap.size + 1, 0, none⟩ = some (.slice none 0 0) := HO4.out.cell 0; have z0 := HO4.out.frozen 0; have r1 : w4.cell? ⟨W.heap.size + 1, 1, none⟩ = some (.int .i64 0) := HO4.out.cell 1; have z1 := HO4.out.frozen 1; have r2 : w4.cell? ⟨W.heap.size + 1, 2, none⟩ = some (.slice none 0 0) := HO4.out.cell 2; have z2 := HO4.out.frozen 2; have r3 : w4.cell? ⟨W.heap.size + 1, 3, none⟩ = some (.slice none 0 0) := HO4.out.cell 3; have z3 := HO4.out.frozen 3; have r4 : w4.cell? ⟨W.heap.size + 1, 4, none⟩ = some (.slice none 0 0) := HO4.out.cell 4; have z4 := HO4.out.frozen 4)
  have hs1 := HG4.out
  have hb1 : Below (W.heap.size + 1) w4 ((((((w4.setCell ⟨W.heap.size + 1 + 1, 4, none⟩ (.slice (some ⟨w3.heap.size, 0, none⟩) n4 n4)).setCell ⟨W.heap.size + 1, 0, none⟩ (.slice (some ⟨W.heap.size + 1 + 1 + 1, 0, none⟩) n0 n0)).setCell ⟨W.heap.size + 1, 1, none⟩ (.int .i64 x1)).setCell ⟨W.heap.size + 1, 2, none⟩ (.slice (some ⟨w1.heap.size, 0, none⟩) n2 n2)).setCell ⟨W.heap.size + 1, 3, none⟩ (.slice (some ⟨w2.heap.size, 0, none⟩) n3 n3)).setCell ⟨W.heap.size + 1, 4, none⟩ (.slice (some ⟨w3.heap.size, 0, none⟩) n4 n4)) := ((((((below_set w4 (p := ⟨W.heap.size + 1 + 1, 4, none⟩) (by simp) _).setCell (by simp) _).setCell (by simp) _).setCell (by simp) _).setCell (by simp) _).setCell (by simp) _)
  have hzz : ((((((w4.setCell ⟨W.heap.size + 1 + 1, 4, none⟩ (.slice (some ⟨w3.heap.size, 0, none⟩) n4 n4)).setCell ⟨W.heap.size + 1, 0, none⟩ (.slice (some ⟨W.heap.size + 1 + 1 + 1, 0, none⟩) n0 n0)).setCell ⟨W.heap.size + 1, 1, none⟩ (.int .i64 x1)).setCell ⟨W.heap.size + 1, 2, none⟩ (.slice (some ⟨w1.heap.size, 0, none⟩) n2 n2)).setCell ⟨W.heap.size + 1, 3, none⟩ (.slice (some ⟨w2.heap.size, 0, none⟩) n3 n3)).setCell ⟨W.heap.size + 1, 4, none⟩ (.slice (some ⟨w3.heap.size, 0, none⟩) n4 n4)).heap.size = w4.heap.size := by simp [World.setCell]
  refine bodyPost_ret (v := .agg #[.slice (some ⟨W.heap.size + 1 + 1 + 1, 0, none⟩) n0 n0, .int .i64 x1, .slice (some ⟨w1.heap.size, 0, none⟩) n2 n2, .slice (some ⟨w2.heap.size, 0, none⟩) n3 n3, .slice (some ⟨w3.heap.size, 0, none⟩) n4 n4]) (results_cell_row Tryd.results11 _ _ (W.heap.size + 1) 29 _ (0, 0) _ rfl ((((((((((((HO4.out).other (p := ⟨W.heap.size + 1 + 1, 4, none⟩) (by simp) (.slice (some ⟨w3.heap.size, 0, none⟩) n4 n4))).set_ 0 (.slice (some ⟨W.heap.size + 1 + 1 + 1, 0, none⟩) n0 n0))).set_ 1 (.int .i64 x1))).set_ 2 (.slice (some ⟨w1.heap.size, 0, none⟩) n2 n2))).set_ 3 (.slice (some ⟨w2.heap.size, 0, none⟩) n3 n3))).set_ 4 (.slice (some ⟨w3.heap.size, 0, none⟩) n4 n4)) Tryd.underlying29 rfl (by kernel_rfl)) rfl ⟨⟨some ⟨W.heap.size + 1 + 1 + 1, 0, none⟩, n0, n0, Nat.le_refl _, some ⟨w1.heap.size, 0, none⟩, n2, n2, Nat.le_refl _, some ⟨w2.heap.size, 0, none⟩, n3, n3, Nat.le_refl _, some ⟨w3.heap.size, 0, none⟩, n4, n4, Nat.le_refl _⟩, rfl, Lib.hid ⟨?_, HB4.out.trans (hb1.mono (by omega)), HV4_0.out.self.1.symm, HV4_2.out.self.1.symm, HV4_3.out.self.1.symm, HV4_4.out.self.1.symm, _, _, _, _, rfl, rfl, rfl, rfl, by omega, by have := HG1.out; have := HG2.out; have := HG3.out; have := HG4.out; omega, by have := HG1.out; have := HG2.out; have := HG3.out; have := HG4.out; omega, by have := HG1.out; have := HG2.out; have := HG3.out; have := HG4.out; omega⟩⟩
  show CnV ((((((w4.setCell ⟨W.heap.size + 1 + 1, 4, none⟩ (.slice (some ⟨w3.heap.size, 0, none⟩) n4 n4)).setCell ⟨W.heap.size + 1, 0, none⟩ (.slice (some ⟨W.heap.size + 1 + 1 + 1, 0, none⟩) n0 n0)).setCell ⟨W.heap.size + 1, 1, none⟩ (.int .i64 x1)).setCell ⟨W.heap.size + 1, 2, none⟩ (.slice (some ⟨w1.heap.size, 0, none⟩) n2 n2)).setCell ⟨W.heap.size + 1, 3, none⟩ (.slice (some ⟨w2.heap.size, 0, none⟩) n3 n3)).setCell ⟨W.heap.size + 1, 4, none⟩ (.slice (some ⟨w3.heap.size, 0, none⟩) n4 n4)) ((((((w4.setCell ⟨W.heap.size + 1 + 1, 4, none⟩ (.slice (some ⟨w3.heap.size, 0, none⟩) n4 n4)).setCell ⟨W.heap.size + 1, 0, none⟩ (.slice (some ⟨W.heap.size + 1 + 1 + 1, 0, none⟩) n0 n0)).setCell ⟨W.heap.size + 1, 1, none⟩ (.int .i64 x1)).setCell ⟨W.heap.size + 1, 2, none⟩ (.slice (some ⟨w1.heap.size, 0, none⟩) n2 n2)).setCell ⟨W.heap.size + 1, 3, none⟩ (.slice (some ⟨w2.heap.size, 0, none⟩) n3 n3)).setCell ⟨W.heap.size + 1, 4, none⟩ (.slice (some ⟨w3.heap.size, 0, none⟩) n4 n4)).heap.size ⟨x0, x1, x2, x3, x4⟩ ⟨some ⟨W.heap.size + 1 + 1 + 1, 0, none⟩, n0, n0, Nat.le_refl _, some ⟨w1.heap.size, 0, none⟩, n2, n2, Nat.le_refl _, some ⟨w2.heap.size, 0, none⟩, n3, n3, Nat.le_refl _, some ⟨w3.heap.size, 0, none⟩, n4, n4, Nat.le_refl _⟩
  rw [hzz]
  exact ⟨((((((((((((HV4_0.out).set (p := ⟨W.heap.size + 1 + 1, 4, none⟩) (by first | (dsimp only; omega) | omega) _)).set (p := ⟨W.heap.size + 1, 0, none⟩) (by first | (dsimp only; omega) | omega) _)).set (p := ⟨W.heap.size + 1, 1, none⟩) (by first | (dsimp only; omega) | omega) _)).set (p := ⟨W.heap.size + 1, 2, none⟩) (by first | (dsimp only; omega) | omega) _)).set (p := ⟨W.heap.size + 1, 3, none⟩) (by first | (dsimp only; omega) | omega) _)).set (p := ⟨W.heap.size + 1, 4, none⟩) (by first | (dsimp only; omega) | omega) _).self, ((((((((((((HV4_2.out).set (p := ⟨W.heap.size + 1 + 1, 4, none⟩) (by have := HG1.out; first | (dsimp only; omega) | omega) _)).set (p := ⟨W.heap.size + 1, 0, none⟩) (by have := HG1.out; first | (dsimp only; omega) | omega) _)).set (p := ⟨W.heap.size + 1, 1, none⟩) (by have := HG1.out; first | (dsimp only; omega) | omega) _)).set (p := ⟨W.heap.size + 1, 2, none⟩) (by have := HG1.out; first | (dsimp only; omega) | omega) _)).set (p := ⟨W.heap.size + 1, 3, none⟩) (by have := HG1.out; first | (dsimp only; omega) | omega) _)).set (p := ⟨W.heap.size + 1, 4, none⟩) (by have := HG1.out; first | (dsimp only; omega) | omega) _).self, ((((((((((((HV4_3.out).set (p := ⟨W.heap.size + 1 + 1, 4, none⟩) (by have := HG2.out; first | (dsimp only; omega) | omega) _)).set (p := ⟨W.heap.size + 1, 0, none⟩) (by have := HG2.out; first | (dsimp only; omega) | omega) _)).set (p := ⟨W.heap.size + 1, 1, none⟩) (by have := HG2.out; first | (dsimp only; omega) | omega) _)).set (p := ⟨W.heap.size + 1, 2, none⟩) (by have := HG2.out; first | (dsimp only; omega) | omega) _)).set (p := ⟨W.heap.size + 1, 3, none⟩) (by have := HG2.out; first | (dsimp only; omega) | omega) _)).set (p := ⟨W.heap.size + 1, 4, none⟩) (by have := HG2.out; first | (dsimp only; omega) | omega) _).self, ((((((((((((HV4_4.out).set (p := ⟨W.heap.size + 1 + 1, 4, none⟩) (by have := HG3.out; first | (dsimp only; omega) | omega) _)).set (p := ⟨W.heap.size + 1, 0, none⟩) (by have := HG3.out; first | (dsimp only; omega) | omega) _)).set (p := ⟨W.heap.size + 1, 1, none⟩) (by have := HG3.out; first | (dsimp only; omega) | omega) _)).set (p := ⟨W.heap.size + 1, 2, none⟩) (by have := HG3.out; first | (dsimp only; omega) | omega) _)).set (p := ⟨W.heap.size + 1, 3, none⟩) (by have := HG3.out; first | (dsimp only; omega) | omega) _)).set (p := ⟨W.heap.size + 1, 4, none⟩) (by have := HG3.out; first | (dsimp only; omega) | omega) _).self⟩


end Go.Proofs.YtlohjmlenbkbmaaDoor

namespace Go.Proofs.YtlohjmlenbkbmaaDoor
open Go Go.RowKit

set_option maxHeartbeats 1000000 in
set_option maxRecDepth 100000 in
theorem eqConsole_same (x : Cn) (l l' : CnLay) (W : World) (ho : CnV W W.heap.size x l) (ho' : CnV W W.heap.size x l') :
    Calls Tryd.prog 13 #[x.ag l, x.ag l'] W fun e w' => e = .returned (.bool true) ∧ Below W.heap.size W w' := by
  obtain ⟨x0, x1, x2, x3, x4⟩ := x
  obtain ⟨A0, n0, c0, h0, A2, n2, c2, h2, A3, n3, c3, h3, A4, n4, c4, h4⟩ := l
  obtain ⟨A0', n0', c0', h0', A2', n2', c2', h2', A3', n3', c3', h3', A4', n4', c4', h4'⟩ := l'
  obtain ⟨k0, k2, k3, k4⟩ := ho
  obtain ⟨j0, j2, j3, j4⟩ := ho'
  try unfold CnV at k0 j0 k2 j2 k3 j3 k4 j4
  dsimp only at k0 j0 k2 j2 k3 j3 k4 j4
  obtain rfl : n0 = n0' := k0.1.symm.trans j0.1
  have HK0 := Lib.hid k0
  have HJ0 := Lib.hid j0
  obtain rfl : n2 = n2' := k2.1.symm.trans j2.1
  have HK2 := Lib.hid k2
  have HJ2 := Lib.hid j2
  obtain rfl : n3 = n3' := k3.1.symm.trans j3.1
  have HK3 := Lib.hid k3
  have HJ3 := Lib.hid j3
  obtain rfl : n4 = n4' := k4.1.symm.trans j4.1
  have HK4 := Lib.hid k4
  have HJ4 := Lib.hid j4
  clear k0 j0 k2 j2 k3 j3 k4 j4
  have HC := Lib.hid (two_new W 29 #[.slice A0 n0 c0, .int .i64 x1, .slice A2 n2 c2, .slice A3 n3 c3, .slice A4 n4 c4] #[.slice A0' n0 c0', .int .i64 x1, .slice A2' n2 c2', .slice A3' n3 c3', .slice A4' n4 c4'])
  show Calls Tryd.prog 13 #[.agg #[.slice A0 n0 c0, .int .i64 x1, .slice A2 n2 c2, .slice A3 n3 c3, .slice A4 n4 c4], .agg #[.slice A0' n0 c0', .int .i64 x1, .slice A2' n2 c2', .slice A3' n3 c3', .slice A4' n4 c4']] W _
  go_enter Tryd.func13, Tryd.ntmps13
  go_wp2_with (go_at_call 41; obtain ⟨g0, g1, g2, g3⟩ := HC.out _ rfl; have HQ := eqStringS_same A0 A0' n0 c0 c0' x0 _ (HK0.out.go g2) (HJ0.out.go g2); refine Calls.mono HQ ?_; clear HQ; rintro e w1 ⟨rfl, hb⟩; have HA1 := Lib.hid (g0.below hb (by omega)); have HD1 := Lib.hid (g1.below hb (by omega)); have HB1 := Lib.hid (g2.trans (hb.mono g2.size)); have HG1 : Hid (W.heap.size + 2 ≤ w1.heap.size) := (by have := hb.size; show _ ≤ _; omega); have q11 : w1.cell? ⟨W.heap.size, 1, none⟩ = some (.int .i64 x1) := HA1.out.cell 1; have p11 : w1.cell? ⟨W.heap.size + 1, 1, none⟩ = some (.int .i64 x1) := HD1.out.cell 1; have q12 : w1.cell? ⟨W.heap.size, 2, none⟩ = some (.slice A2 n2 c2) := HA1.out.cell 2; have p12 : w1.cell? ⟨W.heap.size + 1, 2, none⟩ = some (.slice A2' n2 c2') := HD1.out.cell 2; clear g0 g1 g2 g3 hb HK0)
  go_wp2_with (go_at_call 41; have HQ := eqStringS_same A2 A2' n2 c2 c2' x2 _ (HK2.out.go HB1.out) (HJ2.out.go HB1.out); refine Calls.mono HQ ?_; clear HQ; rintro e w2 ⟨rfl, hb⟩; have hg := HG1.out; have HA2 := Lib.hid (HA1.out.below hb (by omega)); have HD2 := Lib.hid (HD1.out.below hb (by omega)); have HB2 := Lib.hid (HB1.out.trans (hb.mono HB1.out.size)); have HG2 : Hid (W.heap.size + 2 ≤ w2.heap.size) := (Nat.le_trans hg hb.size); have q23 : w2.cell? ⟨W.heap.size, 3, none⟩ = some (.slice A3 n3 c3) := HA2.out.cell 3; have p23 : w2.cell? ⟨W.heap.size + 1, 3, none⟩ = some (.slice A3' n3 c3') := HD2.out.cell 3; clear hg hb HK2)
  go_wp2_with (go_at_call 42; have HQ := eqFileS_same A3 A3' n3 c3 c3' x3 _ (HK3.out.go HB2.out) (HJ3.out.go HB2.out); refine Calls.mono HQ ?_; clear HQ; rintro e w3 ⟨rfl, hb⟩; have hg := HG2.out; have HA3 := Lib.hid (HA2.out.below hb (by omega)); have HD3 := Lib.hid (HD2.out.below hb (by omega)); have HB3 := Lib.hid (HB2.out.trans (hb.mono HB2.out.size)); have HG3 : Hid (W.heap.size + 2 ≤ w3.heap.size) := (Nat.le_trans hg hb.size); have q34 : w3.cell? ⟨W.heap.size, 4, none⟩ = some (.slice A4 n4 c4) := HA3.out.cell 4; have p34 : w3.cell? ⟨W.heap.size + 1, 4, none⟩ = some (.slice A4' n4 c4') := HD3.out.cell 4; clear hg hb HK3)
  go_wp2_with (go_at_call 41; have HQ := eqStringS_same A4 A4' n4 c4 c4' x4 _ (HK4.out.go HB3.out) (HJ4.out.go HB3.out); refine Calls.mono HQ ?_; clear HQ; rintro e w4 ⟨rfl, hb⟩; have hg := HG3.out; have HA4 := Lib.hid (HA3.out.below hb (by omega)); have HD4 := Lib.hid (HD3.out.below hb (by omega)); have HB4 := Lib.hid (HB3.out.trans (hb.mono HB3.out.size)); have HG4 : Hid (W.heap.size + 2 ≤ w4.heap.size) := (Nat.le_trans hg hb.size); clear hg hb HK4)
  all_goals go_ret
  all_goals exact ⟨rfl, HB4.out⟩

/-- Two in two blocks, and their lists. -/
def TwoCn (wr : World) (b b' p p' : Nat) (x y : Cn) (l l' : CnLay) (w : World) : Prop := CnAt w b p x l ∧ CnAt w b' p' y l' ∧ CnV w w.heap.size x l ∧ CnV w w.heap.size y l' ∧ Below wr.heap.size wr w ∧ b < w.heap.size ∧ b' < w.heap.size
theorem TwoCn.grow {wr w w' : World} {b b' p p' : Nat} {x y : Cn} {l l' : CnLay} (h : TwoCn wr b b' p p' x y l l' w) (hb : Below w.heap.size w w') : TwoCn wr b b' p p' x y l l' w' :=
  ⟨h.1.below hb h.2.2.2.2.2.1, h.2.1.below hb h.2.2.2.2.2.2, (h.2.2.1.below hb).more hb.size, (h.2.2.2.1.below hb).more hb.size, h.2.2.2.2.1.trans (hb.mono h.2.2.2.2.1.size), Nat.lt_of_lt_of_le h.2.2.2.2.2.1 hb.size, Nat.lt_of_lt_of_le h.2.2.2.2.2.2 hb.size⟩
/-- .. cell by cell, as the walk of a region asks it. -/
abbrev FlatCn (wr : World) (b b' p p' : Nat) (x y : Cn) (l l' : CnLay) (w : World) : Prop := (w.cell? ⟨b, p, none⟩ = some (.slice l.A0 l.n0 l.c0) ∧ w.cell? ⟨b, p + 1, none⟩ = some (.int .i64 x.at_) ∧ w.cell? ⟨b, p + 2, none⟩ = some (.slice l.A2 l.n2 l.c2) ∧ w.cell? ⟨b, p + 3, none⟩ = some (.slice l.A3 l.n3 l.c3) ∧ w.cell? ⟨b, p + 4, none⟩ = some (.slice l.A4 l.n4 l.c4)) ∧ (w.cell? ⟨b', p', none⟩ = some (.slice l'.A0 l'.n0 l'.c0) ∧ w.cell? ⟨b', p' + 1, none⟩ = some (.int .i64 y.at_) ∧ w.cell? ⟨b', p' + 2, none⟩ = some (.slice l'.A2 l'.n2 l'.c2) ∧ w.cell? ⟨b', p' + 3, none⟩ = some (.slice l'.A3 l'.n3 l'.c3) ∧ w.cell? ⟨b', p' + 4, none⟩ = some (.slice l'.A4 l'.n4 l'.c4)) ∧ TwoCn wr b b' p p' x y l l' w
theorem TwoCn.flat {wr w : World} {b b' p p' : Nat} {x y : Cn} {l l' : CnLay} (h : TwoCn wr b b' p p' x y l l' w) : FlatCn wr b b' p p' x y l l' w := ⟨h.1, h.2.1, h⟩
theorem TwoCn.drew {wr : World} {b b' p p' : Nat} {x y : Cn} {l l' : CnLay} (h : TwoCn wr b b' p p' x y l l' wr) : TwoCn wr b b' p p' x y l l' wr.drew := h.grow (Below.refl _ _).drew

end Go.Proofs.YtlohjmlenbkbmaaDoor

namespace Go.Proofs.YtlohjmlenbkbmaaDoor
open Go Go.RowKit Go.Sort

/-- The lists of a console but its files. -/
def partsB (x : Cn) : Bool := linesB x.input_ 100 200 && (decide (0 ≤ x.at_ ∧ x.at_ ≤ (x.input_.length : Int)) && (linesB x.output_ 100 200 && linesB x.trace_ 200 1300))
noncomputable def filesB (xs : List Fl) : Bool := tt (ListOk fileB Fl.name_ 6 xs)
/-- Whether a console is valid. -/
noncomputable def consoleB (x : Cn) : Bool := partsB x && filesB x.files_
end Go.Proofs.YtlohjmlenbkbmaaDoor

namespace Go.Proofs.YtlohjmlenbkbmaaDoor
open Go Go.RowKit Go.Sort

theorem one_newS (W : World) (T : TypeId) (c : Array Value) (X : World) (e : X = W.alloc (.cells c T)) : RW T X W.heap.size c ∧ Below W.heap.size W X ∧ W.heap.size < X.heap.size := by
  subst e
  exact ⟨RW.new _ _ _, below_alloc _ _, lt_alloc _ _⟩
theorem classes_up {W w : World} (h : Classes W) (hb : Below W.heap.size W w) : Classes w := h.below hb (heap_pos (h.at_ 0 (by decide)))
theorem keyFl_any (x : Fl) (l : FlLay) (W : World) : Calls Tryd.prog 108 #[x.ag l] W fun e w' => e = .returned (.string x.name_) ∧ Below W.heap.size W w' := by
  obtain ⟨x0, x1, x2, x3⟩ := x
  obtain ⟨A1, n1, c1, h1⟩ := l
  show Calls Tryd.prog 108 #[.agg #[.string x0, .slice A1 n1 c1, .int .i64 x2, .int .i64 x3]] W _
  go_enter Tryd.func108, Tryd.ntmps108
  go_wp2_with fail
  go_ret
  exact ⟨rfl, below_alloc _ _⟩

set_option maxHeartbeats 4000000 in
set_option maxRecDepth 100000 in
theorem elemFl_any (x : Fl) (l : FlLay) (W : World) (hx : FlV W W.heap.size x l) (hT : Classes W) :
    Calls Tryd.prog 107 #[x.ag l] W fun e w' => e = .returned (.bool (fileB x)) ∧ Below W.heap.size W w' := by
  unfold fileB
  obtain ⟨x0, x1, x2, x3⟩ := x
  obtain ⟨A1, n1, c1, h1⟩ := l
  obtain ⟨k1, k0⟩ := hx
  dsimp only at k0 k1 ⊢
  have HK1 := Lib.hid k1
  have HS := Lib.hid k0
  have hn1 := k1.2.1
  unfold maxLen at hn1
  have HT := Lib.hid hT
  rw [k1.1]
  obtain ⟨a, ha⟩ : ∃ z, isNameB x0 = z := ⟨_, rfl⟩
  obtain ⟨b, hb⟩ : ∃ z, linesB x1 40 200 = z := ⟨_, rfl⟩
  obtain ⟨c, hc⟩ : ∃ z, decide (0 ≤ x2 ∧ x2 ≤ 3) = z := ⟨_, rfl⟩
  have HA := Lib.hid ha
  have HB := Lib.hid hb
  have HC := Lib.hid hc
  obtain ⟨u, hu⟩ : ∃ z, (x2 == 1) = z := ⟨_, rfl⟩
  obtain ⟨p, hp⟩ : ∃ p : Int, p = if x2 = 1 then (n1 : Int) else 0 := ⟨_, rfl⟩
  have hq := at_mode x2 x3 n1 p hp
  rw [ha, hb, hc, ← hq]
  clear hq
  obtain ⟨d, hd⟩ : ∃ z, decide (0 ≤ x3 ∧ x3 ≤ p) = z := ⟨_, rfl⟩
  have HD := Lib.hid hd
  rw [hd]
  clear k0 k1 ha hb hc hd hT
  have HO := Lib.hid (fun X (e : X = W.alloc (.cells #[.string x0, .slice A1 n1 c1, .int .i64 x2, .int .i64 x3] 50)) => one_new1 W 50 #[.string x0, .slice A1 n1 c1, .int .i64 x2, .int .i64 x3] X e)
  show Calls Tryd.prog 107 #[.agg #[.string x0, .slice A1 n1 c1, .int .i64 x2, .int .i64 x3]] W _

  cases u
  · have hpp : p = 0 := by rw [hp]; rw [if_neg (by simpa using hu)]
    rw [hpp] at HD
    clear hpp
    clear hp
    cases a
    · have tk1 : True := trivial
      go_enter Tryd.func107, Tryd.ntmps107
      go_wp2_with (first | (go_at_call 37; obtain ⟨g0, g1, g2⟩ := HO.out _ rfl; refine Calls.mono (impl_IsName_any x0 _ HS.out (classes_go HT.out g1)) ?_; rintro e w1 ⟨rfl, hb⟩; rw [HA.out]; have HW1 : Hid (RW 50 w1 W.heap.size #[.string x0, .slice A1 n1 c1, .int .i64 x2, .int .i64 x3] ∧ Below W.heap.size W w1) := ⟨g0.below hb g0.lt, g1.trans (hb.mono g1.size)⟩; have y11 : w1.cell? ⟨W.heap.size, 1, none⟩ = some (.slice A1 n1 c1) := HW1.out.1.cell 1; clear g0 g1 g2 hb))
      go_ret
      exact ⟨rfl, HW1.out.2⟩
    cases b
    · have tk1 : True := trivial
      go_enter Tryd.func107, Tryd.ntmps107
      go_wp2_with (first | (go_at_call 37; obtain ⟨g0, g1, g2⟩ := HO.out _ rfl; refine Calls.mono (impl_IsName_any x0 _ HS.out (classes_go HT.out g1)) ?_; rintro e w1 ⟨rfl, hb⟩; rw [HA.out]; have HW1 : Hid (RW 50 w1 W.heap.size #[.string x0, .slice A1 n1 c1, .int .i64 x2, .int .i64 x3] ∧ Below W.heap.size W w1) := ⟨g0.below hb g0.lt, g1.trans (hb.mono g1.size)⟩; have y11 : w1.cell? ⟨W.heap.size, 1, none⟩ = some (.slice A1 n1 c1) := HW1.out.1.cell 1; clear g0 g1 g2 hb) | (go_at_call 81; refine Calls.mono (areLines_any A1 n1 c1 40 200 x1 _ (HK1.out.go HW1.out.2) (by decide) (by decide)) ?_; rintro e w2 ⟨rfl, hb⟩; rw [HB.out]; have HW2 : Hid (RW 50 w2 W.heap.size #[.string x0, .slice A1 n1 c1, .int .i64 x2, .int .i64 x3] ∧ Below W.heap.size W w2) := ⟨HW1.out.1.below hb HW1.out.1.lt, HW1.out.2.trans (hb.mono HW1.out.2.size)⟩; have y22 : w2.cell? ⟨W.heap.size, 2, none⟩ = some (.int .i64 x2) := HW2.out.1.cell 2; have y23 : w2.cell? ⟨W.heap.size, 3, none⟩ = some (.int .i64 x3) := HW2.out.1.cell 3; clear hb))
      go_ret
      exact ⟨rfl, HW2.out.2⟩
    cases c
    · have tk1 : True := trivial
      go_enter Tryd.func107, Tryd.ntmps107
      go_wp2_with (first | (go_at_call 37; obtain ⟨g0, g1, g2⟩ := HO.out _ rfl; refine Calls.mono (impl_IsName_any x0 _ HS.out (classes_go HT.out g1)) ?_; rintro e w1 ⟨rfl, hb⟩; rw [HA.out]; have HW1 : Hid (RW 50 w1 W.heap.size #[.string x0, .slice A1 n1 c1, .int .i64 x2, .int .i64 x3] ∧ Below W.heap.size W w1) := ⟨g0.below hb g0.lt, g1.trans (hb.mono g1.size)⟩; have y11 : w1.cell? ⟨W.heap.size, 1, none⟩ = some (.slice A1 n1 c1) := HW1.out.1.cell 1; clear g0 g1 g2 hb) | (go_at_call 81; refine Calls.mono (areLines_any A1 n1 c1 40 200 x1 _ (HK1.out.go HW1.out.2) (by decide) (by decide)) ?_; rintro e w2 ⟨rfl, hb⟩; rw [HB.out]; have HW2 : Hid (RW 50 w2 W.heap.size #[.string x0, .slice A1 n1 c1, .int .i64 x2, .int .i64 x3] ∧ Below W.heap.size W w2) := ⟨HW1.out.1.below hb HW1.out.1.lt, HW1.out.2.trans (hb.mono HW1.out.2.size)⟩; have y22 : w2.cell? ⟨W.heap.size, 2, none⟩ = some (.int .i64 x2) := HW2.out.1.cell 2; have y23 : w2.cell? ⟨W.heap.size, 3, none⟩ = some (.int .i64 x3) := HW2.out.1.cell 3; clear hb) | (go_at_call 39; have tk := tk1; refine Calls.mono (within_i64 x2 0 3 _) ?_; rintro e w3 ⟨rfl, rfl⟩; rw [HC.out]; clear tk tk1))
      go_ret
      exact ⟨rfl, HW2.out.2⟩
    cases d
    all_goals
      have tk1 : True := trivial
      go_enter Tryd.func107, Tryd.ntmps107
      go_wp2_with (first | (go_at_call 37; obtain ⟨g0, g1, g2⟩ := HO.out _ rfl; refine Calls.mono (impl_IsName_any x0 _ HS.out (classes_go HT.out g1)) ?_; rintro e w1 ⟨rfl, hb⟩; rw [HA.out]; have HW1 : Hid (RW 50 w1 W.heap.size #[.string x0, .slice A1 n1 c1, .int .i64 x2, .int .i64 x3] ∧ Below W.heap.size W w1) := ⟨g0.below hb g0.lt, g1.trans (hb.mono g1.size)⟩; have y11 : w1.cell? ⟨W.heap.size, 1, none⟩ = some (.slice A1 n1 c1) := HW1.out.1.cell 1; clear g0 g1 g2 hb) | (go_at_call 81; refine Calls.mono (areLines_any A1 n1 c1 40 200 x1 _ (HK1.out.go HW1.out.2) (by decide) (by decide)) ?_; rintro e w2 ⟨rfl, hb⟩; rw [HB.out]; have HW2 : Hid (RW 50 w2 W.heap.size #[.string x0, .slice A1 n1 c1, .int .i64 x2, .int .i64 x3] ∧ Below W.heap.size W w2) := ⟨HW1.out.1.below hb HW1.out.1.lt, HW1.out.2.trans (hb.mono HW1.out.2.size)⟩; have y22 : w2.cell? ⟨W.heap.size, 2, none⟩ = some (.int .i64 x2) := HW2.out.1.cell 2; have y23 : w2.cell? ⟨W.heap.size, 3, none⟩ = some (.int .i64 x3) := HW2.out.1.cell 3; clear hb) | (go_at_call 39; have tk := tk1; refine Calls.mono (within_i64 x2 0 3 _) ?_; rintro e w3 ⟨rfl, rfl⟩; rw [HC.out]; clear tk tk1) | (go_at_call 39; refine Calls.mono (within_i64 x3 0 0 _) ?_; rintro e w3 ⟨rfl, rfl⟩; rw [HD.out]))
      go_ret
      exact ⟨rfl, HW2.out.2⟩
  
  · have hpp : p = (n1 : Int) := by rw [hp]; rw [if_pos (by simpa using hu)]
    rw [hpp] at HD
    clear hpp
    clear hp
    cases a
    · have tk1 : True := trivial
      go_enter Tryd.func107, Tryd.ntmps107
      go_wp2_with (first | (go_at_call 37; obtain ⟨g0, g1, g2⟩ := HO.out _ rfl; refine Calls.mono (impl_IsName_any x0 _ HS.out (classes_go HT.out g1)) ?_; rintro e w1 ⟨rfl, hb⟩; rw [HA.out]; have HW1 : Hid (RW 50 w1 W.heap.size #[.string x0, .slice A1 n1 c1, .int .i64 x2, .int .i64 x3] ∧ Below W.heap.size W w1) := ⟨g0.below hb g0.lt, g1.trans (hb.mono g1.size)⟩; have y11 : w1.cell? ⟨W.heap.size, 1, none⟩ = some (.slice A1 n1 c1) := HW1.out.1.cell 1; clear g0 g1 g2 hb))
      go_ret
      exact ⟨rfl, HW1.out.2⟩
    cases b
    · have tk1 : True := trivial
      go_enter Tryd.func107, Tryd.ntmps107
      go_wp2_with (first | (go_at_call 37; obtain ⟨g0, g1, g2⟩ := HO.out _ rfl; refine Calls.mono (impl_IsName_any x0 _ HS.out (classes_go HT.out g1)) ?_; rintro e w1 ⟨rfl, hb⟩; rw [HA.out]; have HW1 : Hid (RW 50 w1 W.heap.size #[.string x0, .slice A1 n1 c1, .int .i64 x2, .int .i64 x3] ∧ Below W.heap.size W w1) := ⟨g0.below hb g0.lt, g1.trans (hb.mono g1.size)⟩; have y11 : w1.cell? ⟨W.heap.size, 1, none⟩ = some (.slice A1 n1 c1) := HW1.out.1.cell 1; clear g0 g1 g2 hb) | (go_at_call 81; refine Calls.mono (areLines_any A1 n1 c1 40 200 x1 _ (HK1.out.go HW1.out.2) (by decide) (by decide)) ?_; rintro e w2 ⟨rfl, hb⟩; rw [HB.out]; have HW2 : Hid (RW 50 w2 W.heap.size #[.string x0, .slice A1 n1 c1, .int .i64 x2, .int .i64 x3] ∧ Below W.heap.size W w2) := ⟨HW1.out.1.below hb HW1.out.1.lt, HW1.out.2.trans (hb.mono HW1.out.2.size)⟩; have y22 : w2.cell? ⟨W.heap.size, 2, none⟩ = some (.int .i64 x2) := HW2.out.1.cell 2; have y23 : w2.cell? ⟨W.heap.size, 3, none⟩ = some (.int .i64 x3) := HW2.out.1.cell 3; clear hb))
      go_ret
      exact ⟨rfl, HW2.out.2⟩
    cases c
    · have tk1 : True := trivial
      go_enter Tryd.func107, Tryd.ntmps107
      go_wp2_with (first | (go_at_call 37; obtain ⟨g0, g1, g2⟩ := HO.out _ rfl; refine Calls.mono (impl_IsName_any x0 _ HS.out (classes_go HT.out g1)) ?_; rintro e w1 ⟨rfl, hb⟩; rw [HA.out]; have HW1 : Hid (RW 50 w1 W.heap.size #[.string x0, .slice A1 n1 c1, .int .i64 x2, .int .i64 x3] ∧ Below W.heap.size W w1) := ⟨g0.below hb g0.lt, g1.trans (hb.mono g1.size)⟩; have y11 : w1.cell? ⟨W.heap.size, 1, none⟩ = some (.slice A1 n1 c1) := HW1.out.1.cell 1; clear g0 g1 g2 hb) | (go_at_call 81; refine Calls.mono (areLines_any A1 n1 c1 40 200 x1 _ (HK1.out.go HW1.out.2) (by decide) (by decide)) ?_; rintro e w2 ⟨rfl, hb⟩; rw [HB.out]; have HW2 : Hid (RW 50 w2 W.heap.size #[.string x0, .slice A1 n1 c1, .int .i64 x2, .int .i64 x3] ∧ Below W.heap.size W w2) := ⟨HW1.out.1.below hb HW1.out.1.lt, HW1.out.2.trans (hb.mono HW1.out.2.size)⟩; have y22 : w2.cell? ⟨W.heap.size, 2, none⟩ = some (.int .i64 x2) := HW2.out.1.cell 2; have y23 : w2.cell? ⟨W.heap.size, 3, none⟩ = some (.int .i64 x3) := HW2.out.1.cell 3; clear hb) | (go_at_call 39; have tk := tk1; refine Calls.mono (within_i64 x2 0 3 _) ?_; rintro e w3 ⟨rfl, rfl⟩; rw [HC.out]; clear tk tk1))
      go_ret
      exact ⟨rfl, HW2.out.2⟩
    cases d
    all_goals
      have tk1 : True := trivial
      go_enter Tryd.func107, Tryd.ntmps107
      go_wp2_with (first | (go_at_call 37; obtain ⟨g0, g1, g2⟩ := HO.out _ rfl; refine Calls.mono (impl_IsName_any x0 _ HS.out (classes_go HT.out g1)) ?_; rintro e w1 ⟨rfl, hb⟩; rw [HA.out]; have HW1 : Hid (RW 50 w1 W.heap.size #[.string x0, .slice A1 n1 c1, .int .i64 x2, .int .i64 x3] ∧ Below W.heap.size W w1) := ⟨g0.below hb g0.lt, g1.trans (hb.mono g1.size)⟩; have y11 : w1.cell? ⟨W.heap.size, 1, none⟩ = some (.slice A1 n1 c1) := HW1.out.1.cell 1; clear g0 g1 g2 hb) | (go_at_call 81; refine Calls.mono (areLines_any A1 n1 c1 40 200 x1 _ (HK1.out.go HW1.out.2) (by decide) (by decide)) ?_; rintro e w2 ⟨rfl, hb⟩; rw [HB.out]; have HW2 : Hid (RW 50 w2 W.heap.size #[.string x0, .slice A1 n1 c1, .int .i64 x2, .int .i64 x3] ∧ Below W.heap.size W w2) := ⟨HW1.out.1.below hb HW1.out.1.lt, HW1.out.2.trans (hb.mono HW1.out.2.size)⟩; have y22 : w2.cell? ⟨W.heap.size, 2, none⟩ = some (.int .i64 x2) := HW2.out.1.cell 2; have y23 : w2.cell? ⟨W.heap.size, 3, none⟩ = some (.int .i64 x3) := HW2.out.1.cell 3; clear hb) | (go_at_call 39; have tk := tk1; refine Calls.mono (within_i64 x2 0 3 _) ?_; rintro e w3 ⟨rfl, rfl⟩; rw [HC.out]; clear tk tk1) | (go_at_call 39; refine Calls.mono (within_i64 x3 0 (n1 : Int) _) ?_; rintro e w3 ⟨rfl, rfl⟩; rw [HD.out]))
      go_ret
      exact ⟨rfl, HW2.out.2⟩
end Go.Proofs.YtlohjmlenbkbmaaDoor

namespace Go.Proofs.YtlohjmlenbkbmaaDoor
open Go Go.RowKit Go.Sort

theorem method_elemFl (v0 v1 v2 v3 : Value) (w : World) : (method 227 50 (.agg #[v0, v1, v2, v3]) "loop.example/g00873/impl.isElement").run Tryd.prog w = .ok (107, .agg #[v0, v1, v2, v3]) w := by kernel_rfl
theorem method_keyFl (v0 v1 v2 v3 : Value) (w : World) : (method 227 50 (.agg #[v0, v1, v2, v3]) "loop.example/g00873/impl.key").run Tryd.prog w = .ok (108, .agg #[v0, v1, v2, v3]) w := by kernel_rfl

set_option maxHeartbeats 4000000 in
set_option maxRecDepth 100000 in
theorem withinFl_any (A : Option Addr) (n c lim : Nat) (xs : List Fl) (W : World) (hr : FlI W W.heap.size A n xs) (hlim : lim ≤ 1000) (hT : Classes W) :
    Calls Tryd.prog 82 #[.slice A n c, .int .i64 lim] W fun e w' => e = .returned (.bool (tt (ListOk fileB Fl.name_ lim xs))) ∧ Below W.heap.size W w' := by
  have HR := Lib.hid hr
  have hn := hr.2.1
  have HN := Lib.hid hr.1
  have HTT := Lib.hid hT
  unfold maxLen at hn
  obtain ⟨P, hP⟩ : ∃ P, tt (ListOk fileB Fl.name_ lim xs) = P := ⟨_, rfl⟩
  have HP := Lib.hid hP
  rw [hP]
  clear hP
  by_cases hbig : lim < n
  · have HF : Hid (P = false) := by
      show _ = _
      rw [← HP.out]
      exact tt_false fun h => by have := h.1; rw [hr.1] at this; omega
    have d0 : (lim : Int) < (n : Int) := by omega
    clear hr hT
    go_enter Tryd.func82, Tryd.ntmps82
    go_wp2_with fail
    go_ret
    exact ⟨by rw [HF.out]; rfl, Below.refl _ _⟩
  have d0 : ¬ ((lim : Int) < (n : Int)) := by omega
  have HLIM : Hid (n ≤ lim) := by show _ ≤ _; omega
  clear hr hT hbig
  go_enter Tryd.func82, Tryd.ntmps82
  go_wp2_with fail
  go_loopw [13] (fun i wr => ∃ k : Nat, k ≤ n ∧ i = .int .i64 k ∧ Hid (Below W.heap.size W wr) ∧ Hid (UpOk fileB Fl.name_ xs k)) (fun i _ => n - (intOf i).toNat)
  case atStart => exact ⟨0, Nat.zero_le _, rfl, Below.refl _ _, Lib.hid UpOk.zero⟩
  case round =>
    obtain ⟨k, hk, rfl, HW, HV⟩ := hrel
    by_cases hlt : k < n
    · have b0 : (0 : Int) ≤ (k : Int) := by omega
      have b1 : (k : Int) < (n : Int) := by omega
      obtain ⟨b, off, x, l, rfl, hg, hx, ⟨q0, q1, q2, q3⟩, hv⟩ := (HR.out.go HW.out).at_ hlt
      have HX := Lib.hid hx
      have HGB : Hid (b < wr.heap.size) := hg
      have HEL := Lib.hid (fun (w : World) (hb : Below wr.heap.size wr w) (hT : Classes w) => elemFl_any x l w (hv.go hb) hT)
      have HC := Lib.hid (one_newS wr 50 #[.string x.name_, .slice l.A1 l.n1 l.c1, .int .i64 x.mode_, .int .i64 x.at_])
      have HT1 : Hid (Classes wr) := HTT.out.below HW.out (heap_pos (HTT.out.at_ 0 (by decide)))
      have hme := method_elemFl (.string x.name_) (.slice l.A1 l.n1 l.c1) (.int .i64 x.mode_) (.int .i64 x.at_)
      obtain ⟨Z, hZ⟩ : ∃ z, fileB x = z := ⟨_, rfl⟩
      have HZ := Lib.hid hZ
      clear hx hg hv hZ
      cases Z
      · have HF : Hid (P = false) := by
          show _ = _
          rw [← HP.out]
          exact tt_false (not_ok HX.out HZ.out)
        go_wp2_with fail
        obtain ⟨w0, hw0⟩ : ∃ w0, wr.alloc (.cells #[.string x.name_, .slice l.A1 l.n1 l.c1, .int .i64 x.mode_, .int .i64 x.at_] 50) = w0 := ⟨_, rfl⟩
        rw [hw0]
        obtain ⟨g0, g1, g2⟩ := HC.out w0 hw0.symm
        have HB0 := Lib.hid g1
        have x0 := cell_regrown (g0.cell 0)
        have x1 := cell_regrown (g0.cell 1)
        have x2 := cell_regrown (g0.cell 2)
        have x3 := cell_regrown (g0.cell 3)
        have cE : ∀ d os', Calls Tryd.prog 107 #[.agg #[.string x.name_, .slice l.A1 l.n1 l.c1, .int .i64 x.mode_, .int .i64 x.at_]] (grow (redrawn w0 d) os') (fun e w'' => e = .returned (.bool false) ∧ ∃ q : Regrown, w'' = grow (redrawn w0 q.d) q.os) := fun d os' => Calls.regrown_of (by have hb := g1.trans ((below_regrown w0 d os').mono g1.size); have h := HEL.out _ hb (classes_up HT1.out hb); rw [HZ.out] at h; exact h)
        clear hw0 g0 g1 g2 q0 q1 q2 q3
        refine wp_region_quiet_below (by kernel_rfl) (by kernel_rfl) ?_
        repeat (first | go_big_quiet_step (with_reducible exact cE _ _) | quiet_step (with_reducible exact cE _ _))
        refine wpQuiet_nil ?_
        intro w4 hw'
        obtain ⟨⟨dq, osq⟩, hw''⟩ := hw'
        have HB4 : Hid (Below W.heap.size W w4) := by show Below _ _ _; rw [hw'']; exact HW.out.trans ((HB0.out.trans ((below_regrown w0 dq osq).mono HB0.out.size)).mono HW.out.size)
        clear hw'' x0 x1 x2 x3 cE
        go_wp2_with fail
        go_ret
        exact ⟨by rw [HF.out]; rfl, HB4.out⟩
      by_cases hkp : k = 0
      · subst hkp
        have HV2 := Lib.hid (UpOk.first (nm := Fl.name_) HX.out HZ.out)
        simp only [Nat.zero_mul, Nat.add_zero] at q0 q1 q2 q3
        go_wp2_with fail
        obtain ⟨w0, hw0⟩ : ∃ w0, wr.alloc (.cells #[.string x.name_, .slice l.A1 l.n1 l.c1, .int .i64 x.mode_, .int .i64 x.at_] 50) = w0 := ⟨_, rfl⟩
        rw [hw0]
        obtain ⟨g0, g1, g2⟩ := HC.out w0 hw0.symm
        have HB0 := Lib.hid g1
        have x0 := cell_regrown (g0.cell 0)
        have x1 := cell_regrown (g0.cell 1)
        have x2 := cell_regrown (g0.cell 2)
        have x3 := cell_regrown (g0.cell 3)
        have cE : ∀ d os', Calls Tryd.prog 107 #[.agg #[.string x.name_, .slice l.A1 l.n1 l.c1, .int .i64 x.mode_, .int .i64 x.at_]] (grow (redrawn w0 d) os') (fun e w'' => e = .returned (.bool true) ∧ ∃ q : Regrown, w'' = grow (redrawn w0 q.d) q.os) := fun d os' => Calls.regrown_of (by have hb := g1.trans ((below_regrown w0 d os').mono g1.size); have h := HEL.out _ hb (classes_up HT1.out hb); rw [HZ.out] at h; exact h)
        clear hw0 g0 g1 g2 q0 q1 q2 q3
        refine wp_region_quiet_below (by kernel_rfl) (by kernel_rfl) ?_
        repeat (first | go_big_quiet_step (with_reducible exact cE _ _) | quiet_step (with_reducible exact cE _ _))
        refine wpQuiet_nil ?_
        intro w4 hw'
        obtain ⟨⟨dq, osq⟩, hw''⟩ := hw'
        have HB4 : Hid (Below W.heap.size W w4) := by show Below _ _ _; rw [hw'']; exact HW.out.trans ((HB0.out.trans ((below_regrown w0 dq osq).mono HB0.out.size)).mono HW.out.size)
        clear hw'' x0 x1 x2 x3 cE
        go_wp2_with fail
        go_roundw
        case rel => exact ⟨0 + 1, by omega, by go_num, HB4, HV2⟩
        case measure => simp [intOf]; omega
      obtain ⟨j, hj⟩ : ∃ j, k = j + 1 := ⟨k - 1, by omega⟩
      have HJ := Lib.hid hj
      have hj1 : (k : Int) - 1 = (j : Int) := by omega
      have hkp2 : (0 : Int) < (k : Int) := by omega
      have hkp3 : decide ((0 : Int) < (k : Int)) = true := by simp; omega
      have hkp4 : decide (0 < k) = true := by simp; omega
      have hkp5 : 0 < k := by omega
      have c0 : (0 : Int) ≤ (j : Int) := by omega
      have c1 : (j : Int) < (n : Int) := by omega
      obtain ⟨b', off', y, l', hA, hg', hy, ⟨r0, r1, r2, r3⟩, _⟩ := (HR.out.go HW.out).at_ (show j < n by omega)
      simp only [Option.some.injEq, Addr.mk.injEq, and_true] at hA
      obtain ⟨rfl, rfl⟩ := hA
      have HY : Hid (xs[k - 1]? = some y) := by show _ = _; rw [show k - 1 = j by omega]; exact hy
      have hmx := method_keyFl (.string x.name_) (.slice l.A1 l.n1 l.c1) (.int .i64 x.mode_) (.int .i64 x.at_)
      have hmy := method_keyFl (.string y.name_) (.slice l'.A1 l'.n1 l'.c1) (.int .i64 y.mode_) (.int .i64 y.at_)
      clear hj hkp hg' hy
      obtain ⟨R, hRR⟩ : ∃ z, Op.bytesLess y.name_.toList x.name_.toList = z := ⟨_, rfl⟩
      have HRR := Lib.hid hRR
      cases R
      · have HF : Hid (P = false) := by
          show _ = _
          rw [← HP.out]
          exact tt_false (not_up hkp5 HX.out HY.out HRR.out)
        go_wp2_with fail
        obtain ⟨w0, hw0⟩ : ∃ w0, wr.alloc (.cells #[.string x.name_, .slice l.A1 l.n1 l.c1, .int .i64 x.mode_, .int .i64 x.at_] 50) = w0 := ⟨_, rfl⟩
        rw [hw0]
        obtain ⟨g0, g1, g2⟩ := HC.out w0 hw0.symm
        have HB0 := Lib.hid g1
        have x0 := cell_regrown (g0.cell 0)
        have x1 := cell_regrown (g0.cell 1)
        have x2 := cell_regrown (g0.cell 2)
        have x3 := cell_regrown (g0.cell 3)
        have cE : ∀ d os', Calls Tryd.prog 107 #[.agg #[.string x.name_, .slice l.A1 l.n1 l.c1, .int .i64 x.mode_, .int .i64 x.at_]] (grow (redrawn w0 d) os') (fun e w'' => e = .returned (.bool true) ∧ ∃ q : Regrown, w'' = grow (redrawn w0 q.d) q.os) := fun d os' => Calls.regrown_of (by have hb := g1.trans ((below_regrown w0 d os').mono g1.size); have h := HEL.out _ hb (classes_up HT1.out hb); rw [HZ.out] at h; exact h)
        have cX : ∀ d os', Calls Tryd.prog 108 #[.agg #[.string x.name_, .slice l.A1 l.n1 l.c1, .int .i64 x.mode_, .int .i64 x.at_]] (grow (redrawn w0 d) os') (fun e w'' => e = .returned (.string x.name_) ∧ ∃ q : Regrown, w'' = grow (redrawn w0 q.d) q.os) := fun d os' => Calls.regrown_of (keyFl_any x l _)
        have cY : ∀ d os', Calls Tryd.prog 108 #[.agg #[.string y.name_, .slice l'.A1 l'.n1 l'.c1, .int .i64 y.mode_, .int .i64 y.at_]] (grow (redrawn w0 d) os') (fun e w'' => e = .returned (.string y.name_) ∧ ∃ q : Regrown, w'' = grow (redrawn w0 q.d) q.os) := fun d os' => Calls.regrown_of (keyFl_any y l' _)
        have y0 := cell_regrown ((g1.cell (p := ⟨b, off + j * 4, none⟩) HGB.out).trans r0)
        have y1 := cell_regrown ((g1.cell (p := ⟨b, off + j * 4 + 1, none⟩) HGB.out).trans r1)
        have y2 := cell_regrown ((g1.cell (p := ⟨b, off + j * 4 + 2, none⟩) HGB.out).trans r2)
        have y3 := cell_regrown ((g1.cell (p := ⟨b, off + j * 4 + 3, none⟩) HGB.out).trans r3)
        clear hw0 g0 g1 g2 q0 q1 q2 q3 r0 r1 r2 r3
        refine wp_region_quiet_below (by kernel_rfl) (by kernel_rfl) ?_
        repeat (first | go_big_quiet_step (first | with_reducible exact cE _ _ | with_reducible exact cX _ _ | with_reducible exact cY _ _) | quiet_step (first | with_reducible exact cE _ _ | with_reducible exact cX _ _ | with_reducible exact cY _ _))
        refine wpQuiet_nil ?_
        intro w4 hw'
        obtain ⟨⟨dq, osq⟩, hw''⟩ := hw'
        have HB4 : Hid (Below W.heap.size W w4) := by show Below _ _ _; rw [hw'']; exact HW.out.trans ((HB0.out.trans ((below_regrown w0 dq osq).mono HB0.out.size)).mono HW.out.size)
        clear hw'' x0 x1 x2 x3 y0 y1 y2 y3 cE cX cY
        go_wp2_with fail
        go_ret
        exact ⟨by rw [HF.out]; rfl, HB4.out⟩
      · have HV2 := Lib.hid (UpOk.next HV.out HX.out HZ.out HY.out HRR.out)
        go_wp2_with fail
        obtain ⟨w0, hw0⟩ : ∃ w0, wr.alloc (.cells #[.string x.name_, .slice l.A1 l.n1 l.c1, .int .i64 x.mode_, .int .i64 x.at_] 50) = w0 := ⟨_, rfl⟩
        rw [hw0]
        obtain ⟨g0, g1, g2⟩ := HC.out w0 hw0.symm
        have HB0 := Lib.hid g1
        have x0 := cell_regrown (g0.cell 0)
        have x1 := cell_regrown (g0.cell 1)
        have x2 := cell_regrown (g0.cell 2)
        have x3 := cell_regrown (g0.cell 3)
        have cE : ∀ d os', Calls Tryd.prog 107 #[.agg #[.string x.name_, .slice l.A1 l.n1 l.c1, .int .i64 x.mode_, .int .i64 x.at_]] (grow (redrawn w0 d) os') (fun e w'' => e = .returned (.bool true) ∧ ∃ q : Regrown, w'' = grow (redrawn w0 q.d) q.os) := fun d os' => Calls.regrown_of (by have hb := g1.trans ((below_regrown w0 d os').mono g1.size); have h := HEL.out _ hb (classes_up HT1.out hb); rw [HZ.out] at h; exact h)
        have cX : ∀ d os', Calls Tryd.prog 108 #[.agg #[.string x.name_, .slice l.A1 l.n1 l.c1, .int .i64 x.mode_, .int .i64 x.at_]] (grow (redrawn w0 d) os') (fun e w'' => e = .returned (.string x.name_) ∧ ∃ q : Regrown, w'' = grow (redrawn w0 q.d) q.os) := fun d os' => Calls.regrown_of (keyFl_any x l _)
        have cY : ∀ d os', Calls Tryd.prog 108 #[.agg #[.string y.name_, .slice l'.A1 l'.n1 l'.c1, .int .i64 y.mode_, .int .i64 y.at_]] (grow (redrawn w0 d) os') (fun e w'' => e = .returned (.string y.name_) ∧ ∃ q : Regrown, w'' = grow (redrawn w0 q.d) q.os) := fun d os' => Calls.regrown_of (keyFl_any y l' _)
        have y0 := cell_regrown ((g1.cell (p := ⟨b, off + j * 4, none⟩) HGB.out).trans r0)
        have y1 := cell_regrown ((g1.cell (p := ⟨b, off + j * 4 + 1, none⟩) HGB.out).trans r1)
        have y2 := cell_regrown ((g1.cell (p := ⟨b, off + j * 4 + 2, none⟩) HGB.out).trans r2)
        have y3 := cell_regrown ((g1.cell (p := ⟨b, off + j * 4 + 3, none⟩) HGB.out).trans r3)
        clear hw0 g0 g1 g2 q0 q1 q2 q3 r0 r1 r2 r3
        refine wp_region_quiet_below (by kernel_rfl) (by kernel_rfl) ?_
        repeat (first | go_big_quiet_step (first | with_reducible exact cE _ _ | with_reducible exact cX _ _ | with_reducible exact cY _ _) | quiet_step (first | with_reducible exact cE _ _ | with_reducible exact cX _ _ | with_reducible exact cY _ _))
        refine wpQuiet_nil ?_
        intro w4 hw'
        obtain ⟨⟨dq, osq⟩, hw''⟩ := hw'
        have HB4 : Hid (Below W.heap.size W w4) := by show Below _ _ _; rw [hw'']; exact HW.out.trans ((HB0.out.trans ((below_regrown w0 dq osq).mono HB0.out.size)).mono HW.out.size)
        clear hw'' x0 x1 x2 x3 y0 y1 y2 y3 cE cX cY
        go_wp2_with fail
        go_roundw
        case rel => exact ⟨k + 1, by omega, by go_num, HB4, HV2⟩
        case measure => simp [intOf]; omega
    · have HE : Hid (P = true) := by
        show _ = _
        rw [← HP.out]
        have hkn : k = n := by omega
        refine tt_true ⟨by rw [HN.out]; exact HLIM.out, ?_⟩
        rw [HN.out, ← hkn]
        exact HV.out
      go_wp2_with fail
      go_ret
      exact ⟨by rw [HE.out]; rfl, HW.out⟩
end Go.Proofs.YtlohjmlenbkbmaaDoor

namespace Go.Proofs.YtlohjmlenbkbmaaDoor
open Go Go.RowKit Go.Sort

theorem files_any (x : Cn) (l : CnLay) (W : World) : Calls Tryd.prog 58 #[x.ag l] W fun e w' => e = .returned (.slice l.A3 l.n3 l.c3) ∧ Below W.heap.size W w' := by
  obtain ⟨x0, x1, x2, x3, x4⟩ := x
  obtain ⟨A0, n0, c0, h0, A2, n2, c2, h2, A3, n3, c3, h3, A4, n4, c4, h4⟩ := l
  show Calls Tryd.prog 58 #[.agg #[.slice A0 n0 c0, .int .i64 x1, .slice A2 n2 c2, .slice A3 n3 c3, .slice A4 n4 c4]] W _
  go_enter Tryd.func58, Tryd.ntmps58
  go_wp2_with fail
  go_ret
  exact ⟨rfl, below_alloc _ _⟩

set_option maxHeartbeats 4000000 in
set_option maxRecDepth 100000 in
theorem impl_ValidConsole_any (x : Cn) (l : CnLay) (W : World) (hx : CnV W W.heap.size x l) (hT : Classes W) :
    Calls Tryd.prog 67 #[x.ag l] W fun e w' => e = .returned (.bool (consoleB x)) ∧ Below W.heap.size W w' := by
  unfold consoleB partsB filesB
  have HT := Lib.hid hT
  obtain ⟨x0, x1, x2, x3, x4⟩ := x
  obtain ⟨A0, n0, c0, h0, A2, n2, c2, h2, A3, n3, c3, h3, A4, n4, c4, h4⟩ := l
  obtain ⟨k0, k2, k3, k4⟩ := hx
  dsimp only at k0 k2 k3 k4 ⊢
  have HK0 := Lib.hid k0
  have HK2 := Lib.hid k2
  have HK3 := Lib.hid k3
  have HK4 := Lib.hid k4
  have hn0 := k0.2.1
  unfold maxLen at hn0
  rw [k0.1]
  obtain ⟨a, ha⟩ : ∃ z, linesB x0 100 200 = z := ⟨_, rfl⟩
  obtain ⟨b, hb⟩ : ∃ z, decide (0 ≤ x1 ∧ x1 ≤ (n0 : Int)) = z := ⟨_, rfl⟩
  obtain ⟨c, hc⟩ : ∃ z, linesB x2 100 200 = z := ⟨_, rfl⟩
  obtain ⟨d, hd⟩ : ∃ z, linesB x4 200 1300 = z := ⟨_, rfl⟩
  have HA := Lib.hid ha
  have HB := Lib.hid hb
  have HC := Lib.hid hc
  have HD := Lib.hid hd
  rw [ha, hb, hc, hd]
  clear k0 k2 k3 k4 ha hb hc hd hT
  obtain ⟨P, hP⟩ : ∃ P, tt (ListOk fileB Fl.name_ 6 x3) = P := ⟨_, rfl⟩
  have HP := Lib.hid hP
  rw [hP]
  clear hP
  have HO := Lib.hid (fun X (e : X = W.alloc (.cells #[.slice A0 n0 c0, .int .i64 x1, .slice A2 n2 c2, .slice A3 n3 c3, .slice A4 n4 c4] 29)) => one_new1 W 29 #[.slice A0 n0 c0, .int .i64 x1, .slice A2 n2 c2, .slice A3 n3 c3, .slice A4 n4 c4] X e)
  show Calls Tryd.prog 67 #[.agg #[.slice A0 n0 c0, .int .i64 x1, .slice A2 n2 c2, .slice A3 n3 c3, .slice A4 n4 c4]] W _
  cases a
  · skip
    have tk1 : True := trivial
    go_enter Tryd.func67, Tryd.ntmps67
    go_wp2_with (go_at_call 81; have tk := tk1; obtain ⟨g0, g1, g2⟩ := HO.out _ rfl; refine Calls.mono (areLines_any A0 n0 c0 100 200 x0 _ (HK0.out.go g1) (by decide) (by decide)) ?_; rintro e w1 ⟨rfl, hb⟩; rw [HA.out]; have HW1 : Hid (RW 29 w1 W.heap.size #[.slice A0 n0 c0, .int .i64 x1, .slice A2 n2 c2, .slice A3 n3 c3, .slice A4 n4 c4] ∧ Below W.heap.size W w1) := ⟨g0.below hb g0.lt, g1.trans (hb.mono g1.size)⟩; have y10 : w1.cell? ⟨W.heap.size, 0, none⟩ = some (.slice A0 n0 c0) := HW1.out.1.cell 0; have y11 : w1.cell? ⟨W.heap.size, 1, none⟩ = some (.int .i64 x1) := HW1.out.1.cell 1; have y12 : w1.cell? ⟨W.heap.size, 2, none⟩ = some (.slice A2 n2 c2) := HW1.out.1.cell 2; clear g0 g1 g2 hb tk tk1)
    go_ret
    exact ⟨rfl, HW1.out.2⟩
  cases b
  · skip
    have tk1 : True := trivial
    go_enter Tryd.func67, Tryd.ntmps67
    go_wp2_with (go_at_call 81; have tk := tk1; obtain ⟨g0, g1, g2⟩ := HO.out _ rfl; refine Calls.mono (areLines_any A0 n0 c0 100 200 x0 _ (HK0.out.go g1) (by decide) (by decide)) ?_; rintro e w1 ⟨rfl, hb⟩; rw [HA.out]; have HW1 : Hid (RW 29 w1 W.heap.size #[.slice A0 n0 c0, .int .i64 x1, .slice A2 n2 c2, .slice A3 n3 c3, .slice A4 n4 c4] ∧ Below W.heap.size W w1) := ⟨g0.below hb g0.lt, g1.trans (hb.mono g1.size)⟩; have y10 : w1.cell? ⟨W.heap.size, 0, none⟩ = some (.slice A0 n0 c0) := HW1.out.1.cell 0; have y11 : w1.cell? ⟨W.heap.size, 1, none⟩ = some (.int .i64 x1) := HW1.out.1.cell 1; have y12 : w1.cell? ⟨W.heap.size, 2, none⟩ = some (.slice A2 n2 c2) := HW1.out.1.cell 2; clear g0 g1 g2 hb tk tk1)
    go_wp2_with (go_at_call 39; refine Calls.mono (within_i64 x1 0 (n0 : Int) _) ?_; rintro e w9 ⟨rfl, rfl⟩; rw [HB.out])
    go_ret
    exact ⟨rfl, HW1.out.2⟩
  cases c
  · skip
    have tk1 : True := trivial
    go_enter Tryd.func67, Tryd.ntmps67
    go_wp2_with (go_at_call 81; have tk := tk1; obtain ⟨g0, g1, g2⟩ := HO.out _ rfl; refine Calls.mono (areLines_any A0 n0 c0 100 200 x0 _ (HK0.out.go g1) (by decide) (by decide)) ?_; rintro e w1 ⟨rfl, hb⟩; rw [HA.out]; have HW1 : Hid (RW 29 w1 W.heap.size #[.slice A0 n0 c0, .int .i64 x1, .slice A2 n2 c2, .slice A3 n3 c3, .slice A4 n4 c4] ∧ Below W.heap.size W w1) := ⟨g0.below hb g0.lt, g1.trans (hb.mono g1.size)⟩; have y10 : w1.cell? ⟨W.heap.size, 0, none⟩ = some (.slice A0 n0 c0) := HW1.out.1.cell 0; have y11 : w1.cell? ⟨W.heap.size, 1, none⟩ = some (.int .i64 x1) := HW1.out.1.cell 1; have y12 : w1.cell? ⟨W.heap.size, 2, none⟩ = some (.slice A2 n2 c2) := HW1.out.1.cell 2; clear g0 g1 g2 hb tk tk1)
    go_wp2_with (go_at_call 39; refine Calls.mono (within_i64 x1 0 (n0 : Int) _) ?_; rintro e w9 ⟨rfl, rfl⟩; rw [HB.out])
    have tk2 : True := trivial
    go_wp2_with (go_at_call 81; have tk := tk2; refine Calls.mono (areLines_any A2 n2 c2 100 200 x2 _ (HK2.out.go HW1.out.2) (by decide) (by decide)) ?_; rintro e w2 ⟨rfl, hb⟩; rw [HC.out]; have HW2 : Hid (RW 29 w2 W.heap.size #[.slice A0 n0 c0, .int .i64 x1, .slice A2 n2 c2, .slice A3 n3 c3, .slice A4 n4 c4] ∧ Below W.heap.size W w2) := ⟨HW1.out.1.below hb HW1.out.1.lt, HW1.out.2.trans (hb.mono HW1.out.2.size)⟩; have y24 : w2.cell? ⟨W.heap.size, 4, none⟩ = some (.slice A4 n4 c4) := HW2.out.1.cell 4; clear hb tk tk2)
    go_ret
    exact ⟨rfl, HW2.out.2⟩
  cases d
  · skip
    have tk1 : True := trivial
    go_enter Tryd.func67, Tryd.ntmps67
    go_wp2_with (go_at_call 81; have tk := tk1; obtain ⟨g0, g1, g2⟩ := HO.out _ rfl; refine Calls.mono (areLines_any A0 n0 c0 100 200 x0 _ (HK0.out.go g1) (by decide) (by decide)) ?_; rintro e w1 ⟨rfl, hb⟩; rw [HA.out]; have HW1 : Hid (RW 29 w1 W.heap.size #[.slice A0 n0 c0, .int .i64 x1, .slice A2 n2 c2, .slice A3 n3 c3, .slice A4 n4 c4] ∧ Below W.heap.size W w1) := ⟨g0.below hb g0.lt, g1.trans (hb.mono g1.size)⟩; have y10 : w1.cell? ⟨W.heap.size, 0, none⟩ = some (.slice A0 n0 c0) := HW1.out.1.cell 0; have y11 : w1.cell? ⟨W.heap.size, 1, none⟩ = some (.int .i64 x1) := HW1.out.1.cell 1; have y12 : w1.cell? ⟨W.heap.size, 2, none⟩ = some (.slice A2 n2 c2) := HW1.out.1.cell 2; clear g0 g1 g2 hb tk tk1)
    go_wp2_with (go_at_call 39; refine Calls.mono (within_i64 x1 0 (n0 : Int) _) ?_; rintro e w9 ⟨rfl, rfl⟩; rw [HB.out])
    have tk2 : True := trivial
    go_wp2_with (go_at_call 81; have tk := tk2; refine Calls.mono (areLines_any A2 n2 c2 100 200 x2 _ (HK2.out.go HW1.out.2) (by decide) (by decide)) ?_; rintro e w2 ⟨rfl, hb⟩; rw [HC.out]; have HW2 : Hid (RW 29 w2 W.heap.size #[.slice A0 n0 c0, .int .i64 x1, .slice A2 n2 c2, .slice A3 n3 c3, .slice A4 n4 c4] ∧ Below W.heap.size W w2) := ⟨HW1.out.1.below hb HW1.out.1.lt, HW1.out.2.trans (hb.mono HW1.out.2.size)⟩; have y24 : w2.cell? ⟨W.heap.size, 4, none⟩ = some (.slice A4 n4 c4) := HW2.out.1.cell 4; clear hb tk tk2)
    have tk3 : True := trivial
    go_wp2_with (go_at_call 81; have tk := tk3; refine Calls.mono (areLines_any A4 n4 c4 200 1300 x4 _ (HK4.out.go HW2.out.2) (by decide) (by decide)) ?_; rintro e w3 ⟨rfl, hb⟩; rw [HD.out]; have HW3 : Hid (RW 29 w3 W.heap.size #[.slice A0 n0 c0, .int .i64 x1, .slice A2 n2 c2, .slice A3 n3 c3, .slice A4 n4 c4] ∧ Below W.heap.size W w3) := ⟨HW2.out.1.below hb HW2.out.1.lt, HW2.out.2.trans (hb.mono HW2.out.2.size)⟩; clear hb tk tk3)
    go_ret
    exact ⟨rfl, HW3.out.2⟩
  cases P
  all_goals
    have tk1 : True := trivial
    go_enter Tryd.func67, Tryd.ntmps67
    go_wp2_with (go_at_call 81; have tk := tk1; obtain ⟨g0, g1, g2⟩ := HO.out _ rfl; refine Calls.mono (areLines_any A0 n0 c0 100 200 x0 _ (HK0.out.go g1) (by decide) (by decide)) ?_; rintro e w1 ⟨rfl, hb⟩; rw [HA.out]; have HW1 : Hid (RW 29 w1 W.heap.size #[.slice A0 n0 c0, .int .i64 x1, .slice A2 n2 c2, .slice A3 n3 c3, .slice A4 n4 c4] ∧ Below W.heap.size W w1) := ⟨g0.below hb g0.lt, g1.trans (hb.mono g1.size)⟩; have y10 : w1.cell? ⟨W.heap.size, 0, none⟩ = some (.slice A0 n0 c0) := HW1.out.1.cell 0; have y11 : w1.cell? ⟨W.heap.size, 1, none⟩ = some (.int .i64 x1) := HW1.out.1.cell 1; have y12 : w1.cell? ⟨W.heap.size, 2, none⟩ = some (.slice A2 n2 c2) := HW1.out.1.cell 2; clear g0 g1 g2 hb tk tk1)
    go_wp2_with (go_at_call 39; refine Calls.mono (within_i64 x1 0 (n0 : Int) _) ?_; rintro e w9 ⟨rfl, rfl⟩; rw [HB.out])
    have tk2 : True := trivial
    go_wp2_with (go_at_call 81; have tk := tk2; refine Calls.mono (areLines_any A2 n2 c2 100 200 x2 _ (HK2.out.go HW1.out.2) (by decide) (by decide)) ?_; rintro e w2 ⟨rfl, hb⟩; rw [HC.out]; have HW2 : Hid (RW 29 w2 W.heap.size #[.slice A0 n0 c0, .int .i64 x1, .slice A2 n2 c2, .slice A3 n3 c3, .slice A4 n4 c4] ∧ Below W.heap.size W w2) := ⟨HW1.out.1.below hb HW1.out.1.lt, HW1.out.2.trans (hb.mono HW1.out.2.size)⟩; have y24 : w2.cell? ⟨W.heap.size, 4, none⟩ = some (.slice A4 n4 c4) := HW2.out.1.cell 4; clear hb tk tk2)
    have tk3 : True := trivial
    go_wp2_with (go_at_call 81; have tk := tk3; refine Calls.mono (areLines_any A4 n4 c4 200 1300 x4 _ (HK4.out.go HW2.out.2) (by decide) (by decide)) ?_; rintro e w3 ⟨rfl, hb⟩; rw [HD.out]; have HW3 : Hid (RW 29 w3 W.heap.size #[.slice A0 n0 c0, .int .i64 x1, .slice A2 n2 c2, .slice A3 n3 c3, .slice A4 n4 c4] ∧ Below W.heap.size W w3) := ⟨HW2.out.1.below hb HW2.out.1.lt, HW2.out.2.trans (hb.mono HW2.out.2.size)⟩; have y30 : w3.cell? ⟨W.heap.size, 0, none⟩ = some (.slice A0 n0 c0) := HW3.out.1.cell 0; have y31 : w3.cell? ⟨W.heap.size, 1, none⟩ = some (.int .i64 x1) := HW3.out.1.cell 1; have y32 : w3.cell? ⟨W.heap.size, 2, none⟩ = some (.slice A2 n2 c2) := HW3.out.1.cell 2; have y33 : w3.cell? ⟨W.heap.size, 3, none⟩ = some (.slice A3 n3 c3) := HW3.out.1.cell 3; have y34 : w3.cell? ⟨W.heap.size, 4, none⟩ = some (.slice A4 n4 c4) := HW3.out.1.cell 4; clear hb tk tk3)
    go_wp2_with (go_at_call 58; refine Calls.mono (files_any ⟨x0, x1, x2, x3, x4⟩ ⟨A0, n0, c0, h0, A2, n2, c2, h2, A3, n3, c3, h3, A4, n4, c4, h4⟩ _) ?_; rintro e w4 ⟨rfl, hb⟩; have HB4 := Lib.hid (HW3.out.2.trans (hb.mono HW3.out.2.size)); clear hb)
    go_wp2_with (go_at_call 82; refine Calls.mono (withinFl_any A3 n3 c3 6 x3 _ (HK3.out.go HB4.out) (by decide) (classes_go HT.out HB4.out)) ?_; rintro e w5 ⟨rfl, hb⟩; rw [HP.out]; have HB5 := Lib.hid (HB4.out.trans (hb.mono HB4.out.size)); clear hb)
    go_ret
    exact ⟨rfl, HB5.out⟩
end Go.Proofs.YtlohjmlenbkbmaaDoor

namespace Go.Proofs.YtlohjmlenbkbmaaDoor
open Go Go.RowKit

/-- Behind the first region: the boxes, and where the three copies lie. -/
def Co1 (W : World) (x : Cn) (l : CnLay) (A0 A2 A4 : Option Addr) (c0 c2 c4 : Nat) (w : World) : Prop :=
  RW 29 w W.heap.size #[.slice A0 l.n0 c0, .int .i64 x.at_, .slice A2 l.n2 c2, .slice l.A3 l.n3 l.c3, .slice A4 l.n4 c4] ∧ RW 29 w (W.heap.size + 1) #[.slice none 0 0, .int .i64 0, .slice none 0 0, .slice none 0 0, .slice none 0 0] ∧ Below W.heap.size W w ∧ W.heap.size + 2 ≤ w.heap.size ∧
  (OwnS w (W.heap.size + 2) A0 l.n0 c0 x.input_ ∧ OwnS w (W.heap.size + 2) A2 l.n2 c2 x.output_ ∧ OwnS w (W.heap.size + 2) A4 l.n4 c4 x.trace_) ∧ (l.n0 ≤ c0 ∧ l.n2 ≤ c2 ∧ l.n4 ≤ c4) ∧ (∀ b, AtB A0 b → ¬ AtB A2 b) ∧ (∀ b, AtB A0 b → ¬ AtB A4 b) ∧ (∀ b, AtB A2 b → ¬ AtB A4 b)
theorem Co1.of {W w : World} {x0 x2 x4 : List St} {x1 : Int} {x3 : List Fl} {A0 A2 A3 A4 A0m A2m A4m : Option Addr} {n0 c0 n2 c2 n3 c3 n4 c4 c0m c2m c4m m1 m2 : Nat} {h0 : n0 ≤ c0} {h2 : n2 ≤ c2} {h3 : n3 ≤ c3} {h4 : n4 ≤ c4}
    (hr : RW 29 w W.heap.size #[.slice A0 n0 c0, .int .i64 x1, .slice A2 n2 c2, .slice A3 n3 c3, .slice A4 n4 c4]) (ho : RW 29 w (W.heap.size + 1) #[.slice none 0 0, .int .i64 0, .slice none 0 0, .slice none 0 0, .slice none 0 0]) (hb : Below W.heap.size W w)
    (hi : OwnS w (W.heap.size + 2) A0m n0 c0m x0 ∧ OwnS w m1 A2m n2 c2m x2 ∧ OwnS w m2 A4m n4 c4m x4) (hc0 : n0 ≤ c0m) (hc2 : n2 ≤ c2m) (hc4 : n4 ≤ c4m)
    (hm1 : W.heap.size + 2 ≤ m1) (hm2 : m1 ≤ m2) (hm3 : m2 ≤ w.heap.size) (t0 : ∀ b, AtB A0m b → b < m1) (t2 : ∀ b, AtB A2m b → b < m2) :
    Co1 W ⟨x0, x1, x2, x3, x4⟩ ⟨A0, n0, c0, h0, A2, n2, c2, h2, A3, n3, c3, h3, A4, n4, c4, h4⟩ A0m A2m A4m c0m c2m c4m (((w.setCell ⟨W.heap.size, 0, none⟩ (.slice A0m n0 c0m)).setCell ⟨W.heap.size, 2, none⟩ (.slice A2m n2 c2m)).setCell ⟨W.heap.size, 4, none⟩ (.slice A4m n4 c4m)) := by
  have sz : ∀ (w : World) (p : Addr) (v : Value), (w.setCell p v).heap.size = w.heap.size := fun w p v => size_set _ _ _
  refine ⟨((hr.set_ 0 _).set_ 2 _).set_ 4 _, ?_, ((hb.setCell (Nat.le_refl _) _).setCell (Nat.le_refl _) _).setCell (Nat.le_refl _) _, by rw [sz, sz, sz]; omega, ⟨?_, ?_, ?_⟩, ⟨hc0, hc2, hc4⟩, fun b hA hA' => ?_, fun b hA hA' => ?_, fun b hA hA' => ?_⟩
  · exact ((ho.other (p := ⟨W.heap.size, 0, none⟩) (by simp) _).other (p := ⟨W.heap.size, 2, none⟩) (by simp) _).other (p := ⟨W.heap.size, 4, none⟩) (by simp) _
  · exact ((hi.1.low (by omega) _).low (by omega) _).low (by omega) _
  · exact (((hi.2.1.low (by omega) _).low (by omega) _).low (by omega) _).lower hm1
  · exact (((hi.2.2.low (by omega) _).low (by omega) _).low (by omega) _).lower (by omega)
  · have := t0 b hA; have := (hi.2.1.row hA').1; omega
  · have := t0 b hA; have := (hi.2.2.row hA').1; omega
  · have := t2 b hA; have := (hi.2.2.row hA').1; omega
/-- What a copy of a console is. -/
def CloneO (x : Cn) (W : World) (e : Ending) (w' : World) : Prop := ∃ (l' : CnLay) (zs : List (Fl × FlLay)), e = .returned (x.ag l') ∧ Hid (OwnCn W.heap.size w' x l' zs ∧ Below W.heap.size W w')
theorem FlsO.lower {B B' : Nat} {w : World} {v : Value} {zs : List (Fl × FlLay)} (h : FlsO B w v zs) (hB : B' ≤ B) : FlsO B' w v zs := by
  refine ⟨⟨h.own.1, ?_⟩, fun j p hp => ⟨(h.el j p hp).1.lower hB, (h.el j p hp).2⟩, h.ap⟩
  rcases h.own.2 with h0 | ⟨b, cap, cur, hv, hb, r⟩
  · exact .inl h0
  · exact .inr ⟨b, cap, cur, hv, Nat.le_trans hB hb, r⟩
/-- .. and the files' copies. -/
theorem Co1.all {W w w2 : World} {x0 x2 x4 : List St} {x1 : Int} {x3 : List Fl} {A0 A2 A3 A3m A4 A0m A2m A4m : Option Addr} {n0 c0 n2 c2 n3 c3 n4 c4 c0m c2m c3m c4m : Nat} {h0 : n0 ≤ c0} {h2 : n2 ≤ c2} {h3 : n3 ≤ c3} {h4 : n4 ≤ c4} {zs : List (Fl × FlLay)}
    (h : Co1 W ⟨x0, x1, x2, x3, x4⟩ ⟨A0, n0, c0, h0, A2, n2, c2, h2, A3, n3, c3, h3, A4, n4, c4, h4⟩ A0m A2m A4m c0m c2m c4m w) (B : Nat) (hB : w.heap.size ≤ B) (hb : Below w.heap.size w w2) (hf : FlsO B w2 (.slice A3m n3 c3m) zs) (hz : zs.map Prod.fst = x3) (hn : x3.length = n3) (h3m : n3 ≤ c3m) :
    OwnCn W.heap.size w2 ⟨x0, x1, x2, x3, x4⟩ ⟨A0m, n0, c0m, h.2.2.2.2.2.1.1, A2m, n2, c2m, h.2.2.2.2.2.1.2.1, A3m, n3, c3m, h3m, A4m, n4, c4m, h.2.2.2.2.2.1.2.2⟩ zs := by
  obtain ⟨hr, ho, hW, hz2, ⟨i0, i2, i4⟩, _, a0, a1, a2⟩ := h
  refine ⟨(i0.keep hb).lower (by omega), (i2.keep hb).lower (by omega), (i4.keep hb).lower (by omega), hf.lower (by omega), by have e : zs.length = x3.length := by { rw [← hz, List.length_map] }; exact e.trans hn, hz, a0, a1, a2, fun j p hp b hA => ?_⟩
  have hge := ((hf.el j p hp).1.row hA).1
  exact ⟨fun h => by have := i0.lt h; omega, fun h => by have := i2.lt h; omega, fun h => by have := i4.lt h; omega⟩

set_option maxHeartbeats 4000000 in
set_option maxRecDepth 100000 in
theorem cloneConsole_any (x : Cn) (l : CnLay) (W : World) (hv : CnV W W.heap.size x l) (h0 : l.n0 ≤ 1048576) (h2 : l.n2 ≤ 1048576) (h4 : l.n4 ≤ 1048576) (h3 : l.n3 ≤ 1048576) (hF : ∀ (j : Nat) (y : Fl), x.files_[j]? = some y → y.lines_.length ≤ 1048576) :
    Calls Tryd.prog 69 #[x.ag l] W (CloneO x W) := by
  obtain ⟨x0, x1, x2, x3, x4⟩ := x
  obtain ⟨A0, n0, c0, h0', A2, n2, c2, h2', A3, n3, c3, h3', A4, n4, c4, h4'⟩ := l
  obtain ⟨k0, k2, k3, k4⟩ := hv
  dsimp only at k0 k2 k3 k4 h0 h2 h3 h4 hF
  have HFF := Lib.hid hF
  have HK0 := Lib.hid k0
  have HK2 := Lib.hid k2
  have HK3 := Lib.hid k3
  have HK4 := Lib.hid k4
  have HC := Lib.hid (two_newT W 29 #[.slice A0 n0 c0, .int .i64 x1, .slice A2 n2 c2, .slice A3 n3 c3, .slice A4 n4 c4] #[.slice none 0 0, .int .i64 0, .slice none 0 0, .slice none 0 0, .slice none 0 0])
  clear k0 k2 k3 k4 hF
  show Calls Tryd.prog 69 #[.agg #[.slice A0 n0 c0, .int .i64 x1, .slice A2 n2 c2, .slice A3 n3 c3, .slice A4 n4 c4]] W _
  go_enter Tryd.func69, Tryd.ntmps69
  go_wp2_with fail
  obtain ⟨wr, hwr⟩ : ∃ wr, (W.alloc (.cells #[.slice A0 n0 c0, .int .i64 x1, .slice A2 n2 c2, .slice A3 n3 c3, .slice A4 n4 c4] 29)).alloc (.cells #[.slice none 0 0, .int .i64 0, .slice none 0 0, .slice none 0 0, .slice none 0 0] 29) = wr := ⟨_, rfl⟩
  rw [hwr]
  obtain ⟨g0, g1, g2, g3⟩ := HC.out _ hwr.symm
  have HB0 : Hid (Below W.heap.size W wr.drew) := g2.drew
  have HR0 : Hid (RW 29 wr.drew W.heap.size #[.slice A0 n0 c0, .int .i64 x1, .slice A2 n2 c2, .slice A3 n3 c3, .slice A4 n4 c4]) := g0
  have HO0 : Hid (RW 29 wr.drew (W.heap.size + 1) #[.slice none 0 0, .int .i64 0, .slice none 0 0, .slice none 0 0, .slice none 0 0]) := g1
  have HZ0 : Hid (wr.drew.heap.size = W.heap.size + 2) := g3
  clear hwr g1 g2 g3 HC
  have p0 : wr.cell? ⟨W.heap.size, 0, none⟩ = some (.slice A0 n0 c0) := g0.cell 0
  have p2 : wr.cell? ⟨W.heap.size, 2, none⟩ = some (.slice A2 n2 c2) := g0.cell 2
  have p4 : wr.cell? ⟨W.heap.size, 4, none⟩ = some (.slice A4 n4 c4) := g0.cell 4
  clear g0
  have tk1 : True := trivial
  have tk2 : True := trivial
  have tk3 : True := trivial
  go_cut [] from 3 to 14 (fun wx => ∃ A0m c0m A2m c2m A4m c4m, Hid (Co1 W ⟨x0, x1, x2, x3, x4⟩ ⟨A0, n0, c0, h0', A2, n2, c2, h2', A3, n3, c3, h3', A4, n4, c4, h4'⟩ A0m A2m A4m c0m c2m c4m wx))
  case first =>
   go_region_law (first
    | (go_simp; go_at_call 83; have tk := tk1; refine (copyOfO_any A0 n0 c0 x0 _ (HK0.out.go HB0.out) h0).mono ?_; rintro e w1 ⟨A0m, c0m, rfl, hc0m, h⟩; obtain ⟨hi, hb⟩ := h.out; have HC0 := Lib.hid hc0m; have HI0 : Hid (OwnS w1 (W.heap.size + 2) A0m n0 c0m x0) := (by rw [← HZ0.out]; exact hi); have HT0 : Hid (∀ b, AtB A0m b → b < w1.heap.size) := (fun b hA => hi.lt hA); have HZ1 : Hid (W.heap.size + 2 ≤ w1.heap.size) := (by rw [← HZ0.out]; exact hb.size); have HB1 := Lib.hid (HB0.out.trans (hb.mono HB0.out.size)); have HR1 : Hid (RW 29 w1 W.heap.size #[.slice A0 n0 c0, .int .i64 x1, .slice A2 n2 c2, .slice A3 n3 c3, .slice A4 n4 c4]) := HR0.out.below hb HR0.out.lt; have HO1 := Lib.hid (HO0.out.below hb HO0.out.lt); have r2 : w1.cell? ⟨W.heap.size, 2, none⟩ = some (.slice A2 n2 c2) := HR1.out.cell 2; have r4 : w1.cell? ⟨W.heap.size, 4, none⟩ = some (.slice A4 n4 c4) := HR1.out.cell 4; clear h hi hb hc0m tk tk1)
    | (go_simp; go_at_call 83; have tk := tk2; refine (copyOfO_any A2 n2 c2 x2 _ (HK2.out.go HB1.out) h2).mono ?_; rintro e w2 ⟨A2m, c2m, rfl, hc2m, h⟩; obtain ⟨hi, hb⟩ := h.out; have HC2 := Lib.hid hc2m; have HI2 : Hid (OwnS w2 (W.heap.size + 2) A0m n0 c0m x0 ∧ OwnS w2 w1.heap.size A2m n2 c2m x2) := ⟨HI0.out.keep hb, hi⟩; have HT2 : Hid (∀ b, AtB A2m b → b < w2.heap.size) := (fun b hA => hi.lt hA); have HZ2 := Lib.hid hb.size; have HB2 := Lib.hid (HB1.out.trans (hb.mono HB1.out.size)); have HR2 : Hid (RW 29 w2 W.heap.size #[.slice A0 n0 c0, .int .i64 x1, .slice A2 n2 c2, .slice A3 n3 c3, .slice A4 n4 c4]) := HR1.out.below hb HR1.out.lt; have HO2 := Lib.hid (HO1.out.below hb HO1.out.lt); have s4 : w2.cell? ⟨W.heap.size, 4, none⟩ = some (.slice A4 n4 c4) := HR2.out.cell 4; clear h hi hb hc2m tk tk2 r2 r4)
    | (go_simp; go_at_call 83; have tk := tk3; refine (copyOfO_any A4 n4 c4 x4 _ (HK4.out.go HB2.out) h4).mono ?_; rintro e w3 ⟨A4m, c4m, rfl, hc4m, h⟩; obtain ⟨hi, hb⟩ := h.out; have HC4 := Lib.hid hc4m; have HI4 : Hid (OwnS w3 (W.heap.size + 2) A0m n0 c0m x0 ∧ OwnS w3 w1.heap.size A2m n2 c2m x2 ∧ OwnS w3 w2.heap.size A4m n4 c4m x4) := ⟨HI2.out.1.keep hb, HI2.out.2.keep hb, hi⟩; have HZ3 := Lib.hid hb.size; have HB3 := Lib.hid (HB2.out.trans (hb.mono HB2.out.size)); have HR3 : Hid (RW 29 w3 W.heap.size #[.slice A0 n0 c0, .int .i64 x1, .slice A2 n2 c2, .slice A3 n3 c3, .slice A4 n4 c4]) := HR2.out.below hb HR2.out.lt; have HO3 := Lib.hid (HO2.out.below hb HO2.out.lt); have y0 : w3.cell? ⟨W.heap.size, 0, none⟩ = some (.slice A0 n0 c0) := HR3.out.cell 0; have y2 : w3.cell? ⟨W.heap.size, 2, none⟩ = some (.slice A2 n2 c2) := HR3.out.cell 2; have y4 : w3.cell? ⟨W.heap.size, 4, none⟩ = some (.slice A4 n4 c4) := HR3.out.cell 4; have f0 := HR3.out.frozen 0; have f2 := HR3.out.frozen 2; have f4 := HR3.out.frozen 4; clear h hi hb hc4m tk tk3 s4))
   all_goals (go_wp2_with fail; go_meet)
   all_goals
    exact ⟨A0m, c0m, A2m, c2m, A4m, c4m, Lib.hid (Co1.of HR3.out HO3.out HB3.out HI4.out HC0.out HC2.out HC4.out HZ1.out HZ2.out HZ3.out HT0.out HT2.out)⟩
  case rest =>
   obtain ⟨A0m, c0m, A2m, c2m, A4m, c4m, HCL⟩ := hcut
   clear p0 p2 p4 HB0 HR0 HO0 HZ0 tk1 tk2 tk3 HK0 HK2 HK4
   have q0 : wc.cell? ⟨W.heap.size, 0, none⟩ = some (.slice A0m n0 c0m) := HCL.out.1.cell 0
   have q1 : wc.cell? ⟨W.heap.size, 1, none⟩ = some (.int .i64 x1) := HCL.out.1.cell 1
   have q2 : wc.cell? ⟨W.heap.size, 2, none⟩ = some (.slice A2m n2 c2m) := HCL.out.1.cell 2
   have q3 : wc.cell? ⟨W.heap.size, 3, none⟩ = some (.slice A3 n3 c3) := HCL.out.1.cell 3
   have q4 : wc.cell? ⟨W.heap.size, 4, none⟩ = some (.slice A4m n4 c4m) := HCL.out.1.cell 4
   go_wp2_with (first
     | (go_at_call 58; refine Calls.mono (files_any ⟨x0, x1, x2, x3, x4⟩ ⟨A0m, n0, c0m, HCL.out.2.2.2.2.2.1.1, A2m, n2, c2m, HCL.out.2.2.2.2.2.1.2.1, A3, n3, c3, h3', A4m, n4, c4m, HCL.out.2.2.2.2.2.1.2.2⟩ _) ?_; rintro e w4 ⟨he, hb⟩; obtain rfl : e = .returned (.slice A3 n3 c3) := he; have HB4 := Lib.hid hb; clear hb)
     | (go_at_call 84; refine (cloneFls_any A3 n3 c3 x3 w4 ((HK3.out.go HCL.out.2.2.1).go HB4.out) h3 HFF.out).mono ?_; rintro e w5 ⟨A3m, c3m, zs, rfl, h⟩; obtain ⟨hf, hz, hb⟩ := h.out; have HF5 := Lib.hid hf; have HZ5 := Lib.hid hz; have HB5 : Hid (Below wc.heap.size wc w5) := HB4.out.trans (hb.mono HB4.out.size); have HS5 : Hid (wc.heap.size ≤ w4.heap.size) := HB4.out.size; have HR5 := Lib.hid (HCL.out.1.below HB5.out HCL.out.1.lt); have HO5 := Lib.hid (HCL.out.2.1.below HB5.out HCL.out.2.1.lt); have y0 : w5.cell? ⟨W.heap.size, 0, none⟩ = some (.slice A0m n0 c0m) := HR5.out.cell 0; have y1 : w5.cell? ⟨W.heap.size, 1, none⟩ = some (.int .i64 x1) := HR5.out.cell 1; have y2 : w5.cell? ⟨W.heap.size, 2, none⟩ = some (.slice A2m n2 c2m) := HR5.out.cell 2; have y3 : w5.cell? ⟨W.heap.size, 3, none⟩ = some (.slice A3 n3 c3) := HR5.out.cell 3; have y4 : w5.cell? ⟨W.heap.size, 4, none⟩ = some (.slice A4m n4 c4m) := HR5.out.cell 4; have f3 := HR5.out.frozen 3; have z0 := HO5.out.cell 0; have z1 := HO5.out.cell 1; have z2 := HO5.out.cell 2; have z3 := HO5.out.cell 3; have z4 := HO5.out.cell 4; have e0 := HO5.out.frozen 0; have e1 := HO5.out.frozen 1; have e2 := HO5.out.frozen 2; have e3 := HO5.out.frozen 3; have e4 := HO5.out.frozen 4; clear h hf hz hb q0 q1 q2 q3 q4))
   have h3m : n3 ≤ c3m := by
     rcases HF5.out.own.2 with ⟨e, h0⟩ | ⟨g, cap, cur, e, _, _, h, _⟩
     · simp only [Value.slice.injEq] at e; omega
     · simp only [Value.slice.injEq] at e; omega
   have hOC := (Co1.all HCL.out w4.heap.size HS5.out HB5.out HF5.out HZ5.out HK3.out.1 h3m)
   have hBW : Below W.heap.size W w5 := HCL.out.2.2.1.trans (HB5.out.mono HCL.out.2.2.1.size)
   have hR := HR5.out.set_ 3 (.slice A3m n3 c3m)
   have hC := hOC.other (i := 3) HR5.out (by decide) (by decide) (.slice A3m n3 c3m)
   have hO := HO5.out.other (p := ⟨W.heap.size, 3, none⟩) (by simp) (.slice A3m n3 c3m)
   have k1 := hC.other (i := 0) hO (by decide) (by decide) (.slice A0m n0 c0m)
   have k2 := k1.other (i := 1) (hO.set_ 0 _) (by decide) (by decide) (.int .i64 x1)
   have k3 := k2.other (i := 2) ((hO.set_ 0 _).set_ 1 _) (by decide) (by decide) (.slice A2m n2 c2m)
   have k4 := k3.other (i := 3) (((hO.set_ 0 _).set_ 1 _).set_ 2 _) (by decide) (by decide) (.slice A3m n3 c3m)
   have k5 := k4.other (i := 4) ((((hO.set_ 0 _).set_ 1 _).set_ 2 _).set_ 3 _) (by decide) (by decide) (.slice A4m n4 c4m)
   refine bodyPost_ret (v := .agg #[.slice A0m n0 c0m, .int .i64 x1, .slice A2m n2 c2m, .slice A3m n3 c3m, .slice A4m n4 c4m]) (results_cell_row Tryd.results69 _ _ (W.heap.size + 1) 29 _ (0, 0) _ rfl (((((hO.set_ 0 _).set_ 1 _).set_ 2 _).set_ 3 _).set_ 4 _) Tryd.underlying29 rfl (by kernel_rfl)) rfl ?_
   exact ⟨⟨A0m, n0, c0m, _, A2m, n2, c2m, _, A3m, n3, c3m, h3m, A4m, n4, c4m, _⟩, zs, rfl, Lib.hid ⟨k5, (((((hBW.setCell (p := ⟨W.heap.size, 3, none⟩) (Nat.le_refl _) _).setCell (p := ⟨W.heap.size + 1, 0, none⟩) (by simp) _).setCell (p := ⟨W.heap.size + 1, 1, none⟩) (by simp) _).setCell (p := ⟨W.heap.size + 1, 2, none⟩) (by simp) _).setCell (p := ⟨W.heap.size + 1, 3, none⟩) (by simp) _).setCell (p := ⟨W.heap.size + 1, 4, none⟩) (by simp) _⟩⟩
end Go.Proofs.YtlohjmlenbkbmaaDoor

namespace Go.Proofs.YtlohjmlenbkbmaaDoor
open Go Go.RowKit

theorem results_row_cell {P : Program} {fn : Func} {p q : Tmp} {ty tq : TypeId} (h : fn.results = #[.cell p ty, .cell q tq]) (tmps : Array Value) (w : World) (g : Nat) (t : TypeId) (cs : Array Value) (fr : Nat × Nat) (d : TypeDesc) (v : Value)
    (hp : tmps.getD p undef = .pointer (some ⟨g, 0, none⟩)) (a : Addr) (hv : tmps.getD q undef = .pointer (some a)) (hl : (loadVar tq a).run P w = .ok v w) (hg : w.heap[g]? = some (.cells cs t fr))
    (hu : P.underlying ty = some d) (hd : (match d with | .struct _ | .array _ _ => true | _ => false) = true) (hi : (P.info? ty).map (·.size) = some cs.size) :
    (results fn tmps).run P w = .ok (.tuple #[.agg cs, v]) w := by
  have hp' : tmps[p]?.getD undef = .pointer (some ⟨g, 0, none⟩) := by simpa using hp
  have hv' : tmps[q]?.getD undef = .pointer (some a) := by simpa using hv
  simp [results, h, hp', hv', asAddr, run_loadVar_row w g t ty cs fr d hg hu hd hi, hl, Sem.run_bind, Result.andThen]
theorem load_i64 {g : Nat} {k : Int} {w : World} (h : w.cell? ⟨g, 0, none⟩ = some (.int .i64 k)) : (loadVar 2 ⟨g, 0, none⟩).run Tryd.prog w = .ok (.int .i64 k) w := by
  simp [go_sem, h]

theorem undo_idle (gc gx : Nat) (u : FrameMode) (w : World) (hc : w.cell? ⟨gc, 0, none⟩ = some (.int .i64 0)) :
    CallsD Tryd.prog 68 #[.pointer (some ⟨gc, 0, none⟩), .pointer (some ⟨gx, 0, none⟩)] u w fun e u' w' => u' = u ∧ (e = .returned (.tuple #[]) ∧ w' = w) := by
  go_enter_d Tryd.func68, Tryd.ntmps68
  go_wp2
  go_end0
  exact ⟨rfl, rfl⟩
/-- The zero console. -/
def zeroC : Array Value := #[.slice none 0 0, .int .i64 0, .slice none 0 0, .slice none 0 0, .slice none 0 0]
set_option maxHeartbeats 2000000 in
set_option maxRecDepth 100000 in
theorem undo_works (gc gx : Nat) (k : Int) (hk : ¬ k = 0) (v0 v1 v2 v3 v4 : Value) (u : FrameMode) (w : World) (hc : w.cell? ⟨gc, 0, none⟩ = some (.int .i64 k)) (hx : RW 29 w gx #[v0, v1, v2, v3, v4]) :
    CallsD Tryd.prog 68 #[.pointer (some ⟨gc, 0, none⟩), .pointer (some ⟨gx, 0, none⟩)] u w fun e u' w' => u' = u ∧ (e = .returned (.tuple #[]) ∧ RW 29 w' gx zeroC ∧ Turn (fun b => b = gx) w w') := by
  have z0 := hx.cell 0
  have z1 := hx.cell 1
  have z2 := hx.cell 2
  have z3 := hx.cell 3
  have z4 := hx.cell 4
  have f0 := hx.frozen 0
  have f1 := hx.frozen 1
  have f2 := hx.frozen 2
  have f3 := hx.frozen 3
  have f4 := hx.frozen 4
  go_enter_d Tryd.func68, Tryd.ntmps68
  go_wp2
  go_end0
  have e := ((((hx.set_ 0 (.slice none 0 0)).set_ 1 (.int .i64 0)).set_ 2 (.slice none 0 0)).set_ 3 (.slice none 0 0)).set_ 4 (.slice none 0 0)
  have hz : ((((#[v0, v1, v2, v3, v4].setIfInBounds 0 (.slice none 0 0)).setIfInBounds 1 (.int .i64 0)).setIfInBounds 2 (.slice none 0 0)).setIfInBounds 3 (.slice none 0 0)).setIfInBounds 4 (.slice none 0 0) = zeroC := by simp [zeroC]
  rw [hz] at e
  clear hz
  refine ⟨rfl, e, rfl, rfl, rfl, ?_, fun j _ hn => ?_⟩
  · rw [size_set, size_set, size_set, size_set, size_set]
    exact Nat.le_refl _
  · exact ((((Below.heap_setCell _ ⟨gx, 4, none⟩ _ j hn).trans (Below.heap_setCell _ ⟨gx, 3, none⟩ _ j hn)).trans (Below.heap_setCell _ ⟨gx, 2, none⟩ _ j hn)).trans (Below.heap_setCell _ ⟨gx, 1, none⟩ _ j hn)).trans (Below.heap_setCell _ ⟨gx, 0, none⟩ _ j hn)
end Go.Proofs.YtlohjmlenbkbmaaDoor

namespace Go.Proofs.YtlohjmlenbkbmaaDoor
open Go Go.RowKit

/-- What a function that changes a console answers: the console and the code. -/
def ConR (K : Int) (X : Cn) (W : World) (e : Ending) (w' : World) : Prop := ∃ (l : CnLay) (zs : List (Fl × FlLay)), e = .returned (.tuple #[X.ag l, .int .i64 K]) ∧ Hid (OwnCn W.heap.size w' X l zs ∧ Below W.heap.size W w')
def zC : Cn := ⟨[], 0, [], [], []⟩
def zL : CnLay := ⟨none, 0, 0, Nat.le_refl _, none, 0, 0, Nat.le_refl _, none, 0, 0, Nat.le_refl _, none, 0, 0, Nat.le_refl _⟩
theorem ownS_nil (w : World) (B : Nat) : OwnS w B none 0 0 [] := ⟨World.ownsRow_nil _ _ _ _, fun j x hx => by simp at hx⟩
theorem zero_own (B : Nat) (w : World) : OwnCn B w zC zL [] := ⟨ownS_nil _ _, ownS_nil _ _, ownS_nil _ _, FlsO.nil _ _, rfl, rfl, (fun b h => by cases h), (fun b h => by cases h), (fun b h => by cases h), (fun j p hp => by simp at hp)⟩
theorem ConR.zero {K : Int} {W w : World} (hb : Below W.heap.size W w) : ConR K zC W (.returned (.tuple #[.agg zeroC, .int .i64 K])) w := ⟨zL, [], rfl, Lib.hid ⟨zero_own _ _, hb⟩⟩
theorem three_new (W : World) (T T' T'' : TypeId) (c c' c'' : Array Value) (X : World) (e : X = ((W.alloc (.cells c T)).alloc (.cells c' T')).alloc (.cells c'' T'')) : RW T X W.heap.size c ∧ RW T' X (W.heap.size + 1) c' ∧ RW T'' X (W.heap.size + 2) c'' ∧ Below W.heap.size W X ∧ X.heap.size = W.heap.size + 3 := by
  subst e
  refine ⟨((RW.new W c T).alloc _).alloc _, ?_, ?_, ((below_alloc _ _).alloc (by simp) _).alloc (by simp; omega) _, by simp⟩
  · have := (RW.new (W.alloc (.cells c T)) c' T').alloc (.cells c'' T'')
    simpa using this
  · have := RW.new ((W.alloc (.cells c T)).alloc (.cells c' T')) c'' T''
    simpa using this
theorem sets_zero {w : World} {g : Nat} {v0 v1 v2 v3 v4 : Value} (hx : RW 29 w g #[v0, v1, v2, v3, v4]) : RW 29 (((((w.setCell ⟨g, 0, none⟩ (.slice none 0 0)).setCell ⟨g, 1, none⟩ (.int .i64 0)).setCell ⟨g, 2, none⟩ (.slice none 0 0)).setCell ⟨g, 3, none⟩ (.slice none 0 0)).setCell ⟨g, 4, none⟩ (.slice none 0 0)) g zeroC := by
  have e := ((((hx.set_ 0 (.slice none 0 0)).set_ 1 (.int .i64 0)).set_ 2 (.slice none 0 0)).set_ 3 (.slice none 0 0)).set_ 4 (.slice none 0 0)
  have hz : ((((#[v0, v1, v2, v3, v4].setIfInBounds 0 (.slice none 0 0)).setIfInBounds 1 (.int .i64 0)).setIfInBounds 2 (.slice none 0 0)).setIfInBounds 3 (.slice none 0 0)).setIfInBounds 4 (.slice none 0 0) = zeroC := by simp [zeroC]
  rw [hz] at e
  exact e
theorem below_five {W w : World} {g : Nat} (h : Below W.heap.size W w) (hg : W.heap.size ≤ g) (v0 v1 v2 v3 v4 : Value) : Below W.heap.size W (((((w.setCell ⟨g, 0, none⟩ v0).setCell ⟨g, 1, none⟩ v1).setCell ⟨g, 2, none⟩ v2).setCell ⟨g, 3, none⟩ v3).setCell ⟨g, 4, none⟩ v4) :=
  ((((h.setCell (p := ⟨g, 0, none⟩) hg _).setCell (p := ⟨g, 1, none⟩) hg _).setCell (p := ⟨g, 2, none⟩) hg _).setCell (p := ⟨g, 3, none⟩) hg _).setCell (p := ⟨g, 4, none⟩) hg _

/-- Boxes of other kinds, but box g, stand. -/
def Stand (g : Nat) (w w' : World) : Prop := ∀ (b : Nat) (T : TypeId) (cs : Array Value), RW T w b cs → 9 ≠ T → 50 ≠ T → b ≠ g → RW T w' b cs
/-- What a change answers: its code; and the console in box g. -/
def ChRes (K : Int) (X : Cn) (W : World) (g : Nat) (w : World) (e : Ending) (w' : World) : Prop := e = .returned (.int .i64 K) ∧ Hid (Below W.heap.size W w' ∧ Stand g w w' ∧ (∃ (l1 : CnLay) (z : Int), RW 29 w' g #[.slice l1.A0 l1.n0 l1.c0, .int .i64 z, .slice l1.A2 l1.n2 l1.c2, .slice l1.A3 l1.n3 l1.c3, .slice l1.A4 l1.n4 l1.c4]) ∧ (K = 0 → ∃ (l2 : CnLay) (zs2 : List (Fl × FlLay)), RW 29 w' g #[.slice l2.A0 l2.n0 l2.c0, .int .i64 X.at_, .slice l2.A2 l2.n2 l2.c2, .slice l2.A3 l2.n3 l2.c3, .slice l2.A4 l2.n4 l2.c4] ∧ OwnCn W.heap.size w' X l2 zs2))
theorem OwnCn.lower {B B' : Nat} {w : World} {x : Cn} {l : CnLay} {zs : List (Fl × FlLay)} (h : OwnCn B w x l zs) (hB : B' ≤ B) : OwnCn B' w x l zs := ⟨h.o0.lower hB, h.o2.lower hB, h.o4.lower hB, h.o3.lower hB, h.n3, h.fs, h.a02, h.a04, h.a24, h.a3⟩
theorem sets_five {w : World} {g : Nat} {u0 u1 u2 u3 u4 v0 v1 v2 v3 v4 : Value} (hx : RW 29 w g #[u0, u1, u2, u3, u4]) : RW 29 (((((w.setCell ⟨g, 0, none⟩ v0).setCell ⟨g, 1, none⟩ v1).setCell ⟨g, 2, none⟩ v2).setCell ⟨g, 3, none⟩ v3).setCell ⟨g, 4, none⟩ v4) g #[v0, v1, v2, v3, v4] := by
  have e := ((((hx.set_ 0 v0).set_ 1 v1).set_ 2 v2).set_ 3 v3).set_ 4 v4
  have hz : ((((#[u0, u1, u2, u3, u4].setIfInBounds 0 v0).setIfInBounds 1 v1).setIfInBounds 2 v2).setIfInBounds 3 v3).setIfInBounds 4 v4 = #[v0, v1, v2, v3, v4] := by simp
  rw [hz] at e
  exact e
theorem own_five {B g : Nat} {w : World} {x : Cn} {l : CnLay} {zs : List (Fl × FlLay)} {u0 u1 u2 u3 u4 v0 v1 v2 v3 v4 : Value} (h : OwnCn B w x l zs) (hx : RW 29 w g #[u0, u1, u2, u3, u4]) : OwnCn B (((((w.setCell ⟨g, 0, none⟩ v0).setCell ⟨g, 1, none⟩ v1).setCell ⟨g, 2, none⟩ v2).setCell ⟨g, 3, none⟩ v3).setCell ⟨g, 4, none⟩ v4) x l zs := by
  have k1 := h.other (i := 0) hx (by decide) (by decide) v0
  have k2 := k1.other (i := 1) (hx.set_ 0 v0) (by decide) (by decide) v1
  have k3 := k2.other (i := 2) ((hx.set_ 0 v0).set_ 1 v1) (by decide) (by decide) v2
  have k4 := k3.other (i := 3) (((hx.set_ 0 v0).set_ 1 v1).set_ 2 v2) (by decide) (by decide) v3
  exact k4.other (i := 4) ((((hx.set_ 0 v0).set_ 1 v1).set_ 2 v2).set_ 3 v3) (by decide) (by decide) v4
theorem rw_five {T : TypeId} {w : World} {b g : Nat} {cs : Array Value} (h : RW T w b cs) (hg : b ≠ g) {v0 v1 v2 v3 v4 : Value} : RW T (((((w.setCell ⟨g, 0, none⟩ v0).setCell ⟨g, 1, none⟩ v1).setCell ⟨g, 2, none⟩ v2).setCell ⟨g, 3, none⟩ v3).setCell ⟨g, 4, none⟩ v4) b cs :=
  ((((h.other (p := ⟨g, 0, none⟩) hg v0).other (p := ⟨g, 1, none⟩) hg v1).other (p := ⟨g, 2, none⟩) hg v2).other (p := ⟨g, 3, none⟩) hg v3).other (p := ⟨g, 4, none⟩) hg v4

set_option maxHeartbeats 2000000 in
/-- The door: what is deferred, and the results. -/
theorem change_door {K : Int} {X R : Cn} {W w5 : World} {tmps : Array Value} {b1 b2 : Nat} {l1 : CnLay} {z : Int} (h6 : tmps.getD 6 undef = .pointer (some ⟨b1, 0, none⟩)) (h7 : tmps.getD 7 undef = .pointer (some ⟨b2, 0, none⟩)) (hne : b2 ≠ b1) (hb1 : W.heap.size ≤ b1)
    (hR : RW 29 w5 b1 #[.slice l1.A0 l1.n0 l1.c0, .int .i64 z, .slice l1.A2 l1.n2 l1.c2, .slice l1.A3 l1.n3 l1.c3, .slice l1.A4 l1.n4 l1.c4]) (hQ : RW 2 w5 b2 #[.int .i64 K]) (hB : Below W.heap.size W w5)
    (hX : K = 0 → ∃ (l2 : CnLay) (zs2 : List (Fl × FlLay)), (#[.slice l1.A0 l1.n0 l1.c0, .int .i64 z, .slice l1.A2 l1.n2 l1.c2, .slice l1.A3 l1.n3 l1.c3, .slice l1.A4 l1.n4 l1.c4] : Array Value) = #[.slice l2.A0 l2.n0 l2.c0, .int .i64 X.at_, .slice l2.A2 l2.n2 l2.c2, .slice l2.A3 l2.n3 l2.c3, .slice l2.A4 l2.n4 l2.c4] ∧ OwnCn W.heap.size w5 X l2 zs2) (hRX : (if K = 0 then X else zC) = R) :
    bodyPostD Tryd.prog Tryd.f36 (ConR K R W) Exit.ret { tmps := tmps, defers := [{ target := .fn (.func 68) #[.pointer (some ⟨b2, 0, none⟩), .pointer (some ⟨b1, 0, none⟩)], args := #[] }] } w5 := by
  refine leaves_cons (f := 68) (args := #[.pointer (some ⟨b2, 0, none⟩), .pointer (some ⟨b1, 0, none⟩)]) (by simp) (by simp [go_sem]) ?_
  by_cases hk : K = 0
  · rw [if_pos hk] at hRX
    subst hRX
    refine (undo_idle b2 b1 _ _ ((hQ.cell 0).trans (by rw [hk]; rfl))).mono ?_
    rintro e u' w'' ⟨rfl, rfl, rfl⟩
    obtain ⟨l2, zs2, he, ho⟩ := hX hk
    rw [he] at hR
    exact ⟨_, results_row_cell Tryd.results36 _ _ b1 29 _ (0, 0) _ _ h6 ⟨b2, 0, none⟩ h7 (load_i64 (hQ.cell 0)) hR Tryd.underlying29 rfl (by kernel_rfl), l2, zs2, rfl, Lib.hid ⟨ho, hB⟩⟩
  · rw [if_neg hk] at hRX
    subst hRX
    refine (undo_works b2 b1 K hk _ _ _ _ _ _ _ (hQ.cell 0) hR).mono ?_
    rintro e u' w'' ⟨rfl, rfl, hr, ht⟩
    have hQ2 : RW 2 w'' b2 #[.int .i64 K] := (ht.2.2.2.2 b2 hQ.lt hne).trans hQ
    exact ⟨_, results_row_cell Tryd.results36 _ _ b1 29 zeroC (0, 0) _ _ h6 ⟨b2, 0, none⟩ h7 (load_i64 (hQ2.cell 0)) hr Tryd.underlying29 rfl (by kernel_rfl), ConR.zero (hB.trans ((ht.below (B := W.heap.size) (fun j hj => by rw [hj]; exact hb1) hB.size)))⟩

theorem rw_drew {T : TypeId} {w : World} {g : Nat} {cs : Array Value} (h : RW T w g cs) : RW T w.drew g cs := h
theorem own_drew {B : Nat} {w : World} {x : Cn} {l : CnLay} {zs : List (Fl × FlLay)} (h : OwnCn B w x l zs) : OwnCn B w.drew x l zs := h.keep (Below.refl _ _).drew
/-- Behind the last statement. -/
def AtEnd (W : World) (K : Int) (X : Cn) (b1 b2 : Nat) (l1 : CnLay) (z : Int) (w : World) : Prop :=
  RW 29 w b1 #[.slice l1.A0 l1.n0 l1.c0, .int .i64 z, .slice l1.A2 l1.n2 l1.c2, .slice l1.A3 l1.n3 l1.c3, .slice l1.A4 l1.n4 l1.c4] ∧ RW 2 w b2 #[.int .i64 K] ∧ Below W.heap.size W w ∧ (K = 0 → ∃ (l2 : CnLay) (zs2 : List (Fl × FlLay)), (#[.slice l1.A0 l1.n0 l1.c0, .int .i64 z, .slice l1.A2 l1.n2 l1.c2, .slice l1.A3 l1.n3 l1.c3, .slice l1.A4 l1.n4 l1.c4] : Array Value) = #[.slice l2.A0 l2.n0 l2.c0, .int .i64 X.at_, .slice l2.A2 l2.n2 l2.c2, .slice l2.A3 l2.n3 l2.c3, .slice l2.A4 l2.n4 l2.c4] ∧ OwnCn W.heap.size w X l2 zs2)
theorem AtEnd.last {W w : World} {K : Int} {X : Cn} {b1 b2 : Nat} {l1 : CnLay} {z : Int} (h : AtEnd W K X b1 b2 l1 z w) (hne : b2 ≠ b1) (h1 : W.heap.size ≤ b1) (h2 : W.heap.size ≤ b2) :
    AtEnd W K X b1 b2 l1 z ((((((w.setCell ⟨b1, 0, none⟩ (.slice l1.A0 l1.n0 l1.c0)).setCell ⟨b1, 1, none⟩ (.int .i64 z)).setCell ⟨b1, 2, none⟩ (.slice l1.A2 l1.n2 l1.c2)).setCell ⟨b1, 3, none⟩ (.slice l1.A3 l1.n3 l1.c3)).setCell ⟨b1, 4, none⟩ (.slice l1.A4 l1.n4 l1.c4)).setCell ⟨b2, 0, none⟩ (.int .i64 K)).drew := by
  obtain ⟨hR, hQ, hB, hX⟩ := h
  refine ⟨rw_drew ((sets_five hR).other (p := ⟨b2, 0, none⟩) (fun e => hne e.symm) _), rw_drew ((rw_five hQ hne).set_ 0 _), ((below_five hB h1 _ _ _ _ _).setCell (p := ⟨b2, 0, none⟩) h2 _).drew, fun hk => ?_⟩
  obtain ⟨l2, zs2, e, ho⟩ := hX hk
  exact ⟨l2, zs2, e, own_drew ((own_five ho hR).other (rw_five hQ hne) (by decide) (by decide) _)⟩

set_option maxHeartbeats 4000000 in
set_option maxRecDepth 100000 in
theorem changeNo_any (x : Cn) (l : CnLay) (ok : Bool) (v : Value) (W : World) (hv : CnV W W.heap.size x l) (hT : Classes W) (hno : (consoleB x && ok) = false) :
    Calls Tryd.prog 36 #[x.ag l, .bool ok, v] W (ConR 1 zC W) := by
  have HV := Lib.hid (fun (w : World) (hb : Below W.heap.size W w) => impl_ValidConsole_any x l w (hv.go hb) (classes_go hT hb))
  obtain ⟨x0, x1, x2, x3, x4⟩ := x
  obtain ⟨A0, n0, c0, h0', A2, n2, c2, h2', A3, n3, c3, h3', A4, n4, c4, h4'⟩ := l
  obtain ⟨a, ha⟩ : ∃ a, consoleB ⟨x0, x1, x2, x3, x4⟩ = a := ⟨_, rfl⟩
  have HA := Lib.hid ha
  rw [ha] at hno
  have HC := Lib.hid (three_new W 29 29 2 #[.slice A0 n0 c0, .int .i64 x1, .slice A2 n2 c2, .slice A3 n3 c3, .slice A4 n4 c4] #[.slice none 0 0, .int .i64 0, .slice none 0 0, .slice none 0 0, .slice none 0 0] #[.int .i64 0])
  clear hv hT ha
  show Calls Tryd.prog 36 #[.agg #[.slice A0 n0 c0, .int .i64 x1, .slice A2 n2 c2, .slice A3 n3 c3, .slice A4 n4 c4], .bool ok, v] W _
  have key : a = false ∨ (a = true ∧ ok = false) := by cases a <;> cases ok <;> simp_all
  clear hno
  rcases key with rfl | ⟨rfl, rfl⟩
  all_goals
    go_enter_defers Tryd.func36, Tryd.ntmps36
    go_wp2_with (go_at_call 67; obtain ⟨g0, g1, g2, g3, g4⟩ := HC.out _ rfl; refine (HV.out _ g3).mono ?_; rintro e w1 ⟨rfl, hb⟩; rw [HA.out]; have HB1 := Lib.hid (g3.trans (hb.mono g3.size)); have HR1 := Lib.hid (g1.below hb g1.lt); have HQ1 := Lib.hid (g2.below hb g2.lt); have z0 := HR1.out.cell 0; have z1 := HR1.out.cell 1; have z2 := HR1.out.cell 2; have z3 := HR1.out.cell 3; have z4 := HR1.out.cell 4; have f0 := HR1.out.frozen 0; have f1 := HR1.out.frozen 1; have f2 := HR1.out.frozen 2; have f3 := HR1.out.frozen 3; have f4 := HR1.out.frozen 4; have k0 : w1.cell? ⟨W.heap.size + 2, 0, none⟩ = some (.int .i64 0) := HQ1.out.cell 0; have kf := HQ1.out.frozen 0; clear g0 g1 g2 g3 g4 hb)
    have hR := (sets_zero HR1.out).other (p := ⟨W.heap.size + 1 + 1, 0, none⟩) (by simp) (.int .i64 1)
    have hQ := (((((HQ1.out.other (p := ⟨W.heap.size + 1, 0, none⟩) (by simp) (.slice none 0 0)).other (p := ⟨W.heap.size + 1, 1, none⟩) (by simp) (.int .i64 0)).other (p := ⟨W.heap.size + 1, 2, none⟩) (by simp) (.slice none 0 0)).other (p := ⟨W.heap.size + 1, 3, none⟩) (by simp) (.slice none 0 0)).other (p := ⟨W.heap.size + 1, 4, none⟩) (by simp) (.slice none 0 0)).set_ 0 (.int .i64 1)
    have hB := (below_five HB1.out (g := W.heap.size + 1) (by omega) (.slice none 0 0) (.int .i64 0) (.slice none 0 0) (.slice none 0 0) (.slice none 0 0)).setCell (p := ⟨W.heap.size + 1 + 1, 0, none⟩) (show W.heap.size ≤ W.heap.size + 1 + 1 by omega) (.int .i64 1)
    exact ⟨.tuple #[.agg zeroC, .int .i64 1], results_row_cell Tryd.results36 _ _ (W.heap.size + 1) 29 zeroC (0, 0) _ _ rfl ⟨W.heap.size + 1 + 1, 0, none⟩ rfl (load_i64 (hQ.cell 0)) hR Tryd.underlying29 rfl (by kernel_rfl), ConR.zero hB⟩
end Go.Proofs.YtlohjmlenbkbmaaDoor
