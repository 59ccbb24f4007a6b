/- Contracts: letters, digits, the end of a name, IsName of the model and of the program. Condition of the last: the table holds what the program's text lays. -/
import Derived.Test.YtjhemdgeafglhaaDoorClass
import Derived.Test.YtjhemdgeafglhaaDoorNamePlain
import Derived.Test.YtjhemdgeafglhaaDoorBase
import Derived.Below
namespace Go.Proofs.YtjhemdgeafglhaaDoor
open Go Go.RowKit

theorem l02Letter_any (c : Int) (W : World) (h0 : 0 ≤ c) (h1 : c ≤ 255) :
    Calls Tryd.prog 74 #[.int .u8 c] W fun e w' => e = .returned (.bool (letterB c)) ∧ W = w' := by
  rw [letterB_range h0 h1]
  by_cases a : 65 ≤ c
  · have da : decide (65 ≤ c) = true := by simp [a]
    by_cases b : c ≤ 90
    · have db : decide (c ≤ 90) = true := by simp [b]
      have e : (decide (65 ≤ c ∧ c ≤ 90) || decide (97 ≤ c ∧ c ≤ 122)) = true := by simp [a, b]
      rw [e]
      go_enter Tryd.func74, Tryd.ntmps74
      go_wp2
      all_goals go_ret
      all_goals exact ⟨rfl, rfl⟩
    · have db : decide (c ≤ 90) = false := by simp; omega
      by_cases x : 97 ≤ c
      · have dx : decide (97 ≤ c) = true := by simp [x]
        by_cases y : c ≤ 122
        · have dy : decide (c ≤ 122) = true := by simp [y]
          have e : (decide (65 ≤ c ∧ c ≤ 90) || decide (97 ≤ c ∧ c ≤ 122)) = true := by simp [x, y]
          rw [e]
          go_enter Tryd.func74, Tryd.ntmps74
          go_wp2
          all_goals go_ret
          all_goals exact ⟨rfl, rfl⟩
        · have dy : decide (c ≤ 122) = false := by simp; omega
          have e : (decide (65 ≤ c ∧ c ≤ 90) || decide (97 ≤ c ∧ c ≤ 122)) = false := by simp; omega
          rw [e]
          go_enter Tryd.func74, Tryd.ntmps74
          go_wp2
          all_goals go_ret
          all_goals exact ⟨rfl, rfl⟩
      · have dx : decide (97 ≤ c) = false := by simp; omega
        have e : (decide (65 ≤ c ∧ c ≤ 90) || decide (97 ≤ c ∧ c ≤ 122)) = false := by simp; omega
        rw [e]
        go_enter Tryd.func74, Tryd.ntmps74
        go_wp2
        all_goals go_ret
        all_goals exact ⟨rfl, rfl⟩
  · have da : decide (65 ≤ c) = false := by simp; omega
    have dx : decide (97 ≤ c) = false := by simp; omega
    have e : (decide (65 ≤ c ∧ c ≤ 90) || decide (97 ≤ c ∧ c ≤ 122)) = false := by simp; omega
    rw [e]
    go_enter Tryd.func74, Tryd.ntmps74
    go_wp2
    all_goals go_ret
    all_goals exact ⟨rfl, rfl⟩

theorem l02Digit_any (c : Int) (W : World) (h0 : 0 ≤ c) (h1 : c ≤ 255) :
    Calls Tryd.prog 75 #[.int .u8 c] W fun e w' => e = .returned (.bool (digitB c)) ∧ W = w' := by
  rw [digitB_range h0 h1]
  by_cases a : 48 ≤ c
  · have da : decide (48 ≤ c) = true := by simp [a]
    by_cases b : c ≤ 57
    · have db : decide (c ≤ 57) = true := by simp [b]
      have e : decide (48 ≤ c ∧ c ≤ 57) = true := by simp [a, b]
      rw [e]
      go_enter Tryd.func75, Tryd.ntmps75
      go_wp2
      all_goals go_ret
      all_goals exact ⟨rfl, rfl⟩
    · have db : decide (c ≤ 57) = false := by simp; omega
      have e : decide (48 ≤ c ∧ c ≤ 57) = false := by simp; omega
      rw [e]
      go_enter Tryd.func75, Tryd.ntmps75
      go_wp2
      all_goals go_ret
      all_goals exact ⟨rfl, rfl⟩
  · have da : decide (48 ≤ c) = false := by simp; omega
    have e : decide (48 ≤ c ∧ c ≤ 57) = false := by simp; omega
    rw [e]
    go_enter Tryd.func75, Tryd.ntmps75
    go_wp2
    all_goals go_ret
    all_goals exact ⟨rfl, rfl⟩

theorem nat_ret {a b : Nat} (h : a = b) : Ending.returned (.int .i64 (a : Int)) = .returned (.int .i64 (b : Int)) := by rw [h]

set_option maxHeartbeats 1000000 in
theorem l02NameEnd_any (s : ByteArray) (k : Nat) (W : World) (hs : s.size ≤ maxLen) (hk : k ≤ s.size) :
    Calls Tryd.prog 51 #[.string s, .int .i64 k] W fun e w' => e = .returned (.int .i64 (nameEnd s k)) ∧ W = w' := by
  unfold maxLen at hs
  have hb := PlainAid.get_bt s
  by_cases hlt : k < s.size
  · have b0 := PlainAid.bt_nonneg s k
    have b1 := PlainAid.bt_le s k
    have dl : decide (s.size ≤ k) = false := by simp; omega
    obtain ⟨p, hp⟩ : ∃ p, letterB (PlainAid.bt s k) = p := ⟨_, rfl⟩
    have HP := Lib.hid hp
    cases p
    · have HE : Hid (nameEnd s k = k) := nameEnd_no fun _ => hp
      clear hp
      go_enter Tryd.func51, Tryd.ntmps51
      go_wp2_with (go_at_call 74; refine (l02Letter_any _ _ (by omega) (by omega)).mono ?_; rintro e w' ⟨rfl, rfl⟩; rw [HP.out])
      go_ret
      exact ⟨nat_ret HE.out.symm, rfl⟩
    · have HE : Hid (nameEnd s k = runEnd contB s k) := nameEnd_yes hlt hp
      clear hp
      go_enter Tryd.func51, Tryd.ntmps51
      go_wp2_with (go_at_call 74; refine (l02Letter_any _ _ (by omega) (by omega)).mono ?_; rintro e w' ⟨rfl, rfl⟩; rw [HP.out])
      go_loop [1] (fun i => ∃ j : Nat, j ≤ s.size ∧ i = .int .i64 j ∧ Hid (runEnd contB s k = runEnd contB s j)) (fun i => s.size - (intOf i).toNat)
      case atStart => exact ⟨k, hk, rfl, rfl⟩
      case round =>
        obtain ⟨j, hj, rfl, hE⟩ := hrel
        clear b0 b1 dl hlt
        by_cases hlt : j < s.size
        · have b0 := PlainAid.bt_nonneg s j
          have b1 := PlainAid.bt_le s j
          obtain ⟨x, hx⟩ : ∃ x, letterB (PlainAid.bt s j) = x := ⟨_, rfl⟩
          obtain ⟨y, hy⟩ : ∃ y, digitB (PlainAid.bt s j) = y := ⟨_, rfl⟩
          obtain ⟨z, hz⟩ : ∃ z, (PlainAid.bt s j == 95) = z := ⟨_, rfl⟩
          have hc : contB (PlainAid.bt s j) = (x || y || z) := by rw [contB_parts b0 b1, hx, hy, hz]
          have HX := Lib.hid hx
          have HY := Lib.hid hy
          have HC := Lib.hid hc
          clear hx hy hc
          cases x <;> cases y <;> cases z
          all_goals
            go_wp2_with (first
              | (go_at_call 74; refine (l02Letter_any _ _ (by omega) (by omega)).mono ?_; rintro e w' ⟨rfl, rfl⟩; rw [HX.out])
              | (go_at_call 75; refine (l02Digit_any _ _ (by omega) (by omega)).mono ?_; rintro e w' ⟨rfl, rfl⟩; rw [HY.out]))
          · have HS : Hid (runEnd contB s j = j) := runEnd_stop fun _ => HC.out
            go_ret
            exact ⟨nat_ret (by rw [HE.out, hE.out, HS.out]), rfl⟩
          all_goals
            have HS : Hid (runEnd contB s j = runEnd contB s (j + 1)) := runEnd_step hlt HC.out
            go_round
            case rel => exact ⟨j + 1, by omega, by go_num, hE.out.trans HS.out⟩
            case measure => simp [intOf]; omega
        · have HS : Hid (runEnd contB s j = j) := runEnd_stop fun h => absurd h hlt
          go_wp2_with fail
          go_ret
          exact ⟨nat_ret (by rw [HE.out, hE.out, HS.out]), rfl⟩
  · have HE : Hid (nameEnd s k = k) := nameEnd_no fun h => absurd h hlt
    have dl : decide (s.size ≤ k) = true := by simp; omega
    go_enter Tryd.func51, Tryd.ntmps51
    go_wp2_with fail
    go_ret
    exact ⟨nat_ret HE.out.symm, rfl⟩

theorem l02NameEnd_zero (s : ByteArray) (W : World) (hs : s.size ≤ maxLen) :
    Calls Tryd.prog 51 #[.string s, .int .i64 0] W fun e w' => e = .returned (.int .i64 (nameEnd s 0)) ∧ W = w' := l02NameEnd_any s 0 W hs (Nat.zero_le _)

theorem spec_IsName_any (s : ByteArray) (W : World) (hs : s.size ≤ maxLen) :
    Calls Tryd.prog 26 #[.string s] W fun e w' => e = .returned (.bool (isNameB s)) ∧ W = w' := by
  have HS : Hid (s.size ≤ maxLen) := hs
  unfold maxLen at hs
  by_cases h0 : s.size = 0
  · rw [isName_out (.inl h0)]
    have e1 := nil_of_size h0
    have e2 := isEmpty_of_size h0
    go_enter Tryd.func26, Tryd.ntmps26
    go_wp2_with fail
    go_ret
    exact ⟨rfl, rfl⟩
  have hp : 0 < s.size := by omega
  have e1 := ne_nil_of_size hp
  have e2 := not_isEmpty_of_size hp
  by_cases h1 : s.size ≤ 12
  · rw [isName_end hp h1]
    have d1 : decide ((s.size : Int) ≤ 12) = true := by simp; omega
    have hr : ((nameEnd s 0 : Int) == (s.size : Int)) = decide (nameEnd s 0 = s.size) := by
      rw [Bool.eq_iff_iff]; simp; omega
    obtain ⟨x, hx⟩ : ∃ x, decide (nameEnd s 0 = s.size) = x := ⟨_, rfl⟩
    rw [hx] at hr ⊢
    clear hx h0
    have hn : (nameEnd s 0 : Int) ≤ s.size := by
      have := nameEnd_le (Nat.zero_le s.size)
      omega
    cases x
    all_goals
      go_enter Tryd.func26, Tryd.ntmps26
      go_wp2_with (go_at_call 51; refine (l02NameEnd_zero _ _ HS.out).mono ?_; rintro e w' ⟨rfl, rfl⟩)
      go_ret
      exact ⟨rfl, rfl⟩
  · rw [isName_out (.inr (by omega))]
    have d1 : decide ((s.size : Int) ≤ 12) = false := by simp; omega
    go_enter Tryd.func26, Tryd.ntmps26
    go_wp2_with fail
    go_ret
    exact ⟨rfl, rfl⟩

theorem continuesName_any (r : Int) (W : World) (hT : Classes W) :
    Calls Tryd.prog 57 #[.int .i32 r] W fun e w' => e = .returned (.bool (contB r)) ∧ W = w' := by
  unfold contB
  have HT : Hid (Classes W) := hT
  clear hT
  obtain ⟨c, hc⟩ : ∃ c, cls r = c := ⟨_, rfl⟩
  have HC := Lib.hid hc
  rw [hc]
  clear hc
  by_cases a : c = 1
  · subst a
    go_enter Tryd.func57, Tryd.ntmps57
    go_wp2_with (go_at_call 56; refine (classOf_any _ _ HT.out).mono ?_; rintro e w' ⟨rfl, rfl⟩; rw [HC.out])
    go_ret
    exact ⟨rfl, rfl⟩
  by_cases b : c = 2
  · subst b
    go_enter Tryd.func57, Tryd.ntmps57
    go_wp2_with (go_at_call 56; refine (classOf_any _ _ HT.out).mono ?_; rintro e w' ⟨rfl, rfl⟩; rw [HC.out])
    go_ret
    exact ⟨rfl, rfl⟩
  by_cases d : c = 11
  · subst d
    go_enter Tryd.func57, Tryd.ntmps57
    go_wp2_with (go_at_call 56; refine (classOf_any _ _ HT.out).mono ?_; rintro e w' ⟨rfl, rfl⟩; rw [HC.out])
    go_ret
    exact ⟨rfl, rfl⟩
  have ha : (c == 1) = false := by simpa using a
  have hb : (c == 2) = false := by simpa using b
  have hd : (c == 11) = false := by simpa using d
  have hz : (c == 1 || c == 2 || c == 11) = false := by rw [ha, hb, hd]; rfl
  rw [hz]
  clear a b d hz
  go_enter Tryd.func57, Tryd.ntmps57
  go_wp2_with (go_at_call 56; refine (classOf_any _ _ HT.out).mono ?_; rintro e w' ⟨rfl, rfl⟩; rw [HC.out])
  go_ret
  exact ⟨rfl, rfl⟩

theorem impl_IsName_any (s : ByteArray) (W : World) (hs : s.size ≤ maxLen) (hT : Classes W) :
    Calls Tryd.prog 28 #[.string s] W fun e w' => e = .returned (.bool (isNameB s)) ∧ Below W.heap.size W w' := by
  unfold maxLen at hs
  have HT : Hid (Classes W) := hT
  have HG : Hid (1 < W.heap.size) := heap_pos (hT.at_ 0 (by decide))
  have hb := PlainAid.get_bt s
  clear hT
  by_cases h0 : s.size = 0
  · rw [isName_out (.inl h0)]
    have e1 := nil_of_size h0
    have e2 := isEmpty_of_size h0
    go_enter Tryd.func28, Tryd.ntmps28
    go_wp2_with fail
    go_ret
    exact ⟨rfl, Below.refl _ _⟩
  have hp : 0 < s.size := by omega
  have e1 := ne_nil_of_size hp
  have e2 := not_isEmpty_of_size hp
  by_cases h1 : s.size ≤ 12
  · rw [isName_in hp h1]
    have d1 : decide (12 < (s.size : Int)) = false := by simp; omega
    have b0 := PlainAid.bt_nonneg s 0
    have b1 := PlainAid.bt_le s 0
    obtain ⟨x, hx⟩ : ∃ x, letterB (PlainAid.bt s 0) = x := ⟨_, rfl⟩
    rw [hx]
    cases x
    · have hx' : (cls (PlainAid.bt s 0) == 1) = false := hx
      have hx2 : (cls (PlainAid.bt s 0) != 1) = true := by rw [bne, hx']; rfl
      clear hx h0
      go_enter Tryd.func28, Tryd.ntmps28
      go_wp2_with (go_at_call 56; refine (classOf_any _ _ HT.out).mono ?_; rintro e w' ⟨rfl, rfl⟩)
      go_ret
      exact ⟨rfl, Below.refl _ _⟩
    · have hx' : (cls (PlainAid.bt s 0) == 1) = true := hx
      have hx2 : (cls (PlainAid.bt s 0) != 1) = false := by rw [bne, hx']; rfl
      clear hx h0
      go_enter Tryd.func28, Tryd.ntmps28
      go_wp2_with (go_at_call 56; refine (classOf_any _ _ HT.out).mono ?_; rintro e w' ⟨rfl, rfl⟩)
      clear hx' hx2 b0 b1 hb
      go_loopw [] (fun w' => ∃ k : Nat, k ≤ s.size ∧ w' = W.iter s k ∧ Hid (∀ j, j < k → contB (PlainAid.bt s j) = true)) (fun w' => s.size - w'.iterPos W.heap.size)
      case atStart => exact ⟨0, Nat.zero_le _, rfl, fun _ h => absurd h (by omega)⟩
      case round =>
        obtain ⟨k, hk, rfl, hq⟩ := hrel
        have HT2 : Hid (Classes (W.iter s k)) := HT.out.below (below_iter (Below.refl _ _) (Nat.le_refl _) _ _) HG.out
        by_cases hlt : k < s.size
        · have b0 := PlainAid.bt_nonneg s k
          have b1 := PlainAid.bt_le s k
          have hb := PlainAid.get_bt s k hlt
          by_cases h1 : contB (PlainAid.bt s k) = true
          · have HB : Hid (contB (PlainAid.bt s k) = true) := h1
            have hsmall : PlainAid.bt s k < 128 := by
              by_cases hh : 128 ≤ PlainAid.bt s k
              · rw [contB_high hh] at h1
                cases h1
              · omega
            have hd := decode_ascii s k hlt (by omega)
            have hnx : ∀ ty, (Instr.next (.pointer (some ⟨W.heap.size, 0, none⟩)) true ty).run Tryd.prog (W.iter s k) = .ok (.tuple #[.bool true, .int .i64 k, .int .i32 (PlainAid.bt s k)]) (W.iter s (k + 1)) := fun ty => by
              rw [run_next_any W s k ty hlt, hd]
              simp only [hb]
            clear hd h1 hb hsmall
            have HT3 : Hid (Classes (W.iter s (k + 1))) := HT.out.below (below_iter (Below.refl _ _) (Nat.le_refl _) _ _) HG.out
            go_wp2_with (go_at_call 57; refine (continuesName_any _ _ HT3.out).mono ?_; rintro e w' ⟨rfl, rfl⟩; rw [HB.out])
            go_roundw
            case rel => exact ⟨k + 1, by omega, rfl, upto_succ hq.out HB.out⟩
            case measure => simp; omega
          · have h2 : contB (PlainAid.bt s k) = false := by simpa using h1
            have HF : Hid (allB contB s = false) := allB_false k hlt h2
            have hbad : contB ((Utf8.decode s k).1 : Int) = false := by
              by_cases ha : (s[k]'hlt).toNat < 128
              · rw [decode_ascii s k hlt ha]
                simp only [hb]
                exact h2
              · exact contB_high (by have := (decode_high s k hlt (by omega)).1; omega)
            have hnx : ∀ ty, (Instr.next (.pointer (some ⟨W.heap.size, 0, none⟩)) true ty).run Tryd.prog (W.iter s k) = _ := fun ty => run_next_any W s k ty hlt
            generalize (Utf8.decode s k).1 = r at hbad hnx
            generalize (Utf8.decode s k).2 = u at hnx
            have HB := Lib.hid hbad
            have HT3 : Hid (Classes (W.iter s (k + u))) := HT.out.below (below_iter (Below.refl _ _) (Nat.le_refl _) _ _) HG.out
            clear hbad h1 h2 hb
            go_wp2_with (go_at_call 57; refine (continuesName_any _ _ HT3.out).mono ?_; rintro e w' ⟨rfl, rfl⟩; rw [HB.out])
            go_ret
            exact ⟨bool_ret (by rw [HF.out]; rfl), below_iter (Below.refl _ _) (Nat.le_refl _) _ _⟩
        · obtain rfl : k = s.size := by omega
          have HA : Hid (allB contB s = true) := allB_true hq.out
          have hnx : ∀ ty, (Instr.next (.pointer (some ⟨W.heap.size, 0, none⟩)) true ty).run Tryd.prog (W.iter s s.size) = _ := fun ty => run_next_end W s s.size ty hlt
          go_wp2_with fail
          go_ret
          exact ⟨bool_ret (by rw [HA.out]; rfl), below_iter (Below.refl _ _) (Nat.le_refl _) _ _⟩
  · rw [isName_out (.inr (by omega))]
    have d1 : decide (12 < (s.size : Int)) = true := by simp; omega
    go_enter Tryd.func28, Tryd.ntmps28
    go_wp2_with fail
    go_ret
    exact ⟨rfl, Below.refl _ _⟩
end Go.Proofs.YtjhemdgeafglhaaDoor
